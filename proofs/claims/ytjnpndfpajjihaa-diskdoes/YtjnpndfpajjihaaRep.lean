/-
  The walk of slices.Repeat at []string, of one text thirty-seven times; then of disk.New.
-/
import Derived.Test.YtjnpndfpajjihaaRep0
import Derived.Test.YtjnpndfpajjihaaFit
import Derived.Laws.CopyOwn
namespace Go.Proofs.Ytjnpndfpajjihaa
open Go.RowKit

set_option maxHeartbeats 1000000 in
set_option maxRecDepth 100000 in
theorem rep_any (b off c : Nat) (s : ByteArray) (w : World) (hb : b < w.heap.size) (hc : w.cell? ⟨b, off, none⟩ = some (.string s)) :
    Calls Try.prog 70 #[.slice (some ⟨b, off, none⟩) 1 c, .int .i64 37] w fun e w' => ∃ v', e = .returned v' ∧ w'.ownsRow w.heap.size 9 1 v' 37 (cellsS (List.replicate 37 s)) ∧ Below w.heap.size w w' := by
  have hmk := make37 s
  go_enter Try.func70, Try.ntmps70
  go_wp2_with fail
  refine (mul_1_37 _).mono ?_
  rintro e w1 ⟨rfl, rfl⟩
  go_wp2_with (refine wpList_copy_splice rfl (.tmp 31) (.tmp 32) 22 22 rfl 9 Try.underlying22 sizeS _ _ _ _ _ _ rfl rfl w.heap.size 0 (row s 0 37) 9 ?qc1 (reps s 1) ?qc2 ?qc3 ?qc4 (rep_one s 1) w.heap.size w ?qc5 (Nat.le_refl _) ?_)
  case qc1 => exact heap_alloc_new w _
  case qc2 => rw [reps_length]; rfl
  case qc3 =>
    intro _ j v hj
    obtain ⟨h0, rfl⟩ := reps_at hj
    rw [show j = 0 from by omega, Nat.add_zero]
    exact hc
  case qc4 => rw [row_length, reps_length]; decide
  case qc5 => exact below1 _ _
  intro w2 HG2 hB2
  rw [row_splice] at HG2
  go_wp2
  go_loopw [8] (fun i wr => ∃ n : Nat, 1 ≤ n ∧ n ≤ 37 ∧ i = .int .i64 n ∧ Hid (wr.heap[w.heap.size]? = some (.cells (row s n (37 - n)).toArray 9 (0, 0))) ∧ Below w.heap.size w wr) (fun i _ => 37 - (intOf i).toNat)
  case atStart => exact ⟨1, by omega, by omega, rfl, HG2, hB2⟩
  case round =>
    obtain ⟨n, h1, h37, rfl, HG, hB⟩ := hrel
    clear HG2 hB2
    by_cases hlt : n < 37
    · have hlt' : (n : Int) < 37 := by omega
      have hle' : (n : Int) ≤ 37 := by omega
      have hne : ¬ 37 = n := by omega
      have hlen : (reps s (min n (37 - n))).length ≤ 37 := by rw [reps_length]; omega
      go_wp2
      go_region_law (refine step_copy_splice rfl (.tmp 41) (.tmp 44) 22 22 rfl 9 Try.underlying22 sizeS (some ⟨w.heap.size, n, none⟩) (some ⟨w.heap.size, 0, none⟩) (37 - n) (37 - n) n 37 (by simp [Act.eval, Act.put]) (by simp [Act.eval, Act.put]) w.heap.size n (row s n (37 - n)) 9 HG.out (reps s (min n (37 - n))) (by rw [reps_length]) (fun _ => ⟨rfl, ⟨w.heap.size, 0, none⟩, rfl, row_src HG (Nat.min_le_left _ _)⟩) (by rw [row_length, reps_length]; omega) (rep_one s _) w.heap.size w hB.drew (Nat.le_refl _) ?_; intro w4 HG4 hB4)
      rw [row_splice] at HG4
      go_wp2
      have hw : IntKind.i64.wrap ((n : Int) + ((reps s (min n (37 - n))).length : Int)) = ((n + min n (37 - n) : Nat) : Int) := by
        rw [reps_length]
        rw [IntKind.wrap_i64]
        omega
      rw [hw]
      refine ⟨?_, ?_⟩
      · (repeat apply Exists.intro)
        exact ⟨⟨n + min n (37 - n), by omega, by omega, rfl, by rw [show 37 - (n + min n (37 - n)) = 37 - n - min n (37 - n) from by omega]; exact HG4, hB4⟩, rfl⟩
      · simp [Act.put, intOf]; omega
    · have e : n = 37 := by omega
      have HF : Hid (wr.heap[w.heap.size]? = some (.cells (row s 37 0).toArray 9 (0, 0))) := by have := HG.out; rw [e] at this; exact this
      clear e HG
      go_wp2
      go_ret
      refine ⟨_, rfl, ⟨by simp [cellsS], .inr ⟨w.heap.size, 37, (row s 37 0).toArray, rfl, Nat.le_refl _, HF.out, by omega, by decide, by simp [row], ?_⟩⟩, hB⟩
      simp [row, cellsS]

set_option maxHeartbeats 1000000 in
set_option maxRecDepth 100000 in
theorem new_own (w : World) :
    Calls Try.prog 25 #[] w fun e w' => ∃ g c, e = .returned (.agg #[.slice (some ⟨g, 0, none⟩) 37 c, .slice none 0 0]) ∧ w'.ownsRow w.heap.size 9 1 (.slice (some ⟨g, 0, none⟩) 37 c) 37 (cellsS (List.replicate 37 (fitT ⟨#[]⟩))) ∧ Below w.heap.size w w' := by
  go_enter Try.func25, Try.ntmps25
  go_wp2_with fail
  refine (fit_any ⟨#[]⟩ _ (by decide)).mono ?_
  rintro e w1 ⟨rfl, hb1⟩
  have hs1 : w.heap.size < w1.heap.size := by have := hb1.size; simp at this; omega
  generalize hz : fitT ⟨#[]⟩ = z
  have HZ : Hid (fitT ⟨#[]⟩ = z) := hz
  clear hz
  go_wp2_with fail
  refine (rep_any _ _ _ z _ (by simp) (by simp [go_sem])).mono ?_
  rintro e w2 ⟨v2, rfl, hown, hb2⟩
  have HO := hide hown
  obtain ⟨g, c2, hv2⟩ : ∃ g c2, v2 = .slice (some ⟨g, 0, none⟩) 37 c2 := by
    rcases hown.2 with ⟨_, h0⟩ | ⟨g, cap, cur, e, _⟩
    · cases h0
    · exact ⟨g, cap, e⟩
  subst hv2
  have y0 := cellKeep hb1 (b := w.heap.size) (o := 0) (v := .slice none 0 0) (by simp) (by simp [go_sem])
  have y1 := cellKeep hb1 (b := w.heap.size) (o := 1) (v := .slice none 0 0) (by simp) (by simp [go_sem])
  have f0 := frozKeep hb1 (b := w.heap.size) (o := 0) (v := false) (by simp) (by simp [go_sem])
  have f1 := frozKeep hb1 (b := w.heap.size) (o := 1) (v := false) (by simp) (by simp [go_sem])
  have hb12 : Below w1.heap.size w1 w2 := bthen (below1 _ _) hb2
  have y0' := cellKeep hb12 hs1 y0
  have y1' := cellKeep hb12 hs1 y1
  have f0' := frozKeep hb12 hs1 f0
  have f1' := frozKeep hb12 hs1 f1
  have HB : Hid (Below w.heap.size w w2) := bthen (bthen (below1 _ _) hb1) hb12
  clear hown y0 y1 f0 f1 hb2
  go_wp2
  refine bodyPost_ret (v := .agg #[.slice (some ⟨g, 0, none⟩) 37 c2, .slice none 0 0]) (by simp [results, Try.results25, go_sem, y0', y1']) rfl ⟨g, c2, rfl, ?_, ?_⟩
  · rw [← HZ.out] at HO
    exact owns_base (ownsRow_setCell_below (ownsRow_setCell_below HO.out (a := ⟨w.heap.size, 0, none⟩) (by simp; omega) _) (a := ⟨w.heap.size, 1, none⟩) (by simp; omega) _) (by simp; omega)
  · exact (HB.out.setCell (by simp) _).setCell (by simp) _

theorem new_any (w : World) :
    Calls Try.prog 25 #[] w fun e w' => ∃ v, e = .returned v ∧ IsDk w' v newK ∧ Below w.heap.size w w' := by
  refine (new_own w).mono ?_
  rintro e w' ⟨g, c, rfl, ho, hb⟩
  obtain ⟨a2, c2, hv, hS, _⟩ := SegS.of_owns ho
  cases hv
  exact ⟨_, rfl, ⟨some ⟨g, 0, none⟩, c, none, 0, by simp [newK], hS, .inl rfl, by simp [newK, maxLen], by simp [newK, maxLen]⟩, hb⟩

end Go.Proofs.Ytjnpndfpajjihaa
