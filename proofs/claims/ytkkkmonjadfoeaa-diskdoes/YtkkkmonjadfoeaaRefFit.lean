/-
  The walk of the document's own FitText.
-/
import Derived.Test.YtkkkmonjadfoeaaRefCrash
namespace Go.Proofs.Ytkkkmonjadfoeaa
open Go.RowKit

/-- The array of FitText behind k rounds. -/
def fitRow (s : ByteArray) (k : Nat) : List UInt8 := s.data.toList.take k ++ List.replicate (32 - k) 0
def byteV (b : UInt8) : Value := .int .u8 (b.toNat : Int)

theorem fitRow_length (s : ByteArray) (k : Nat) (h : k ≤ s.size) (h32 : k ≤ 32) : (fitRow s k).length = 32 := by
  have : s.data.toList.length = s.size := rfl
  simp [fitRow]; omega
theorem fitRow_set (s : ByteArray) (k : Nat) (h : k < s.size) (h32 : k < 32) : (fitRow s k).set k s[k] = fitRow s (k + 1) := by
  have hl : s.data.toList.length = s.size := rfl
  have hk : (s.data.toList.take k).length = k := by rw [List.length_take]; omega
  rw [fitRow, List.set_append_right _ _ (by omega), hk, Nat.sub_self, show 32 - k = (31 - k) + 1 from by omega, List.replicate_succ, List.set_cons_zero, fitRow]
  rw [show s.data.toList.take (k + 1) = s.data.toList.take k ++ [s[k]] from by rw [List.take_succ_eq_append_getElem (by simpa using h)]; rfl]
  rw [show 32 - (k + 1) = 31 - k from by omega]
  simp
theorem fitRow_end (s : ByteArray) (k : Nat) (h : k ≤ s.size) (h32 : k ≤ 32) (he : k = s.size ∨ k = 32) : fitRow s k = fitL s := by
  have hl : s.data.toList.length = s.size := rfl
  rw [fitRow, fitL]
  rcases he with e | e
  · rw [e, List.take_of_length_le (by omega), List.take_of_length_le (by omega)]
  · subst e
    rw [show 32 - 32 = 32 - s.size from by omega]

theorem fit0 : (#[Value.int .u8 0, Value.int .u8 0, Value.int .u8 0, Value.int .u8 0, Value.int .u8 0, Value.int .u8 0, Value.int .u8 0, Value.int .u8 0, Value.int .u8 0, Value.int .u8 0, Value.int .u8 0, Value.int .u8 0, Value.int .u8 0, Value.int .u8 0, Value.int .u8 0, Value.int .u8 0, Value.int .u8 0, Value.int .u8 0, Value.int .u8 0, Value.int .u8 0, Value.int .u8 0, Value.int .u8 0, Value.int .u8 0, Value.int .u8 0, Value.int .u8 0, Value.int .u8 0, Value.int .u8 0, Value.int .u8 0, Value.int .u8 0, Value.int .u8 0, Value.int .u8 0, Value.int .u8 0] : Array Value) = ((fitRow ⟨#[]⟩ 0).map byteV).toArray := rfl
theorem fitRow_zero (s : ByteArray) : fitRow s 0 = fitRow ⟨#[]⟩ 0 := by simp [fitRow]

theorem fit_conv (s : ByteArray) (k : Nat) (wr : World) (B : Nat) (hks : k ≤ s.size) (hk : k ≤ 32) (he : k = s.size ∨ k = 32) (hbox : Hid (wr.heap[B]? = some (.cells ((fitRow s k).map byteV).toArray 51 (0, 0)))) :
    (convert 52 9 (.slice (some ⟨B, 0, none⟩) 32 32)).run Try.prog wr = .ok (.string (fitT s)) wr := by
  have hlen : (fitL s).length = 32 := by rw [← fitRow_end s k hks hk he]; exact fitRow_length s k hks hk
  have h := run_convert_bytes_back (P := Try.prog) wr 52 9 5 ⟨B, 0, none⟩ 32 (fitL s) Try.underlying52 Try.underlying5 Try.underlying9 (fun j hj => by
    rw [Addr.add_lit, Nat.zero_add, cell_of_row wr _ _ _ _ _ hbox.out, fitRow_end s k hks hk he]
    simp [hj, byteV])
  rw [hlen] at h
  exact h

set_option maxHeartbeats 2000000 in
set_option maxRecDepth 100000 in
theorem fitText_any (s : ByteArray) (w : World) :
    Calls Try.prog 16 #[.string s] w fun e w' => e = .returned (.string (fitT s)) ∧ Below w.heap.size w w' := by
  go_enter Try.func16, Try.ntmps16
  go_wp2
  rw [fit0, ← fitRow_zero s]
  go_loopw [4] (fun i wr => ∃ k : Nat, k ≤ 32 ∧ k ≤ s.size ∧ i = .int .i64 k ∧ Hid (wr.heap[w.heap.size]? = some (.cells ((fitRow s k).map byteV).toArray 51 (0, 0))) ∧ Below w.heap.size w wr) (fun i _ => 32 - (intOf i).toNat)
  case atStart => exact ⟨0, Nat.zero_le _, Nat.zero_le _, rfl, heap_alloc_new w _, below1 _ _⟩
  case round =>
    obtain ⟨k, hk, hks, rfl, hbox, hbr⟩ := hrel
    by_cases hlt : k < s.size
    · have hlt' : (k : Int) < (s.size : Int) := by omega
      by_cases h32 : k < 32
      · have h32' : (k : Int) < 32 := by omega
        have o0 : wr.cell? ⟨w.heap.size, k, none⟩ = some (byteV ((fitRow s k)[k]'(by rw [fitRow_length s k hks hk]; exact h32))) := by
          rw [cell_of_row wr _ _ _ _ _ hbox.out]
          have hlen : k < (fitRow s k).length := by rw [fitRow_length s k hks hk]; exact h32
          simp [hlen]
        have fz := frozen_of_row wr _ k _ _ hbox.out
        go_wp2
        go_roundw
        case rel =>
          refine ⟨k + 1, by omega, by omega, by go_num, ?_, hbr.setCell (by simp) _⟩
          show (wr.setCell ⟨w.heap.size, k, none⟩ (byteV s[k])).heap[w.heap.size]? = _
          rw [heap_setCell_same wr _ _ _ _ _ hbox.out, ← fitRow_set s k hlt h32, List.map_set]
          simp
        case measure => simp [intOf]; omega
      · have e : k = 32 := by omega
        have hcv := fit_conv s k wr w.heap.size hks hk (.inr e) hbox
        have H32 := hide e
        subst e
        clear hbox H32
        go_wp2
        go_ret
        exact ⟨rfl, hbr⟩
    · have e : k = s.size := by omega
      have hcv := fit_conv s k wr w.heap.size hks hk (.inl e) hbox
      clear hbox e
      go_wp2
      go_ret
      exact ⟨rfl, hbr⟩

theorem cellSet {w : World} {b o : Nat} {v : Value} {p : Addr} {u : Value} (h : w.cell? ⟨b, o, none⟩ = some v) (hne : b ≠ p.block) : (w.setCell p u).cell? ⟨b, o, none⟩ = some v :=
  (World.cell?_of_block (w := w) (a := ⟨b, o, none⟩) (Below.heap_setCell _ _ _ _ hne)).trans h
theorem frozSet {w : World} {b o : Nat} {v : Bool} {p : Addr} {u : Value} (h : w.frozen? ⟨b, o, none⟩ = v) (hne : b ≠ p.block) : (w.setCell p u).frozen? ⟨b, o, none⟩ = v :=
  (World.frozen?_of_block (w := w) (a := ⟨b, o, none⟩) (Below.heap_setCell _ _ _ _ hne)).trans h

set_option maxHeartbeats 2000000 in
set_option maxRecDepth 100000 in
theorem newDisk_any (w : World) :
    Calls Try.prog 18 #[] w fun e w' => ∃ v, e = .returned v ∧ IsDk w' v newK ∧ Below w.heap.size w w' := by
  have hmk := made37
  obtain ⟨z, hz⟩ : ∃ z, z = fitT ⟨#[]⟩ := ⟨_, rfl⟩
  have HZ := hide hz
  have HN : Hid (newK = ⟨List.replicate 37 z, []⟩) := by rw [hz]; rfl
  clear hz
  go_enter Try.func18, Try.ntmps18
  go_wp2
  clear hmk
  go_loopw [8] (fun i wr => ∃ k : Nat, k ≤ 37 ∧ i = .int .i64 k ∧ Hid (wr.ownsRow (w.heap.size + 1) 9 1 (.slice (some ⟨w.heap.size + 1, 0, none⟩) 37 37) 37 (fill (List.replicate k z) (37 - k))) ∧
      wr.cell? ⟨w.heap.size + 2, 0, none⟩ = some (.slice (some ⟨w.heap.size + 1, 0, none⟩) 37 37) ∧ wr.cell? ⟨w.heap.size + 2, 1, none⟩ = some (.slice none 0 0) ∧
      wr.cell? ⟨w.heap.size, 0, none⟩ = some (.slice none 0 0) ∧ wr.cell? ⟨w.heap.size, 1, none⟩ = some (.slice none 0 0) ∧ wr.frozen? ⟨w.heap.size, 0, none⟩ = false ∧ wr.frozen? ⟨w.heap.size, 1, none⟩ = false ∧
      w.heap.size + 2 < wr.heap.size ∧ Below w.heap.size w wr) (fun i _ => 37 - (intOf i).toNat)
  case atStart =>
    refine ⟨0, Nat.zero_le _, rfl, ?_, by simp [go_sem], by simp [go_sem], by simp [go_sem], by simp [go_sem], by simp [go_sem], by simp [go_sem], by simp, ?_⟩
    · have h := (made_owns (w.alloc (.cells #[.slice none 0 0, .slice none 0 0] 25)) (w.heap.size + 1) (by simp)).alloc (.cells #[.slice (some ⟨w.heap.size + 1, 0, none⟩) 37 37, .slice none 0 0] 25)
      unfold Hid
      simpa using h
    · exact bthen (bthen (below1 _ _) (below1 _ _)) (below1 _ _)
  case round =>
    obtain ⟨k, hk, rfl, hown, x0, x1, y0, y1, f0, f1, hsz, hbr⟩ := hrel
    by_cases hlt : k < 37
    · have hlt' : (k : Int) < 37 := by omega
      go_wp2
      go_region_with (go_at_call 16; refine (fitText_any _ _).mono ?_; rintro e w3 ⟨rfl, hb3⟩; rw [← HZ.out]; have hb4 : Below wr.heap.size wr w3 := (((Below.refl wr.heap.size wr).drew).trans hb3); have hs4 := hb4.size; have x2 := cellKeep hb4 hsz x0; have x3 := cellKeep hb4 hsz x1; have hown4 := owns_keep hown.out hb4; rw [show 37 - k = (36 - k) + 1 from by omega] at hown4; have hcc := fill_cell hown4; have hst := fill_step hown4 z; rw [List.length_replicate] at hcc hst; obtain ⟨⟨u, hu⟩, hfz, _, _, _⟩ := hcc; have HST := hide hst; clear hst hown4)
      all_goals
        go_wp2
        go_roundw
        case rel =>
          refine ⟨k + 1, by omega, by go_num, ?_, cellSet x2 (by simp), cellSet x3 (by simp), cellSet (cellKeep hb4 (by omega) y0) (by simp), cellSet (cellKeep hb4 (by omega) y1) (by simp), frozSet (frozKeep hb4 (by omega) f0) (by simp), frozSet (frozKeep hb4 (by omega) f1) (by simp), by simp [World.setCell]; omega, ((hbr.trans (hb4.mono hbr.size))).setCell (by simp) _⟩
          have e : List.replicate (k + 1) z = List.replicate k z ++ [z] := List.replicate_succ'
          rw [show 37 - (k + 1) = 36 - k from by omega, e]
          exact HST
        case measure => simp [intOf]; omega
    · have e : k = 37 := by omega
      have hown' := hown.out
      rw [e, show 37 - 37 = 0 from rfl, fill_full] at hown'
      obtain ⟨a2, c2, hv2, hS2, hA2⟩ := SegS.of_owns hown'
      rw [List.length_replicate] at hv2
      simp only [Value.slice.injEq] at hv2
      obtain ⟨ha2, _, hc2⟩ := hv2
      subst ha2 hc2
      have HS2 := hide hS2
      have HA2 := hide hA2
      clear hown hown' hS2 hA2 e
      go_wp2
      refine bodyPost_ret (v := .agg #[.slice (some ⟨w.heap.size + 1, 0, none⟩) 37 37, .slice none 0 0]) (by simp [results, Try.results18, go_sem, y0, y1]) rfl ⟨_, rfl, ?_, ?_⟩
      · rw [HN.out]
        refine ⟨some ⟨w.heap.size + 1, 0, none⟩, 37, none, 0, ?_, ?_, .inl rfl, ?_, ?_⟩
        · simp
        · exact (HS2.out.setCell HA2.out (by simp) _).setCell HA2.out (by simp) _
        · simp [maxLen]
        · simp [maxLen]
      · exact (hbr.setCell (by simp) _).setCell (by simp) _

end Go.Proofs.Ytkkkmonjadfoeaa
