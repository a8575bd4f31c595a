/-
  The walks of slices.Clone at []string and at []api.Write.
-/
import Derived.Test.YtjnpndfpajjihaaRead
import Derived.Lib.SliceRun
namespace Go.Proofs.Ytjnpndfpajjihaa
open Go.RowKit

/-- Texts as cells; writes as cells. -/
def cellsS (ss : List ByteArray) : List Value := ss.map Value.string
def cellsW : List (Int × ByteArray) → List Value
  | [] => []
  | x :: r => .int .i64 x.1 :: .string x.2 :: cellsW r

theorem cellsS_length (ss : List ByteArray) : (cellsS ss).length = ss.length * 1 := by simp [cellsS]
theorem cellsW_length (ws : List (Int × ByteArray)) : (cellsW ws).length = ws.length * 2 := by
  induction ws with
  | nil => rfl
  | cons x r ih => simp [cellsW, ih]; omega
theorem cellsW_append (l r : List (Int × ByteArray)) : cellsW (l ++ r) = cellsW l ++ cellsW r := by
  induction l with
  | nil => rfl
  | cons x t ih => simp [cellsW, ih]
theorem cellsS_append (l r : List ByteArray) : cellsS (l ++ r) = cellsS l ++ cellsS r := by simp [cellsS]
theorem cellsS_one {ss : List ByteArray} : ∀ u ∈ cellsS ss, u.oneCell' = true := by
  intro u hu
  obtain ⟨s, _, rfl⟩ := List.mem_map.1 hu
  rfl
theorem cellsW_one (ws : List (Int × ByteArray)) : ∀ u ∈ cellsW ws, u.oneCell' = true := by
  induction ws with
  | nil => intro u hu; cases hu
  | cons x r ih =>
    intro u hu
    simp only [cellsW, List.mem_cons] at hu
    rcases hu with rfl | rfl | hu
    · rfl
    · rfl
    · exact ih u hu
theorem cellsS_at (ss : List ByteArray) (i : Nat) (h : i < ss.length) : (cellsS ss)[i]? = some (.string (ss.getD i ByteArray.empty)) := by
  rw [cellsS, List.getElem?_map, getD_some ss i ByteArray.empty h]; rfl
theorem cellsW_at (ws : List (Int × ByteArray)) (i : Nat) (h : i < ws.length) :
    (cellsW ws)[i * 2]? = some (.int .i64 (ws.getD i (0, ByteArray.empty)).1) ∧ (cellsW ws)[i * 2 + 1]? = some (.string (ws.getD i (0, ByteArray.empty)).2) := by
  induction ws generalizing i with
  | nil => simp at h
  | cons x r ih =>
    cases i with
    | zero => simp [cellsW]
    | succ k =>
      have := ih k (by simpa using h)
      rw [show (k + 1) * 2 = k * 2 + 1 + 1 from by omega]
      simpa [cellsW] using this

theorem SegS.news {w : World} {b off : Nat} {ss : List ByteArray} (h : ∀ i, i < ss.length → w.cell? ⟨b, off + i, none⟩ = some (.string (ss.getD i ByteArray.empty))) :
    ∀ j u, (cellsS ss)[j]? = some u → w.cell? ⟨b, off + j, none⟩ = some u := by
  intro j u hj
  have hlt : j < ss.length := by have := (List.getElem?_eq_some_iff.1 hj).1; simpa [cellsS] using this
  rw [h j hlt, ← cellsS_at ss j hlt, hj]
theorem SegW.news {w : World} {b off : Nat} {ws : List (Int × ByteArray)} (h : ∀ i, i < ws.length →
    w.cell? ⟨b, off + i * 2, none⟩ = some (.int .i64 (ws.getD i (0, ByteArray.empty)).1) ∧ w.cell? ⟨b, off + i * 2 + 1, none⟩ = some (.string (ws.getD i (0, ByteArray.empty)).2)) :
    ∀ j u, (cellsW ws)[j]? = some u → w.cell? ⟨b, off + j, none⟩ = some u := by
  intro j u hj
  have hlt : j < ws.length * 2 := by have := (List.getElem?_eq_some_iff.1 hj).1; rwa [cellsW_length] at this
  have hk : j / 2 < ws.length := by omega
  have e := cellsW_at ws (j / 2) hk
  have g := h (j / 2) hk
  rcases Nat.mod_two_eq_zero_or_one j with h0 | h0
  · have ej : j = j / 2 * 2 := by omega
    rw [ej] at hj ⊢
    rw [g.1, ← e.1, hj]
  · have ej : j = j / 2 * 2 + 1 := by omega
    rw [ej] at hj ⊢
    rw [show off + (j / 2 * 2 + 1) = off + j / 2 * 2 + 1 from by omega, g.2, ← e.2, hj]

/-- A slice of texts of the call's own is a row of texts. -/
theorem SegS.of_owns {w : World} {base n : Nat} {v : Value} {ss : List ByteArray} (h : w.ownsRow base 9 1 v n (cellsS ss)) : ∃ a c, v = .slice a ss.length c ∧ SegS w a ss ∧ ∀ b off, a = some ⟨b, off, none⟩ → base ≤ b := by
  have hn : ss.length = n := by have := h.1; rw [cellsS_length] at this; omega
  subst hn
  rcases h.2 with ⟨rfl, h0⟩ | ⟨g, cap, cur, rfl, hb, hg, rest⟩
  · exact ⟨none, 0, by rw [h0], .inl (List.eq_nil_of_length_eq_zero h0), fun _ _ h => by cases h⟩
  · refine ⟨_, cap, rfl, .inr ⟨g, 0, rfl, (Array.getElem?_eq_some_iff.1 hg).1, fun i hi => ?_⟩, fun _ _ h => by cases h; exact hb⟩
    rw [Nat.zero_add, h.cellAt i (by omega), cellsS_at ss i hi]
theorem SegW.of_owns {w : World} {base n : Nat} {v : Value} {ws : List (Int × ByteArray)} (h : w.ownsRow base 42 2 v n (cellsW ws)) : ∃ a c, v = .slice a ws.length c ∧ SegW w a ws ∧ ∀ b off, a = some ⟨b, off, none⟩ → base ≤ b := by
  have hn : ws.length = n := by have := h.1; rw [cellsW_length] at this; omega
  subst hn
  rcases h.2 with ⟨rfl, h0⟩ | ⟨g, cap, cur, rfl, hb, hg, rest⟩
  · exact ⟨none, 0, by rw [h0], .inl (List.eq_nil_of_length_eq_zero h0), fun _ _ h => by cases h⟩
  · refine ⟨_, cap, rfl, .inr ⟨g, 0, rfl, (Array.getElem?_eq_some_iff.1 hg).1, fun i hi => ?_⟩, fun _ _ h => by cases h; exact hb⟩
    have e := cellsW_at ws i hi
    rw [Nat.zero_add, h.cellAt (i * 2) (by omega), h.cellAt (i * 2 + 1) (by omega)]
    exact e

theorem infoS : (Try.prog.info? 9).map (fun i => (i.zero, i.size, i.bytes)) = some (some (.string ⟨#[]⟩), 1, 16) := by kernel_rfl
theorem infoW : (Try.prog.info? 42).map (fun i => (i.zero, i.size, i.bytes)) = some (some (.agg #[.int .i64 0, .string ⟨#[]⟩]), 2, 24) := by kernel_rfl

set_option maxHeartbeats 2000000 in
set_option maxRecDepth 100000 in
theorem cloneS_any (a : Option Addr) (c : Nat) (ss : List ByteArray) (w : World) (h : SegS w a ss) (hn : ss.length ≤ maxLen) (hbig : ss.length * 16 ≤ 140737488355328) :
    Calls Try.prog 68 #[.slice a ss.length c] w fun e w' => ∃ v', e = .returned v' ∧ w'.ownsRow w.heap.size 9 1 v' ss.length (cellsS ss) ∧ Below w.heap.size w w' := by
  have q22 : ∀ (w : World) (a : Option Addr) (n c n' c' : Nat), (binOp .eql 22 (.slice a n c) (.slice none n' c')).run Try.prog w = .ok (.bool a.isNone) w := fun w a n c n' c' => Lib.run_eql_slice_nil w _ _ a n c n' c' Try.underlying22
  obtain ⟨i0, hi, hz0, hz1, hz2⟩ := info_parts infoS
  rcases a with _ | ad
  · have h0 : ss = [] := by rcases h with h | ⟨b, off, he, _⟩; exact h; cases he
    subst h0
    go_enter Try.func68, Try.ntmps68
    go_wp2
    go_ret
    exact ⟨_, rfl, World.ownsRow_nil _ _ _ _, Below.refl _ _⟩
  · have A : Hid (∀ j u, (cellsS ss)[j]? = some u → w.cell? (ad.add j) = some u) := by
      rcases h with h | ⟨b, off, he, hlt, hc⟩
      · rw [h]; intro j u hj; simp [cellsS] at hj
      · intro j u hj
        cases he
        rw [Addr.add_lit]
        exact SegS.news hc j u hj
    clear h
    go_enter Try.func68, Try.ntmps68
    go_wp2_with (at_builtin; refine wpList_append_own _ rfl _ _ 22 rfl w.heap.size 9 i0 (.string ⟨#[]⟩) 1 16 Try.underlying22 hi hz0 hz1 hz2 rfl (by decide) _ _ _ rfl (World.ownsRow_made w #[] 0 (Nat.le_refl _) (Nat.zero_le _) (by simp)) ad ss.length c (cellsS ss) rfl ?qc1 ?qc2 ?qc3 ?qc4 ?qc5 ?qc6 ?_)
    case qc1 => exact cellsS_length ss
    case qc2 => intro j u hj; exact Lib.cell?_alloc_some _ (A.out j u hj)
    case qc3 => exact cellsS_one
    case qc4 => rw [Nat.zero_add]; exact hn
    case qc5 => rw [Nat.zero_add]; exact hbig
    case qc6 => simp
    intro v' w1 hown hgrow hnil
    have HO : Hid (w1.ownsRow w.heap.size 9 1 v' ss.length (cellsS ss)) := by unfold Hid; simpa using hown
    have HB : Hid (Below w.heap.size w w1) := (below1 w _).grown hgrow (by simp) (by intro k hk; simp [Value.ownBlock] at hk; omega)
    clear hown hgrow hnil
    go_wp2
    go_ret
    exact ⟨v', rfl, HO.out, HB.out⟩

set_option maxHeartbeats 2000000 in
set_option maxRecDepth 100000 in
theorem cloneW_any (a : Option Addr) (c : Nat) (ss : List (Int × ByteArray)) (w : World) (h : SegW w a ss) (hn : ss.length ≤ maxLen) (hbig : ss.length * 24 ≤ 140737488355328) :
    Calls Try.prog 67 #[.slice a ss.length c] w fun e w' => ∃ v', e = .returned v' ∧ w'.ownsRow w.heap.size 42 2 v' ss.length (cellsW ss) ∧ Below w.heap.size w w' := by
  have q22 : ∀ (w : World) (a : Option Addr) (n c n' c' : Nat), (binOp .eql 23 (.slice a n c) (.slice none n' c')).run Try.prog w = .ok (.bool a.isNone) w := fun w a n c n' c' => Lib.run_eql_slice_nil w _ _ a n c n' c' Try.underlying23
  obtain ⟨i0, hi, hz0, hz1, hz2⟩ := info_parts infoW
  rcases a with _ | ad
  · have h0 : ss = [] := by rcases h with h | ⟨b, off, he, _⟩; exact h; cases he
    subst h0
    go_enter Try.func67, Try.ntmps67
    go_wp2
    go_ret
    exact ⟨_, rfl, World.ownsRow_nil _ _ _ _, Below.refl _ _⟩
  · have A : Hid (∀ j u, (cellsW ss)[j]? = some u → w.cell? (ad.add j) = some u) := by
      rcases h with h | ⟨b, off, he, hlt, hc⟩
      · rw [h]; intro j u hj; simp [cellsW] at hj
      · intro j u hj
        cases he
        rw [Addr.add_lit]
        exact SegW.news hc j u hj
    clear h
    go_enter Try.func67, Try.ntmps67
    go_wp2_with (at_builtin; refine wpList_append_own _ rfl _ _ 23 rfl w.heap.size 42 i0 (.agg #[.int .i64 0, .string ⟨#[]⟩]) 2 24 Try.underlying23 hi hz0 hz1 hz2 rfl (by decide) _ _ _ rfl (World.ownsRow_made w #[] 0 (Nat.le_refl _) (Nat.zero_le _) (by simp)) ad ss.length c (cellsW ss) rfl ?qc1 ?qc2 ?qc3 ?qc4 ?qc5 ?qc6 ?_)
    case qc1 => exact cellsW_length ss
    case qc2 => intro j u hj; exact Lib.cell?_alloc_some _ (A.out j u hj)
    case qc3 => exact cellsW_one ss
    case qc4 => rw [Nat.zero_add]; exact hn
    case qc5 => rw [Nat.zero_add]; exact hbig
    case qc6 => simp
    intro v' w1 hown hgrow hnil
    have HO : Hid (w1.ownsRow w.heap.size 42 2 v' ss.length (cellsW ss)) := by unfold Hid; simpa using hown
    have HB : Hid (Below w.heap.size w w1) := (below1 w _).grown hgrow (by simp) (by intro k hk; simp [Value.ownBlock] at hk; omega)
    clear hown hgrow hnil
    go_wp2
    go_ret
    exact ⟨v', rfl, HO.out, HB.out⟩

end Go.Proofs.Ytjnpndfpajjihaa
