/-
  The walks of slices.Clone at []api.Copy and at []int.
-/
import Derived.Test.YtjnpndfpajjihabTRows
import Derived.Lib.SliceRun
namespace Go.Proofs.Ytjnpndfpajjihab
open Go.RowKit

set_option maxHeartbeats 2000000 in
set_option maxRecDepth 100000 in
theorem cloneC_any (a : Option Addr) (c : Nat) (ss : List (Int × ByteArray)) (w : World) (h : SegW w a ss) (hn : ss.length ≤ maxLen) (hbig : ss.length * 24 ≤ 140737488355328) :
    Calls Try.prog 118 #[.slice a ss.length c] w fun e w' => ∃ v', e = .returned v' ∧ w'.ownsRow w.heap.size 91 2 v' ss.length (cellsC ss) ∧ Below w.heap.size w w' := by
  have q22 : ∀ (w : World) (a : Option Addr) (n c n' c' : Nat), (binOp .eql 35 (.slice a n c) (.slice none n' c')).run Try.prog w = .ok (.bool a.isNone) w := fun w a n c n' c' => Lib.run_eql_slice_nil w _ _ a n c n' c' Try.underlying35
  obtain ⟨i0, hi, hz0, hz1, hz2⟩ := info_parts infoC
  rcases a with _ | ad
  · have h0 : ss = [] := by rcases h with h | ⟨b, off, he, _⟩; exact h; cases he
    subst h0
    go_enter Try.func118, Try.ntmps118
    go_wp2
    go_ret
    exact ⟨_, rfl, World.ownsRow_nil _ _ _ _, Below.refl _ _⟩
  · have A : Hid (∀ j u, (cellsC ss)[j]? = some u → w.cell? (ad.add j) = some u) := by
      rcases h with h | ⟨b, off, he, hlt, hc⟩
      · rw [h]; intro j u hj; simp [cellsC] at hj
      · intro j u hj
        cases he
        rw [Addr.add_lit]
        exact SegC.news hc j u hj
    clear h
    go_enter Try.func118, Try.ntmps118
    go_wp2_with (at_builtin; refine wpList_append_own _ rfl _ _ 35 rfl w.heap.size 91 i0 (.agg #[.int .i64 0, .string ⟨#[]⟩]) 2 24 Try.underlying35 hi hz0 hz1 hz2 rfl (by decide) _ _ _ rfl (World.ownsRow_made w #[] 0 (Nat.le_refl _) (Nat.zero_le _) (by simp)) ad ss.length c (cellsC ss) rfl ?qc1 ?qc2 ?qc3 ?qc4 ?qc5 ?qc6 ?_)
    case qc1 => exact cellsC_length ss
    case qc2 => intro j u hj; exact Lib.cell?_alloc_some _ (A.out j u hj)
    case qc3 => exact cellsC_one ss
    case qc4 => rw [Nat.zero_add]; exact hn
    case qc5 => rw [Nat.zero_add]; exact hbig
    case qc6 => simp
    intro v' w1 hown hgrow hnil
    have HO : Hid (w1.ownsRow w.heap.size 91 2 v' ss.length (cellsC ss)) := by unfold Hid; simpa using hown
    have HB : Hid (Below w.heap.size w w1) := (below1 w _).grown hgrow (by simp) (by intro k hk; simp [Value.ownBlock] at hk; omega)
    clear hown hgrow hnil
    go_wp2
    go_ret
    exact ⟨v', rfl, HO.out, HB.out⟩

set_option maxHeartbeats 2000000 in
set_option maxRecDepth 100000 in
theorem cloneI_any (a : Option Addr) (c : Nat) (ss : List Int) (w : World) (h : SegI w a ss) (hn : ss.length ≤ maxLen) (hbig : ss.length * 8 ≤ 140737488355328) :
    Calls Try.prog 119 #[.slice a ss.length c] w fun e w' => ∃ v', e = .returned v' ∧ w'.ownsRow w.heap.size 3 1 v' ss.length (cellsI ss) ∧ Below w.heap.size w w' := by
  have q22 : ∀ (w : World) (a : Option Addr) (n c n' c' : Nat), (binOp .eql 25 (.slice a n c) (.slice none n' c')).run Try.prog w = .ok (.bool a.isNone) w := fun w a n c n' c' => Lib.run_eql_slice_nil w _ _ a n c n' c' Try.underlying25
  obtain ⟨i0, hi, hz0, hz1, hz2⟩ := info_parts infoI
  rcases a with _ | ad
  · have h0 : ss = [] := by rcases h with h | ⟨b, off, he, _⟩; exact h; cases he
    subst h0
    go_enter Try.func119, Try.ntmps119
    go_wp2
    go_ret
    exact ⟨_, rfl, World.ownsRow_nil _ _ _ _, Below.refl _ _⟩
  · have A : Hid (∀ j u, (cellsI ss)[j]? = some u → w.cell? (ad.add j) = some u) := by
      rcases h with h | ⟨b, off, he, hlt, hc⟩
      · rw [h]; intro j u hj; simp [cellsI] at hj
      · intro j u hj
        cases he
        rw [Addr.add_lit]
        exact SegI.news hc j u hj
    clear h
    go_enter Try.func119, Try.ntmps119
    go_wp2_with (at_builtin; refine wpList_append_own _ rfl _ _ 25 rfl w.heap.size 3 i0 (.int .i64 0) 1 8 Try.underlying25 hi hz0 hz1 hz2 rfl (by decide) _ _ _ rfl (World.ownsRow_made w #[] 0 (Nat.le_refl _) (Nat.zero_le _) (by simp)) ad ss.length c (cellsI ss) rfl ?qc1 ?qc2 ?qc3 ?qc4 ?qc5 ?qc6 ?_)
    case qc1 => exact cellsI_length ss
    case qc2 => intro j u hj; exact Lib.cell?_alloc_some _ (A.out j u hj)
    case qc3 => exact cellsI_one
    case qc4 => rw [Nat.zero_add]; exact hn
    case qc5 => rw [Nat.zero_add]; exact hbig
    case qc6 => simp
    intro v' w1 hown hgrow hnil
    have HO : Hid (w1.ownsRow w.heap.size 3 1 v' ss.length (cellsI ss)) := by unfold Hid; simpa using hown
    have HB : Hid (Below w.heap.size w w1) := (below1 w _).grown hgrow (by simp) (by intro k hk; simp [Value.ownBlock] at hk; omega)
    clear hown hgrow hnil
    go_wp2
    go_ret
    exact ⟨v', rfl, HO.out, HB.out⟩

end Go.Proofs.Ytjnpndfpajjihab
