/-
  The walk of slices.Sort at a row of numbers of the call's own, and of package txn's apart.
  Twelve counters, as an array of numbers. Nothing of the program is proved here.
  The walks of slices.IndexFunc and ContainsFunc at []api.Copy and []api.Handle, of slices.Contains at []int; of package txn's fit, Get, holds, named and Open.
  The walk of package txn's Good.
  The walk of the document's own GoodTxn.
  The walks of wastebooklaw's own good and txns.
-/
import Derived.Test.YtjnpndfpajjihabTGoodA
import Derived.Test.YtjnpndfpajjihabTConcats
import Derived.Test.YtjnpndfpajjihabShelf
import Derived.Sort.OwnSortedInts
import Derived.Shelf.Abstract
import Derived.Deep.RegionHeld3
import Derived.Deep.RegionWith
import Derived.Test.YtjnpndfpajjihabRising
import Derived.Test.YtjnpndfpajjihabXRowsA
namespace Go.Proofs.Ytjnpndfpajjihab
open Go.RowKit

/-- Numbers in their order. -/
def sortN (l : List Int) : List Int := l.mergeSort fun x y => decide (x ≤ y)
theorem sortN_length (l : List Int) : (sortN l).length = l.length := by simp [sortN]
theorem sortN_mem (l : List Int) (x : Int) : x ∈ sortN l ↔ x ∈ l := by simp [sortN]
theorem sortN_up (l : List Int) : Up id (sortN l) ↔ l.Nodup := by
  have hp : (sortN l).Perm l := List.mergeSort_perm l _
  have hs : (sortN l).Pairwise (fun a b => decide (a ≤ b) = true) := List.pairwise_mergeSort (fun a b c h1 h2 => by simp at h1 h2 ⊢; omega) (fun a b => by simp; omega) l
  rw [← hp.nodup_iff]
  constructor
  · intro h
    exact List.Pairwise.imp (fun h => by simp at h; omega) h
  · intro h
    refine (hs.and h).imp ?_
    rintro a b ⟨h1, h2⟩
    simp at h1
    simp only [id]
    omega
theorem sortN_rises (l : List Int) (h : ∀ x ∈ l, 0 ≤ x ∧ x ≤ 11) : rises (sortN l) = decide l.Nodup := by
  rw [Bool.eq_iff_iff, rises_iff, decide_eq_true_iff, sortN_up]
  exact ⟨fun h => h.2, fun e => ⟨fun x hx => h x ((sortN_mem l x).1 hx), e⟩⟩
theorem all_rises (t : Tx) (h1 : rises (blksOf t.info) = true) (h2 : rises (blksOf t.data) = true) (h3 : rises t.rev = true) : rises (sortN (allOf t)) = decide (allOf t).Nodup := by
  refine sortN_rises _ fun x hx => ?_
  rw [rises_iff] at h1 h2 h3
  simp only [allOf, List.mem_append] at hx
  rcases hx with hx | hx | hx
  · exact h1.1 x hx
  · exact h2.1 x hx
  · exact h3.1 x hx
theorem up_length (l : List Int) (a : Int) (n : Nat) (h : ∀ x ∈ l, a ≤ x ∧ x < a + n) (hu : Up id l) : l.length ≤ n := by
  induction n generalizing a l with
  | zero =>
    cases l with
    | nil => simp
    | cons x r => have := h x (by simp); omega
  | succ n ih =>
    cases l with
    | nil => simp
    | cons x r =>
      have hr := List.pairwise_cons.1 hu
      have hx := h x (by simp)
      have := ih r (a + 1) (fun y hy => by have h1 := hr.1 y hy; have h2 := h y (by simp [hy]); simp only [id] at h1; omega) hr.2
      simp; omega
theorem rises_length {l : List Int} (h : rises l = true) : l.length ≤ 12 := by
  rw [rises_iff] at h
  exact up_length l 0 12 (fun x hx => by have := h.1 x hx; omega) h.2

theorem sortI_any (base : Nat) (v : Value) (l : List Int) (w : World) (hown : w.ownsRow base 3 1 v l.length (cellsI l)) (hn : l.length ≤ 1000) :
    Calls Try.prog 122 #[v] w fun e w' => e = .returned (.tuple #[]) ∧ w'.ownsRow base 3 1 v l.length (cellsI (sortN l)) ∧ ∀ W, Below base W w → base ≤ w.heap.size → Below base W w' := by
  rcases hown.2 with ⟨rfl, h0⟩ | ⟨g, cap, cur, rfl, hb, hg, hnc, hcm, hcs, hct⟩
  · have e : l = [] := List.eq_nil_of_length_eq_zero h0
    subst e
    refine (Try.slices_Sort_int_none none 0 w).mono ?_
    rintro e w' ⟨rfl, rfl⟩
    exact ⟨rfl, by rw [show sortN [] = [] from by simp [sortN]]; exact World.ownsRow_nil _ _ _ _, fun W h _ => h⟩
  · have hlt : g < w.heap.size := (Array.getElem?_eq_some_iff.1 hg).1
    refine (Try.slices_Sort_int g 0 cap l w (holds_of_blockI hg (by rw [Nat.mul_one] at hct; exact hct)) hlt (by omega)).mono ?_
    rintro e w' ⟨rfl, n, os, rfl⟩
    refine ⟨rfl, ownsRow_sortedI (ts := sortN l) (ss := l) (sortN_length l) hb hg hnc hcm hcs, fun W h hbw => ?_⟩
    exact h.grown (grownBy_sortedI _) hbw (fun k hk => by cases hk; exact hb)

set_option maxHeartbeats 1000000 in
theorem apart_any (B m c : Nat) (L : List (Option Addr × Nat × List Int)) (w : World) (hm : L.length = m) (hm2 : m ≤ 1000) (h : SegLI w B L) (hn : (flatI L).length ≤ 1000) :
    Calls Try.prog 72 #[.slice (some ⟨B, 0, none⟩) m c] w fun e w' => e = .returned (.bool (rises (sortN (flatI L)))) ∧ Below w.heap.size w w' := by
  go_enter Try.func72, Try.ntmps72
  go_wp2_with fail
  refine (concatI_any B m c L w hm hm2 h hn).mono ?_
  rintro e w1 ⟨v1, rfl, hown1, hb1⟩
  have HO1 := hide hown1
  have HB1 := hide hb1
  clear hown1 hb1 h
  go_wp2_with fail
  refine (sortI_any w.heap.size v1 (flatI L) w1 HO1.out hn).mono ?_
  rintro e w2 ⟨rfl, hown2, hb2⟩
  have HB2 := hide (hb2 w HB1.out HB1.out.size)
  obtain ⟨a2, c2, rfl, hS, _⟩ := SegI.of_owns (l := sortN (flatI L)) (by rw [← sortN_length] at hown2; exact hown2)
  have HS := hide hS
  clear hS hown2 hb2 HO1 HB1
  go_wp2_with fail
  refine (rise_any a2 c2 (sortN (flatI L)) w2 HS.out (by rw [sortN_length]; unfold maxLen; omega)).mono ?_
  rintro e w3 ⟨rfl, rfl⟩
  go_wp2
  go_ret
  exact ⟨rfl, HB2.out⟩

end Go.Proofs.Ytjnpndfpajjihab

namespace Go.Proofs.Ytjnpndfpajjihab
open Go.RowKit

/-- How often a number is in a list, as a value; of all twelve. -/
def cv (l : List Int) (i : Int) : Value := .int .i64 ((l.count i : Nat) : Int)
def cnt12 (l : List Int) : Array Value := #[cv l 0, cv l 1, cv l 2, cv l 3, cv l 4, cv l 5, cv l 6, cv l 7, cv l 8, cv l 9, cv l 10, cv l 11]
theorem cnt12_at (l : List Int) (m : Nat) (h : m < 12) : (cnt12 l)[m]? = some (cv l m) := by
  match m, h with
  | 0, _ => rfl
  | 1, _ => rfl
  | 2, _ => rfl
  | 3, _ => rfl
  | 4, _ => rfl
  | 5, _ => rfl
  | 6, _ => rfl
  | 7, _ => rfl
  | 8, _ => rfl
  | 9, _ => rfl
  | 10, _ => rfl
  | 11, _ => rfl
  | n + 12, h => omega
theorem count_same (l : List Int) (m : Int) : cv (l ++ [m]) m = .int .i64 (((l.count m : Nat) : Int) + 1) := by
  simp [cv]
theorem count_other (l : List Int) (m i : Int) (h : m ≠ i) : cv (l ++ [m]) i = cv l i := by
  simp [cv, List.count_append, h]
theorem cnt12_set (l : List Int) (m : Nat) (h : m < 12) : (cnt12 l).setIfInBounds m (.int .i64 (((l.count (m : Int) : Nat) : Int) + 1)) = cnt12 (l ++ [(m : Int)]) := by
  rw [← count_same]
  match m, h with
  | 0, _ => simp [cnt12, count_other l 0 1 (by decide), count_other l 0 2 (by decide), count_other l 0 3 (by decide), count_other l 0 4 (by decide), count_other l 0 5 (by decide), count_other l 0 6 (by decide), count_other l 0 7 (by decide), count_other l 0 8 (by decide), count_other l 0 9 (by decide), count_other l 0 10 (by decide), count_other l 0 11 (by decide)]
  | 1, _ => simp [cnt12, count_other l 1 0 (by decide), count_other l 1 2 (by decide), count_other l 1 3 (by decide), count_other l 1 4 (by decide), count_other l 1 5 (by decide), count_other l 1 6 (by decide), count_other l 1 7 (by decide), count_other l 1 8 (by decide), count_other l 1 9 (by decide), count_other l 1 10 (by decide), count_other l 1 11 (by decide)]
  | 2, _ => simp [cnt12, count_other l 2 0 (by decide), count_other l 2 1 (by decide), count_other l 2 3 (by decide), count_other l 2 4 (by decide), count_other l 2 5 (by decide), count_other l 2 6 (by decide), count_other l 2 7 (by decide), count_other l 2 8 (by decide), count_other l 2 9 (by decide), count_other l 2 10 (by decide), count_other l 2 11 (by decide)]
  | 3, _ => simp [cnt12, count_other l 3 0 (by decide), count_other l 3 1 (by decide), count_other l 3 2 (by decide), count_other l 3 4 (by decide), count_other l 3 5 (by decide), count_other l 3 6 (by decide), count_other l 3 7 (by decide), count_other l 3 8 (by decide), count_other l 3 9 (by decide), count_other l 3 10 (by decide), count_other l 3 11 (by decide)]
  | 4, _ => simp [cnt12, count_other l 4 0 (by decide), count_other l 4 1 (by decide), count_other l 4 2 (by decide), count_other l 4 3 (by decide), count_other l 4 5 (by decide), count_other l 4 6 (by decide), count_other l 4 7 (by decide), count_other l 4 8 (by decide), count_other l 4 9 (by decide), count_other l 4 10 (by decide), count_other l 4 11 (by decide)]
  | 5, _ => simp [cnt12, count_other l 5 0 (by decide), count_other l 5 1 (by decide), count_other l 5 2 (by decide), count_other l 5 3 (by decide), count_other l 5 4 (by decide), count_other l 5 6 (by decide), count_other l 5 7 (by decide), count_other l 5 8 (by decide), count_other l 5 9 (by decide), count_other l 5 10 (by decide), count_other l 5 11 (by decide)]
  | 6, _ => simp [cnt12, count_other l 6 0 (by decide), count_other l 6 1 (by decide), count_other l 6 2 (by decide), count_other l 6 3 (by decide), count_other l 6 4 (by decide), count_other l 6 5 (by decide), count_other l 6 7 (by decide), count_other l 6 8 (by decide), count_other l 6 9 (by decide), count_other l 6 10 (by decide), count_other l 6 11 (by decide)]
  | 7, _ => simp [cnt12, count_other l 7 0 (by decide), count_other l 7 1 (by decide), count_other l 7 2 (by decide), count_other l 7 3 (by decide), count_other l 7 4 (by decide), count_other l 7 5 (by decide), count_other l 7 6 (by decide), count_other l 7 8 (by decide), count_other l 7 9 (by decide), count_other l 7 10 (by decide), count_other l 7 11 (by decide)]
  | 8, _ => simp [cnt12, count_other l 8 0 (by decide), count_other l 8 1 (by decide), count_other l 8 2 (by decide), count_other l 8 3 (by decide), count_other l 8 4 (by decide), count_other l 8 5 (by decide), count_other l 8 6 (by decide), count_other l 8 7 (by decide), count_other l 8 9 (by decide), count_other l 8 10 (by decide), count_other l 8 11 (by decide)]
  | 9, _ => simp [cnt12, count_other l 9 0 (by decide), count_other l 9 1 (by decide), count_other l 9 2 (by decide), count_other l 9 3 (by decide), count_other l 9 4 (by decide), count_other l 9 5 (by decide), count_other l 9 6 (by decide), count_other l 9 7 (by decide), count_other l 9 8 (by decide), count_other l 9 10 (by decide), count_other l 9 11 (by decide)]
  | 10, _ => simp [cnt12, count_other l 10 0 (by decide), count_other l 10 1 (by decide), count_other l 10 2 (by decide), count_other l 10 3 (by decide), count_other l 10 4 (by decide), count_other l 10 5 (by decide), count_other l 10 6 (by decide), count_other l 10 7 (by decide), count_other l 10 8 (by decide), count_other l 10 9 (by decide), count_other l 10 11 (by decide)]
  | 11, _ => simp [cnt12, count_other l 11 0 (by decide), count_other l 11 1 (by decide), count_other l 11 2 (by decide), count_other l 11 3 (by decide), count_other l 11 4 (by decide), count_other l 11 5 (by decide), count_other l 11 6 (by decide), count_other l 11 7 (by decide), count_other l 11 8 (by decide), count_other l 11 9 (by decide), count_other l 11 10 (by decide)]
  | n + 12, h => omega
theorem cnt12_nil : cnt12 [] = #[.int .i64 0, .int .i64 0, .int .i64 0, .int .i64 0, .int .i64 0, .int .i64 0, .int .i64 0, .int .i64 0, .int .i64 0, .int .i64 0, .int .i64 0, .int .i64 0] := rfl
theorem idx12_0 (l : List Int) (w : World) : (Instr.index 107 (.agg (cnt12 l)) (.int .i64 0)).run Try.prog w = .ok (cv l 0) w := by kernel_rfl
theorem idx12_1 (l : List Int) (w : World) : (Instr.index 107 (.agg (cnt12 l)) (.int .i64 1)).run Try.prog w = .ok (cv l 1) w := by kernel_rfl
theorem idx12_2 (l : List Int) (w : World) : (Instr.index 107 (.agg (cnt12 l)) (.int .i64 2)).run Try.prog w = .ok (cv l 2) w := by kernel_rfl
theorem idx12_3 (l : List Int) (w : World) : (Instr.index 107 (.agg (cnt12 l)) (.int .i64 3)).run Try.prog w = .ok (cv l 3) w := by kernel_rfl
theorem idx12_4 (l : List Int) (w : World) : (Instr.index 107 (.agg (cnt12 l)) (.int .i64 4)).run Try.prog w = .ok (cv l 4) w := by kernel_rfl
theorem idx12_5 (l : List Int) (w : World) : (Instr.index 107 (.agg (cnt12 l)) (.int .i64 5)).run Try.prog w = .ok (cv l 5) w := by kernel_rfl
theorem idx12_6 (l : List Int) (w : World) : (Instr.index 107 (.agg (cnt12 l)) (.int .i64 6)).run Try.prog w = .ok (cv l 6) w := by kernel_rfl
theorem idx12_7 (l : List Int) (w : World) : (Instr.index 107 (.agg (cnt12 l)) (.int .i64 7)).run Try.prog w = .ok (cv l 7) w := by kernel_rfl
theorem idx12_8 (l : List Int) (w : World) : (Instr.index 107 (.agg (cnt12 l)) (.int .i64 8)).run Try.prog w = .ok (cv l 8) w := by kernel_rfl
theorem idx12_9 (l : List Int) (w : World) : (Instr.index 107 (.agg (cnt12 l)) (.int .i64 9)).run Try.prog w = .ok (cv l 9) w := by kernel_rfl
theorem idx12_10 (l : List Int) (w : World) : (Instr.index 107 (.agg (cnt12 l)) (.int .i64 10)).run Try.prog w = .ok (cv l 10) w := by kernel_rfl
theorem idx12_11 (l : List Int) (w : World) : (Instr.index 107 (.agg (cnt12 l)) (.int .i64 11)).run Try.prog w = .ok (cv l 11) w := by kernel_rfl
theorem idx12 (l : List Int) (m : Nat) (h : m < 12) (w : World) : (Instr.index 107 (.agg (cnt12 l)) (.int .i64 (m : Int))).run Try.prog w = .ok (.int .i64 ((l.count (m : Int) : Nat) : Int)) w := by
  match m, h with
  | 0, _ => exact idx12_0 l w
  | 1, _ => exact idx12_1 l w
  | 2, _ => exact idx12_2 l w
  | 3, _ => exact idx12_3 l w
  | 4, _ => exact idx12_4 l w
  | 5, _ => exact idx12_5 l w
  | 6, _ => exact idx12_6 l w
  | 7, _ => exact idx12_7 l w
  | 8, _ => exact idx12_8 l w
  | 9, _ => exact idx12_9 l w
  | 10, _ => exact idx12_10 l w
  | 11, _ => exact idx12_11 l w
  | n + 12, h => omega
theorem box12 {w : World} {B : Nat} {l : List Int} {t : TypeId} (h : w.heap[B]? = some (.cells (cnt12 l) t (0, 0))) :
    (w.cell? ⟨B, 0, none⟩ = some (cv l 0) ∧ w.cell? ⟨B, 1, none⟩ = some (cv l 1) ∧ w.cell? ⟨B, 2, none⟩ = some (cv l 2) ∧ w.cell? ⟨B, 3, none⟩ = some (cv l 3) ∧ w.cell? ⟨B, 4, none⟩ = some (cv l 4) ∧ w.cell? ⟨B, 5, none⟩ = some (cv l 5) ∧ w.cell? ⟨B, 6, none⟩ = some (cv l 6) ∧ w.cell? ⟨B, 7, none⟩ = some (cv l 7) ∧ w.cell? ⟨B, 8, none⟩ = some (cv l 8) ∧ w.cell? ⟨B, 9, none⟩ = some (cv l 9) ∧ w.cell? ⟨B, 10, none⟩ = some (cv l 10) ∧ w.cell? ⟨B, 11, none⟩ = some (cv l 11)) ∧ ∀ k, w.frozen? ⟨B, k, none⟩ = false := by
  refine ⟨⟨?_, ?_, ?_, ?_, ?_, ?_, ?_, ?_, ?_, ?_, ?_, ?_⟩, fun k => frozen_of_row w _ _ _ _ h⟩ <;> (rw [cell_of_row w _ _ _ _ _ h]; rfl)
theorem cell12 {w : World} {B : Nat} {l : List Int} {t : TypeId} (h : w.heap[B]? = some (.cells (cnt12 l) t (0, 0))) (m : Nat) (hm : m < 12) : w.cell? ⟨B, m, none⟩ = some (cv l m) ∧ w.frozen? ⟨B, m, none⟩ = false :=
  ⟨by rw [cell_of_row w _ _ _ _ _ h, cnt12_at l m hm], frozen_of_row w _ _ _ _ h⟩
theorem nodup12 {l : List Int} (h : ∀ x ∈ l, 0 ≤ x ∧ x ≤ 11) : l.Nodup ↔ ∀ m : Nat, m < 12 → l.count (m : Int) ≤ 1 := by
  rw [List.nodup_iff_count]
  constructor
  · intro e m _; exact e _
  · intro e x
    by_cases hx : x ∈ l
    · have := h x hx
      obtain ⟨m, rfl⟩ := Int.eq_ofNat_of_zero_le this.1
      exact e m (by omega)
    · rw [List.count_eq_zero_of_not_mem hx]; omega
theorem all_in (t : Tx) (h1 : rises (blksOf t.info) = true) (h2 : rises (blksOf t.data) = true) (h3 : rises t.rev = true) : ∀ x ∈ allOf t, 0 ≤ x ∧ x ≤ 11 := by
  intro x hx
  rw [rises_iff] at h1 h2 h3
  simp only [allOf, List.mem_append] at hx
  rcases hx with hx | hx | hx
  · exact h1.1 x hx
  · exact h2.1 x hx
  · exact h3.1 x hx
theorem fits_take {l : List (Int × ByteArray)} {k : Nat} {x : Int × ByteArray} (h : l[k]? = some x) (ht : fitsAll (l.take k) = true) : fitsAll (l.take (k + 1)) = fitsB x.2 := by
  rw [List.take_add_one, h]
  unfold fitsAll at ht ⊢
  rw [List.all_append, ht]
  simp
theorem fits_no {l : List (Int × ByteArray)} {k : Nat} {x : Int × ByteArray} (h : l[k]? = some x) (hf : fitsB x.2 = false) : fitsAll l = false := by
  unfold fitsAll
  rw [List.all_eq_false]
  exact ⟨x, List.mem_of_getElem? h, by rw [hf]; simp⟩

end Go.Proofs.Ytjnpndfpajjihab

namespace Go.Proofs.Ytjnpndfpajjihab
open Go.RowKit

/-- What is told of the first one that is so. -/
def Found {α : Type} (p : α → Bool) (l : List α) (i : Int) : Prop := (i = -1 ∧ l.any p = false) ∨ ∃ (k : Nat) (x : α), i = (k : Int) ∧ l[k]? = some x ∧ p x = true ∧ (l.take k).any p = false
theorem found_any {α : Type} {p : α → Bool} {l : List α} {i : Int} (h : Found p l i) : l.any p = decide (0 ≤ i) := by
  rcases h with ⟨rfl, h⟩ | ⟨k, x, rfl, h, hp, _⟩
  · rw [h]; rfl
  · rw [any_hit h hp]; simp

set_option maxHeartbeats 2000000 in
theorem idxC_any (p : Int × ByteArray → Bool) (g : Nat) (lb : Array Value) (eg : ∀ args w, (callFunc g args).run Try.prog w = .ok (.enter g args) w) (a : Option Addr) (c : Nat) (l : List (Int × ByteArray)) (w : World) (h : SegW w a l) (hn : l.length ≤ maxLen)
    (hp : ∀ (x : Int × ByteArray) (W : World), Below w.heap.size w W → Calls Try.prog g (#[.agg #[.int .i64 x.1, .string x.2]] ++ lb) W fun e w' => e = .returned (.bool (p x)) ∧ Below w.heap.size w w') :
    Calls Try.prog 87 #[.slice a l.length c, .func (.func g) #[] lb] w fun e w' => ∃ i : Int, e = .returned (.int .i64 i) ∧ Found p l i ∧ Below w.heap.size w w' := by
  unfold maxLen at hn
  have HS := hide h
  have HP := hide hp
  clear h hp
  go_enter Try.func87, Try.ntmps87
  go_wp2
  go_loopw [8] (fun i wr => ∃ k : Nat, k ≤ l.length ∧ i = .int .i64 k ∧ Hid ((l.take k).any p = false) ∧ Below w.heap.size w wr) (fun i _ => l.length - (intOf i).toNat)
  case atStart => exact ⟨0, Nat.zero_le _, rfl, by simp [Hid], Below.refl _ _⟩
  case round =>
    obtain ⟨k, hk, rfl, hr, hbr⟩ := hrel
    by_cases hlt : k < l.length
    · obtain ⟨b2, off, rfl, hb, hc⟩ := HS.out.resolve_left (by intro e; rw [e] at hlt; simp at hlt)
      obtain ⟨x, hx⟩ : ∃ x, x = l.getD k (0, ByteArray.empty) := ⟨_, rfl⟩
      obtain ⟨hc1, hc2⟩ := hc k hlt
      rw [← hx] at hc1 hc2
      have HX : Hid (l[k]? = some x) := by rw [hx]; exact getD_at _ _ _ hlt
      have g1 := cellKeep hbr hb hc1
      have g2 := cellKeep hbr hb hc2
      have hcall := HP.out x wr hbr
      clear hx hc hc1 hc2
      obtain ⟨n, t⟩ := x
      have hlt' : (k : Int) < (l.length : Int) := by omega
      cases hq : p (n, t) with
      | true =>
        have HF : Hid (Found p l (k : Int)) := .inr ⟨k, (n, t), rfl, HX.out, hq, hr.out⟩
        rw [hq] at hcall
        clear hr HP
        go_wp2_with fail
        refine hcall.mono ?_
        rintro e w' ⟨rfl, hb'⟩
        go_wp2
        go_ret
        exact ⟨_, rfl, HF.out, hb'⟩
      | false =>
        have HR := hide (any_miss HX.out hq hr.out)
        rw [hq] at hcall
        clear hr HP
        go_wp2_with fail
        refine hcall.mono ?_
        rintro e w' ⟨rfl, hb'⟩
        go_wp2
        go_roundw
        case rel => exact ⟨k + 1, by omega, by go_num, HR, hb'⟩
        case measure => simp [intOf]; omega
    · have HF : Hid (Found p l (-1)) := .inl ⟨rfl, by have := hr.out; rw [List.take_of_length_le (by omega)] at this; exact this⟩
      clear hr HP
      go_wp2
      go_ret
      exact ⟨_, rfl, HF.out, hbr⟩

set_option maxHeartbeats 2000000 in
theorem containsC_any (p : Int × ByteArray → Bool) (g : Nat) (lb : Array Value) (eg : ∀ args w, (callFunc g args).run Try.prog w = .ok (.enter g args) w) (a : Option Addr) (c : Nat) (l : List (Int × ByteArray)) (w : World) (h : SegW w a l) (hn : l.length ≤ maxLen)
    (hp : ∀ (x : Int × ByteArray) (W : World), Below w.heap.size w W → Calls Try.prog g (#[.agg #[.int .i64 x.1, .string x.2]] ++ lb) W fun e w' => e = .returned (.bool (p x)) ∧ Below w.heap.size w w') :
    Calls Try.prog 110 #[.slice a l.length c, .func (.func g) #[] lb] w fun e w' => e = .returned (.bool (l.any p)) ∧ Below w.heap.size w w' := by
  go_enter Try.func110, Try.ntmps110
  go_wp2_with fail
  refine (idxC_any p g lb eg a c l w h hn hp).mono ?_
  rintro e w1 ⟨i, rfl, hf, hb⟩
  have HF := hide (found_any hf)
  clear hf
  go_wp2
  go_ret
  exact ⟨by rw [HF.out]; rfl, hb⟩

set_option maxHeartbeats 400000 in
theorem fitLit_any (x : Int × ByteArray) (W : World) :
    Calls Try.prog 120 (#[.agg #[.int .i64 x.1, .string x.2]] ++ #[]) W fun e w' => e = .returned (.bool (!fitsB x.2)) ∧ Below W.heap.size W w' := by
  obtain ⟨n, t⟩ := x
  show Calls Try.prog 120 #[.agg #[.int .i64 n, .string t]] W _
  go_enter Try.func120, Try.ntmps120
  go_wp2
  go_ret
  exact ⟨rfl, below1 _ _⟩

theorem fitsAll_any (l : List (Int × ByteArray)) : fitsAll l = !l.any fun x => !fitsB x.2 := by
  simp [fitsAll, List.all_eq_not_any_not]

set_option maxHeartbeats 400000 in
theorem tFit_any (a : Option Addr) (c : Nat) (l : List (Int × ByteArray)) (w : World) (h : SegW w a l) (hn : l.length ≤ maxLen) :
    Calls Try.prog 69 #[.slice a l.length c] w fun e w' => e = .returned (.bool (fitsAll l)) ∧ Below w.heap.size w w' := by
  rw [fitsAll_any]
  go_enter Try.func69, Try.ntmps69
  go_wp2_with fail
  refine (containsC_any (fun x => !fitsB x.2) 120 #[] (Go.Proofs.enters_of Try.func120 (by kernel_rfl) rfl) a c l w h hn (fun x W hb => (fitLit_any x W).mono fun _ _ ⟨h1, h2⟩ => ⟨h1, hb.trans (h2.mono hb.size)⟩)).mono ?_
  rintro e w1 ⟨rfl, hb⟩
  go_wp2
  go_ret
  exact ⟨rfl, hb⟩

set_option maxHeartbeats 400000 in
theorem getLit_any (B : Nat) (b : Int) (x : Int × ByteArray) (W : World) (hB : B < W.heap.size) (hc : W.cell? ⟨B, 0, none⟩ = some (.int .i64 b)) :
    Calls Try.prog 88 (#[.agg #[.int .i64 x.1, .string x.2]] ++ #[.pointer (some ⟨B, 0, none⟩)]) W fun e w' => e = .returned (.bool (x.1 == b)) ∧ Below W.heap.size W w' := by
  obtain ⟨n, t⟩ := x
  show Calls Try.prog 88 #[.agg #[.int .i64 n, .string t], .pointer (some ⟨B, 0, none⟩)] W _
  have hne : B ≠ W.heap.size := by omega
  go_enter Try.func88, Try.ntmps88
  go_wp2
  go_ret
  exact ⟨rfl, below1 _ _⟩

theorem text_any (l : List (Int × ByteArray)) (b : Int) : (textIn b l).isSome = l.any fun x => x.1 == b := by
  induction l with
  | nil => rfl
  | cons x r ih =>
    rw [textIn, List.any_cons]
    by_cases e : x.1 = b
    · simp [e]
    · rw [if_neg e, ih, show (x.1 == b) = false from by simpa using e]; rfl
theorem text_none {l : List (Int × ByteArray)} {b : Int} (h : (l.any fun x => x.1 == b) = false) : textIn b l = none := by
  have := text_any l b
  rw [h] at this
  cases e : textIn b l with
  | none => rfl
  | some t => rw [e] at this; cases this

set_option maxHeartbeats 1000000 in
theorem tGet_any (a : Option Addr) (c : Nat) (l : List (Int × ByteArray)) (b : Int) (w : World) (h : SegW w a l) (hn : l.length ≤ maxLen) :
    Calls Try.prog 35 #[.slice a l.length c, .int .i64 b] w fun e w' => e = .returned (.tuple #[.string ((textIn b l).getD ⟨#[]⟩), .bool (textIn b l).isSome]) ∧ Below w.heap.size w w' := by
  have HS := hide h
  clear h
  go_enter Try.func35, Try.ntmps35
  go_wp2_with fail
  refine (idxC_any (fun x => x.1 == b) 88 #[.pointer (some ⟨w.heap.size, 0, none⟩)] (Go.Proofs.enters_of Try.func88 (by kernel_rfl) rfl) a c l _ (HS.out.below (below1 _ _)) hn (fun x W hb => (getLit_any w.heap.size b x W (by have := hb.size; simp at this; omega) ((hb.cell (p := ⟨w.heap.size, 0, none⟩) (by simp)).trans (by simp [go_sem]))).mono fun _ _ ⟨h1, h2⟩ => ⟨h1, hb.trans (h2.mono hb.size)⟩)).mono ?_
  rintro e w1 ⟨i, rfl, hf, hb1⟩
  have HB := hide (bthen (below1 _ _) hb1)
  have HS1 := hide (HS.out.below HB.out)
  clear hb1
  rcases hf with ⟨rfl, hf⟩ | ⟨k, x, rfl, hx, hp, ht⟩
  · have HT : Hid (textIn b l = none) := text_none hf
    clear hf
    go_wp2
    go_ret2
    exact ⟨by rw [HT.out]; rfl, HB.out⟩
  · have hp' : x.1 = b := by simpa using hp
    have HT : Hid (textIn b l = some x.2) := text_hit hx hp' (text_none ht)
    have hlt : k < l.length := (List.getElem?_eq_some_iff.1 hx).1
    obtain ⟨b2, off, rfl, hb, hc⟩ := HS1.out.resolve_left (by intro e; rw [e] at hlt; simp at hlt)
    have hg := (hc k hlt).2
    have hxx : l.getD k (0, ByteArray.empty) = x := by rw [List.getD, hx]; rfl
    rw [hxx] at hg
    unfold maxLen at hn
    have hlt' : (k : Int) < (l.length : Int) := by omega
    clear hc hx hp ht hp' hxx
    go_wp2
    go_ret2
    exact ⟨by rw [HT.out]; rfl, HB.out⟩

set_option maxHeartbeats 400000 in
theorem holds_any (a : Option Addr) (c : Nat) (l : List (Int × ByteArray)) (b : Int) (w : World) (h : SegW w a l) (hn : l.length ≤ maxLen) :
    Calls Try.prog 80 #[.slice a l.length c, .int .i64 b] w fun e w' => e = .returned (.bool (textIn b l).isSome) ∧ Below w.heap.size w w' := by
  go_enter Try.func80, Try.ntmps80
  go_wp2_with fail
  refine (tGet_any a c l b w h hn).mono ?_
  rintro e w1 ⟨rfl, hb1⟩
  go_wp2
  go_ret
  exact ⟨rfl, hb1⟩

set_option maxHeartbeats 1000000 in
theorem indexI_any (a : Option Addr) (c : Nat) (l : List Int) (b : Int) (w : World) (h : SegI w a l) (hn : l.length ≤ maxLen) :
    Calls Try.prog 135 #[.slice a l.length c, .int .i64 b] w fun e w' => ∃ i : Int, e = .returned (.int .i64 i) ∧ Found (· == b) l i ∧ w = w' := by
  unfold maxLen at hn
  have HS := hide h
  clear h
  go_enter Try.func135, Try.ntmps135
  go_wp2
  go_loop [8] (fun i => ∃ k : Nat, k ≤ l.length ∧ i = .int .i64 k ∧ Hid ((l.take k).any (· == b) = false)) (fun i => l.length - (intOf i).toNat)
  case atStart => exact ⟨0, Nat.zero_le _, rfl, by simp [Hid]⟩
  case round =>
    obtain ⟨k, hk, rfl, hr⟩ := hrel
    by_cases hlt : k < l.length
    · obtain ⟨b2, off, rfl, hb, hc⟩ := HS.out.resolve_left (by intro e; rw [e] at hlt; simp at hlt)
      obtain ⟨x, hx⟩ : ∃ x, x = l.getD k 0 := ⟨_, rfl⟩
      have hck := hc k hlt
      rw [← hx] at hck
      have HX : Hid (l[k]? = some x) := by rw [hx]; exact getD_at _ _ _ hlt
      clear hx hc
      have hlt' : (k : Int) < (l.length : Int) := by omega
      by_cases he : x = b
      · have HF : Hid (Found (· == b) l (k : Int)) := .inr ⟨k, x, rfl, HX.out, by simpa using he, hr.out⟩
        subst he
        clear hr
        go_wp2
        go_ret
        exact ⟨_, rfl, HF.out, rfl⟩
      · have HR := hide (any_miss HX.out (show (x == b) = false by simpa using he) hr.out)
        have he' : ¬ b = x := fun e => he e.symm
        clear hr
        go_wp2
        go_round
        case rel => exact ⟨k + 1, by omega, by go_num, HR⟩
        case measure => simp [intOf]; omega
    · have HF : Hid (Found (· == b) l (-1)) := .inl ⟨rfl, by have := hr.out; rw [List.take_of_length_le (by omega)] at this; exact this⟩
      clear hr
      go_wp2
      go_ret
      exact ⟨_, rfl, HF.out, rfl⟩

set_option maxHeartbeats 400000 in
theorem containsI_any (a : Option Addr) (c : Nat) (l : List Int) (b : Int) (w : World) (h : SegI w a l) (hn : l.length ≤ maxLen) :
    Calls Try.prog 90 #[.slice a l.length c, .int .i64 b] w fun e w' => e = .returned (.bool (amongB l b)) ∧ w = w' := by
  go_enter Try.func90, Try.ntmps90
  go_wp2_with fail
  refine (indexI_any a c l b w h hn).mono ?_
  rintro e w1 ⟨i, rfl, hf, rfl⟩
  have HF : Hid (amongB l b = decide (0 ≤ i)) := found_any hf
  clear hf
  go_wp2
  go_ret
  exact ⟨by rw [HF.out]; rfl, rfl⟩

end Go.Proofs.Ytjnpndfpajjihab

namespace Go.Proofs.Ytjnpndfpajjihab
open Go.RowKit

theorem goodX_eq (t : Tx) : goodX t = (withinB t.seq 1 2147483647 && (fitsAll t.info && fitsAll t.data) && (rises (blksOf t.info) && rises (blksOf t.data) && rises t.rev) && decide (allOf t).Nodup && (hdB t.h0 && hdB t.h1 && hdB t.h2)) := rfl

set_option maxHeartbeats 4000000 in
set_option maxRecDepth 100000 in
theorem tGood_any (v : Value) (t : Tx) (w : World) (hT : IsTx w v t) (r1 : t.info.length * 24 ≤ 140737488355328) (r2 : t.data.length * 24 ≤ 140737488355328) :
    Calls Try.prog 22 #[v] w fun e w' => e = .returned (.bool (goodX t)) ∧ Below w.heap.size w w' := by
  obtain ⟨a, c, a', c', r, d, rfl, hM, hD, hR, n1, n2, n3⟩ := hT
  have HM := hide hM
  have HD := hide hD
  have HR := hide hR
  have N1 := hide n1
  have N2 := hide n2
  have N3 := hide n3
  clear hM hD hR n1 n2 n3
  cases h0 : withinB t.seq 1 2147483647 with
  | false =>
    have HG : Hid (goodX t = false) := by rw [Hid, goodX_eq, h0]; rfl
    go_enter Try.func22, Try.ntmps22
    go_wp2_with (go_at_call 64; refine (tWithin_any _ _ _ _).mono ?_; rintro e w' ⟨rfl, rfl⟩)
    go_ret
    exact ⟨by rw [HG.out]; rfl, below1 _ _⟩
  | true =>
    have H0 := hide h0
    go_enter Try.func22, Try.ntmps22
    go_wp2_with (go_at_call 64; refine (tWithin_any _ _ _ _).mono ?_; rintro e w' ⟨rfl, rfl⟩)
    clear h0
    refine (tFit_any a c t.info _ (HM.out.below (below1 _ _)) N1.out).mono ?_
    rintro e w1 ⟨rfl, hb1⟩
    have hs1 : w.heap.size < w1.heap.size := by have := hb1.size; simp at this; omega
    have K1 := hide (one1 hb1)
    obtain ⟨⟨_, x1, x2, x3, _⟩, _⟩ := box10 K1.out
    have HB1 := hide (bthen (below1 _ _) hb1)
    clear hb1
    cases h1 : fitsAll t.info with
    | false =>
      have HG : Hid (goodX t = false) := by rw [Hid, goodX_eq, h1]; simp
      go_wp2
      go_ret
      exact ⟨by rw [HG.out]; rfl, HB1.out⟩
    | true =>
      have H1 := hide h1
      clear h1
      go_wp2_with fail
      refine (tFit_any a' c' t.data _ (HD.out.below HB1.out) N2.out).mono ?_
      rintro e w2 ⟨rfl, hb2⟩
      have hs2 : w.heap.size < w2.heap.size := by have := hb2.size; omega
      have K2 := hide (boxKeep hb2 hs1 K1.out)
      have HB2 := hide (bthen HB1.out hb2)
      clear hb2 K1 x1 x2 x3 HB1
      obtain ⟨⟨x0, x1, x2, x3, x4, x5, x6, x7, x8, x9⟩, _⟩ := box10 K2.out
      cases h2 : fitsAll t.data with
      | false =>
        have HG : Hid (goodX t = false) := by rw [Hid, goodX_eq, h2]; simp
        go_wp2
        go_ret
        exact ⟨by rw [HG.out]; rfl, HB2.out⟩
      | true =>
        have H2 := hide h2
        clear h2
        go_wp2
        have HALL : Hid (∀ w', Below w2.heap.size w2 w' → Hid (Below w2.heap.size w2 w') ∧ w'.cell? ⟨w.heap.size, 1, none⟩ = some (.slice a t.info.length c) ∧ w'.cell? ⟨w.heap.size, 2, none⟩ = some (.slice a' t.data.length c')) :=
          fun w' hb => ⟨hb, cellKeep hb hs2 x1, cellKeep hb hs2 x2⟩
        clear x0 x1 x2 x3 x4 x5 x6 x7 x8 x9
        go_region_held3 (fun w' => Hid (Below w2.heap.size w2 w') ∧ w'.cell? ⟨w.heap.size, 1, none⟩ = some (.slice a t.info.length c) ∧ w'.cell? ⟨w.heap.size, 2, none⟩ = some (.slice a' t.data.length c'))
          (first | exact HALL.out _ ((Below.refl _ _).drew) | (refine HALL.out _ ?_; assumption))
          (first
            | (go_at_call_of 70 (t.info); (have hnow := (‹Hid (Below w2.heap.size w2 _) ∧ _›).1); have HNOW := hide hnow.out; refine (blocks_any a c t.info _ ?_ r1).mono ?_; exact HM.out.below (bthen HB2.out hnow.out); clear hnow; rintro e w10 ⟨am, cm, rfl, hsm, hb10⟩; have hbN := bthen HNOW.out hb10; have HSM := hide hsm; clear hb10 HNOW hsm)
            | (go_at_call_of 70 (t.data); (have hnow := (‹Hid (Below w2.heap.size w2 _) ∧ _›).1); have HNOW := hide hnow.out; refine (blocks_any a' c' t.data _ ?_ r2).mono ?_; exact HD.out.below (bthen HB2.out hnow.out); clear hnow; rintro e w11 ⟨ad, cd, rfl, hsd, hb10⟩; have hbN := bthen HNOW.out hb10; have HSD := hide hsd; have HSM2 := hide (HSM.out.below hb10); clear hb10 HNOW hsd))
        have hnow := (‹Hid (Below w2.heap.size w2 w11) ∧ _›).1
        have HB3 := hide (bthen HB2.out hnow.out)
        have hs3 : w.heap.size < w11.heap.size := by have := hnow.out.size; omega
        have K3 := hide (boxKeep hnow.out hs2 K2.out)
        have HR3 := hide (HR.out.below HB3.out)
        obtain ⟨⟨_, _, _, x3, x4, x5, x6, x7, x8, x9⟩, _⟩ := box10 K3.out
        have rM := rise_any am cm (blksOf t.info) w11 HSM2.out (by rw [blks_length]; exact N1.out)
        have rD := rise_any ad cd (blksOf t.data) w11 HSD.out (by rw [blks_length]; exact N2.out)
        have rR := rise_any r d t.rev w11 HR3.out N3.out
        rw [blks_length] at rM rD
        clear hnow HALL HM HD HR
        go_wp2_with fail
        refine rM.mono ?_
        rintro e w12 ⟨rfl, rfl⟩
        cases h3 : rises (blksOf t.info) with
        | false =>
          have HG : Hid (goodX t = false) := by rw [Hid, goodX_eq, h3]; simp
          go_wp2
          go_ret
          exact ⟨by rw [HG.out]; rfl, HB3.out⟩
        | true =>
          go_wp2_with fail
          refine rD.mono ?_
          rintro e w12 ⟨rfl, rfl⟩
          cases h4 : rises (blksOf t.data) with
          | false =>
            have HG : Hid (goodX t = false) := by rw [Hid, goodX_eq, h4]; simp
            go_wp2
            go_ret
            exact ⟨by rw [HG.out]; rfl, HB3.out⟩
          | true =>
            go_wp2_with fail
            refine rR.mono ?_
            rintro e w12 ⟨rfl, rfl⟩
            cases h5 : rises t.rev with
            | false =>
              have HG : Hid (goodX t = false) := by rw [Hid, goodX_eq, h5]; simp
              go_wp2
              go_ret
              exact ⟨by rw [HG.out]; rfl, HB3.out⟩
            | true =>
              have q3 := rises_length h3
              have q4 := rises_length h4
              have q5 := rises_length h5
              have HN := hide (all_rises t h3 h4 h5)
              have HF : Hid (flatI [(am, cm, blksOf t.info), (ad, cd, blksOf t.data), (r, d, t.rev)] = allOf t) := by simp [Hid, flatI, allOf]
              have HL : Hid (∀ w', Below w11.heap.size w11 w' → w'.cell? ⟨w11.heap.size, 0, none⟩ = some (.slice am (blksOf t.info).length cm) → w'.cell? ⟨w11.heap.size, 1, none⟩ = some (.slice ad (blksOf t.data).length cd) → w'.cell? ⟨w11.heap.size, 2, none⟩ = some (.slice r t.rev.length d) → w11.heap.size < w'.heap.size → SegLI w' w11.heap.size [(am, cm, blksOf t.info), (ad, cd, blksOf t.data), (r, d, t.rev)]) := by
                intro w' hb c0 c1 c2 hlt
                refine ⟨hlt, fun i x hx => ?_⟩
                match i, hx with
                | 0, hx => cases hx; exact ⟨c0, HSM2.out.below hb⟩
                | 1, hx => cases hx; exact ⟨c1, HSD.out.below hb⟩
                | 2, hx => cases hx; exact ⟨c2, HR3.out.below hb⟩
                | n + 3, hx => simp at hx
              go_wp2_with fail
              refine (apart_any w11.heap.size 3 3 [(am, cm, blksOf t.info), (ad, cd, blksOf t.data), (r, d, t.rev)] _ rfl (by omega) (HL.out _ (below1 _ _) (by rw [blks_length]; simp [go_sem]) (by rw [blks_length]; simp [go_sem]) (by simp [go_sem]) (by simp)) (by rw [HF.out, allOf, List.length_append, List.length_append]; omega)).mono ?_
              rintro e w12 ⟨rfl, hb12⟩
              rw [HF.out, HN.out]
              have hb13 := bthen (below1 _ _) hb12
              have HB4 := hide (bthen HB3.out hb13)
              have hs4 : w.heap.size < w12.heap.size := by have := hb13.size; omega
              have K4 := hide (boxKeep hb13 hs3 K3.out)
              clear x3 x4 x5 x6 x7 x8 x9 hb12 hb13
              obtain ⟨⟨_, _, _, _, x4, x5, x6, x7, x8, x9⟩, _⟩ := box10 K4.out
              cases h6 : decide (allOf t).Nodup with
              | false =>
                have HG : Hid (goodX t = false) := by rw [Hid, goodX_eq, h6]; simp
                go_wp2
                go_ret
                exact ⟨by rw [HG.out]; rfl, HB4.out⟩
              | true =>
                have HG : Hid (goodX t = (hdB t.h0 && hdB t.h1 && hdB t.h2)) := by rw [Hid, goodX_eq, H0.out, H1.out, H2.out, h3, h4, h5, h6]; simp
                go_wp2_with fail
                refine (bounded_any t.h0 t.h1 t.h2 _).mono ?_
                rintro e w13 ⟨rfl, hb13⟩
                go_wp2
                go_ret
                exact ⟨by rw [HG.out]; rfl, bthen HB4.out hb13⟩

end Go.Proofs.Ytjnpndfpajjihab

namespace Go.Proofs.Ytjnpndfpajjihab
open Go.RowKit

theorem blks_pre (l : List (Int × ByteArray)) (k : Nat) : (blksOf l).take k = blksOf (l.take k) := by simp [blksOf]
theorem count_le_len (l : List Int) (x : Int) (n : Nat) (h : l.length ≤ n) : l.count x ≤ n := Nat.le_trans List.count_le_length h

set_option maxHeartbeats 4000000 in
set_option maxRecDepth 100000 in
theorem goodTxn_any (v : Value) (t : Tx) (w : World) (hT : IsTx w v t) (r1 : t.info.length * 24 ≤ 140737488355328) (r2 : t.data.length * 24 ≤ 140737488355328) :
    Calls Try.prog 23 #[v] w fun e w' => e = .returned (.bool (goodX t)) ∧ Below w.heap.size w w' := by
  obtain ⟨a, c, a', c', r, d, rfl, hM, hD, hR, n1, n2, n3⟩ := hT
  have HM := hide hM
  have HD := hide hD
  have HR0 := hide hR
  have N3 := hide n3
  clear hM hD hR n1 n2 n3
  go_enter Try.func23, Try.ntmps23
  go_wp2
  go_loopw [4, 19] (fun q i wr => ∃ k : Nat, k ≤ t.info.length ∧ i = .int .i64 k ∧ q = .int .i64 (lastNum (-1) (blksOf (t.info.take k))) ∧ -1 ≤ lastNum (-1) (blksOf (t.info.take k)) ∧ Hid (rises (blksOf (t.info.take k)) = true ∧ fitsAll (t.info.take k) = true) ∧ Hid (wr.heap[w.heap.size + 1]? = some (.cells (cnt12 (blksOf (t.info.take k))) 107 (0, 0))) ∧ Hid (wr.heap[w.heap.size]? = some (.cells #[.int .i64 t.seq, .slice a t.info.length c, .slice a' t.data.length c', .slice r t.rev.length d, .bool t.h0.on, .int .i64 t.h0.left, .bool t.h1.on, .int .i64 t.h1.left, .bool t.h2.on, .int .i64 t.h2.left] 40 (0, 0))) ∧ Hid (Below w.heap.size w wr)) (fun _ i _ => t.info.length - (intOf i).toNat)
  case atStart => exact ⟨0, Nat.zero_le _, rfl, rfl, by simp [blksOf, lastNum], ⟨rfl, rfl⟩, two2 (Below.refl _ _), two1 (Below.refl _ _), bthen (below1 _ _) (below1 _ _)⟩
  case round =>
    obtain ⟨k, hk, rfl, rfl, hq1, hr, KW, KT, HB⟩ := hrel
    have hlt0 := (Array.getElem?_eq_some_iff.1 KW.out).1
    have hlt1 : w.heap.size < wr.heap.size := by omega
    by_cases hlt : k < t.info.length
    · obtain ⟨b2, off, rfl, hb, hc⟩ := HM.out.resolve_left (by intro e; rw [e] at hlt; simp at hlt)
      obtain ⟨x, hx⟩ : ∃ x, x = t.info.getD k (0, ByteArray.empty) := ⟨_, rfl⟩
      obtain ⟨hc1, hc2⟩ := hc k hlt
      rw [← hx] at hc1 hc2
      have HX : Hid (t.info[k]? = some x) := by rw [hx]; exact getD_at _ _ _ hlt
      have g1 := cellKeep HB.out hb hc1
      have g2 := cellKeep HB.out hb hc2
      clear hx hc hc1 hc2
      obtain ⟨n, s⟩ := x
      obtain ⟨q, hq⟩ : ∃ q, q = lastNum (-1) (blksOf (t.info.take k)) := ⟨_, rfl⟩
      have HQ := hide hq
      rw [← hq] at hq1
      rw [← hq]
      clear hq
      have HT1 : Hid (blksOf (t.info.take (k + 1)) = blksOf (t.info.take k) ++ [n]) := blks_take (x := (n, s)) HX.out
      have hlt' : (k : Int) < (t.info.length : Int) := by omega
      have hal := fun o => HB.out.alloc HB.out.size o
      by_cases h1 : n ≤ q
      · have HG : Hid (goodX t = false) := by
          have : rises (blksOf t.info) = false := rises_no (-1) (blksOf t.info) (k + 1) (by rw [blks_pre, HT1.out, rises_snoc, ← HQ.out]; simp [h1])
          rw [Hid, goodX_eq, this]; simp
        clear hr
        go_wp2
        go_ret
        exact ⟨by rw [HG.out]; rfl, hal _⟩
      · by_cases h2 : 11 < n
        · have HG : Hid (goodX t = false) := by
            have : rises (blksOf t.info) = false := rises_no (-1) (blksOf t.info) (k + 1) (by rw [blks_pre, HT1.out, rises_snoc, ← HQ.out]; simp [h2])
            rw [Hid, goodX_eq, this]; simp
          clear hr
          go_wp2
          go_ret
          exact ⟨by rw [HG.out]; rfl, hal _⟩
        · by_cases h3 : (s.size : Int) = 32
          · have hf : fitsB s = true := by simpa [fitsB] using h3
            have HR : Hid (rises (blksOf (t.info.take (k + 1))) = true ∧ fitsAll (t.info.take (k + 1)) = true) := by
              refine ⟨?_, by rw [fits_take HX.out hr.out.2]; exact hf⟩
              have h0 := hr.out.1
              rw [rises] at h0 ⊢
              rw [HT1.out, rises_snoc, h0, ← HQ.out]; simp [h1, h2]
            obtain ⟨m, rfl⟩ := Int.eq_ofNat_of_zero_le (show 0 ≤ n by omega)
            have hm : m < 12 := by omega
            obtain ⟨cm, fm⟩ := cell12 KW.out m hm
            rw [cv] at cm
            have hsz : (wr.setCell ⟨w.heap.size + 1, m, none⟩ (.int .i64 ((((blksOf (t.info.take k)).count (m : Int) : Nat) : Int) + 1))).heap.size = wr.heap.size := by simp
            have HW : Hid (((wr.setCell ⟨w.heap.size + 1, m, none⟩ (.int .i64 ((((blksOf (t.info.take k)).count (m : Int) : Nat) : Int) + 1))).alloc (.cells #[.int .i64 (m : Int), .string s] 91)).heap[w.heap.size + 1]? = some (.cells (cnt12 (blksOf (t.info.take (k + 1)))) 107 (0, 0))) := by
              rw [Hid, Below.heap_alloc _ _ _ (by rw [hsz]; exact hlt0), heap_setCell_same _ _ m _ _ _ KW.out, cnt12_set _ m hm]
              rw [HT1.out]
            have HK : Hid (((wr.setCell ⟨w.heap.size + 1, m, none⟩ (.int .i64 ((((blksOf (t.info.take k)).count (m : Int) : Nat) : Int) + 1))).alloc (.cells #[.int .i64 (m : Int), .string s] 91)).heap[w.heap.size]? = _) := (Below.heap_alloc _ _ _ (by rw [hsz]; exact hlt1)).trans ((Below.heap_setCell _ _ _ _ (by simp)).trans KT.out)
            have HBB : Hid (Below w.heap.size w ((wr.setCell ⟨w.heap.size + 1, m, none⟩ (.int .i64 ((((blksOf (t.info.take k)).count (m : Int) : Nat) : Int) + 1))).alloc (.cells #[.int .i64 (m : Int), .string s] 91))) := (HB.out.setCell (by simp) _).alloc (by rw [hsz]; exact HB.out.size) _
            clear hsz
            have hcb : (blksOf (t.info.take k)).count (m : Int) ≤ 9223372036854775000 := by
              exact count_le_len _ _ _ (by rw [blks_length, List.length_take]; omega)
            generalize (blksOf (t.info.take k)).count (m : Int) = cq at *
            clear hr KW
            go_wp2
            go_roundw
            case rel => exact ⟨k + 1, by omega, by go_num, by rw [HT1.out, lastNum_snoc], by rw [HT1.out, lastNum_snoc]; omega, HR, HW, HK, HBB⟩
            case measure => simp [intOf]; omega
          · have HG : Hid (goodX t = false) := by
              have : fitsAll t.info = false := fits_no HX.out (by simpa [fitsB] using h3)
              rw [Hid, goodX_eq, this]; simp
            clear hr
            go_wp2
            go_ret
            exact ⟨by rw [HG.out]; rfl, hal _⟩
    · have ek : k = t.info.length := by omega
      subst ek
      rw [List.take_length] at hr KW
      clear hlt hk hq1
      have H1 := hr
      clear hr
      obtain ⟨⟨x0, x1, x2, x3, x4, x5, x6, x7, x8, x9⟩, _⟩ := box10 KT.out
      go_wp2
      clear x0 x1 x2 x3 x4 x5 x6 x7 x8 x9
      go_loopw [4, 50] (fun q i wr => ∃ k : Nat, k ≤ t.data.length ∧ i = .int .i64 k ∧ q = .int .i64 (lastNum (-1) (blksOf (t.data.take k))) ∧ -1 ≤ lastNum (-1) (blksOf (t.data.take k)) ∧ Hid (rises (blksOf (t.data.take k)) = true ∧ fitsAll (t.data.take k) = true) ∧ Hid (wr.heap[w.heap.size + 1]? = some (.cells (cnt12 (blksOf t.info ++ blksOf (t.data.take k))) 107 (0, 0))) ∧ Hid (wr.heap[w.heap.size]? = some (.cells #[.int .i64 t.seq, .slice a t.info.length c, .slice a' t.data.length c', .slice r t.rev.length d, .bool t.h0.on, .int .i64 t.h0.left, .bool t.h1.on, .int .i64 t.h1.left, .bool t.h2.on, .int .i64 t.h2.left] 40 (0, 0))) ∧ Hid (Below w.heap.size w wr)) (fun _ i _ => t.data.length - (intOf i).toNat)
      case atStart => exact ⟨0, Nat.zero_le _, rfl, rfl, by simp [blksOf, lastNum], ⟨rfl, rfl⟩, by rw [Hid, show blksOf t.info ++ blksOf (t.data.take 0) = blksOf t.info from by simp [blksOf]]; exact KW.out, KT, HB⟩
      case round =>
        clear KW KT HB hlt0 hlt1
        obtain ⟨k, hk, rfl, rfl, hq1, hr, KW, KT, HB⟩ := hrel
        have hlt0 := (Array.getElem?_eq_some_iff.1 KW.out).1
        have hlt1 : w.heap.size < wr.heap.size := by omega
        by_cases hlt : k < t.data.length
        · obtain ⟨b2, off, rfl, hb, hc⟩ := HD.out.resolve_left (by intro e; rw [e] at hlt; simp at hlt)
          obtain ⟨x, hx⟩ : ∃ x, x = t.data.getD k (0, ByteArray.empty) := ⟨_, rfl⟩
          obtain ⟨hc1, hc2⟩ := hc k hlt
          rw [← hx] at hc1 hc2
          have HX : Hid (t.data[k]? = some x) := by rw [hx]; exact getD_at _ _ _ hlt
          have g1 := cellKeep HB.out hb hc1
          have g2 := cellKeep HB.out hb hc2
          clear hx hc hc1 hc2
          obtain ⟨n, s⟩ := x
          obtain ⟨q, hq⟩ : ∃ q, q = lastNum (-1) (blksOf (t.data.take k)) := ⟨_, rfl⟩
          have HQ := hide hq
          rw [← hq] at hq1
          rw [← hq]
          clear hq
          have HT1 : Hid (blksOf (t.data.take (k + 1)) = blksOf (t.data.take k) ++ [n]) := blks_take (x := (n, s)) HX.out
          have hlt' : (k : Int) < (t.data.length : Int) := by omega
          have hal := fun o => HB.out.alloc HB.out.size o
          by_cases h1 : n ≤ q
          · have HG : Hid (goodX t = false) := by
              have : rises (blksOf t.data) = false := rises_no (-1) (blksOf t.data) (k + 1) (by rw [blks_pre, HT1.out, rises_snoc, ← HQ.out]; simp [h1])
              rw [Hid, goodX_eq, this]; simp
            clear hr
            go_wp2
            go_ret
            exact ⟨by rw [HG.out]; rfl, hal _⟩
          · by_cases h2 : 11 < n
            · have HG : Hid (goodX t = false) := by
                have : rises (blksOf t.data) = false := rises_no (-1) (blksOf t.data) (k + 1) (by rw [blks_pre, HT1.out, rises_snoc, ← HQ.out]; simp [h2])
                rw [Hid, goodX_eq, this]; simp
              clear hr
              go_wp2
              go_ret
              exact ⟨by rw [HG.out]; rfl, hal _⟩
            · by_cases h3 : (s.size : Int) = 32
              · have hf : fitsB s = true := by simpa [fitsB] using h3
                have HR : Hid (rises (blksOf (t.data.take (k + 1))) = true ∧ fitsAll (t.data.take (k + 1)) = true) := by
                  refine ⟨?_, by rw [fits_take HX.out hr.out.2]; exact hf⟩
                  have h0 := hr.out.1
                  rw [rises] at h0 ⊢
                  rw [HT1.out, rises_snoc, h0, ← HQ.out]; simp [h1, h2]
                obtain ⟨m, rfl⟩ := Int.eq_ofNat_of_zero_le (show 0 ≤ n by omega)
                have hm : m < 12 := by omega
                obtain ⟨cm, fm⟩ := cell12 KW.out m hm
                rw [cv] at cm
                have hsz : (wr.setCell ⟨w.heap.size + 1, m, none⟩ (.int .i64 ((((blksOf t.info ++ blksOf (t.data.take k)).count (m : Int) : Nat) : Int) + 1))).heap.size = wr.heap.size := by simp
                have HW : Hid (((wr.setCell ⟨w.heap.size + 1, m, none⟩ (.int .i64 ((((blksOf t.info ++ blksOf (t.data.take k)).count (m : Int) : Nat) : Int) + 1))).alloc (.cells #[.int .i64 (m : Int), .string s] 91)).heap[w.heap.size + 1]? = some (.cells (cnt12 (blksOf t.info ++ blksOf (t.data.take (k + 1)))) 107 (0, 0))) := by
                  rw [Hid, Below.heap_alloc _ _ _ (by rw [hsz]; exact hlt0), heap_setCell_same _ _ m _ _ _ KW.out, cnt12_set _ m hm]
                  rw [HT1.out, List.append_assoc]
                have HK : Hid (((wr.setCell ⟨w.heap.size + 1, m, none⟩ (.int .i64 ((((blksOf t.info ++ blksOf (t.data.take k)).count (m : Int) : Nat) : Int) + 1))).alloc (.cells #[.int .i64 (m : Int), .string s] 91)).heap[w.heap.size]? = _) := (Below.heap_alloc _ _ _ (by rw [hsz]; exact hlt1)).trans ((Below.heap_setCell _ _ _ _ (by simp)).trans KT.out)
                have HBB : Hid (Below w.heap.size w ((wr.setCell ⟨w.heap.size + 1, m, none⟩ (.int .i64 ((((blksOf t.info ++ blksOf (t.data.take k)).count (m : Int) : Nat) : Int) + 1))).alloc (.cells #[.int .i64 (m : Int), .string s] 91))) := (HB.out.setCell (by simp) _).alloc (by rw [hsz]; exact HB.out.size) _
                clear hsz
                have hcb : (blksOf t.info ++ blksOf (t.data.take k)).count (m : Int) ≤ 9223372036854775000 := by
                  have q1 := rises_length H1.out.1; exact count_le_len _ _ _ (by rw [List.length_append, blks_length (t.data.take k), List.length_take]; omega)
                generalize (blksOf t.info ++ blksOf (t.data.take k)).count (m : Int) = cq at *
                clear hr KW
                go_wp2
                go_roundw
                case rel => exact ⟨k + 1, by omega, by go_num, by rw [HT1.out, lastNum_snoc], by rw [HT1.out, lastNum_snoc]; omega, HR, HW, HK, HBB⟩
                case measure => simp [intOf]; omega
              · have HG : Hid (goodX t = false) := by
                  have : fitsAll t.data = false := fits_no HX.out (by simpa [fitsB] using h3)
                  rw [Hid, goodX_eq, this]; simp
                clear hr
                go_wp2
                go_ret
                exact ⟨by rw [HG.out]; rfl, hal _⟩
        · have ek : k = t.data.length := by omega
          subst ek
          rw [List.take_length] at hr KW
          clear hlt hk hq1
          have H2 := hr
          clear hr
          obtain ⟨⟨x0, x1, x2, x3, x4, x5, x6, x7, x8, x9⟩, _⟩ := box10 KT.out
          go_wp2_with fail
          refine (rising_any r d t.rev _ (HR0.out.below HB.out) N3.out).mono ?_
          rintro e w3 ⟨rfl, rfl⟩
          clear x0 x1 x2 x3 x4 x5 x6 x7 x8 x9
          cases h3 : rises t.rev with
          | false =>
            have HG : Hid (goodX t = false) := by rw [Hid, goodX_eq, h3]; simp
            go_wp2
            go_ret
            exact ⟨by rw [HG.out]; rfl, HB.out⟩
          | true =>
            have H3 := hide h3
            clear h3
            obtain ⟨⟨x0, x1, x2, x3, x4, x5, x6, x7, x8, x9⟩, _⟩ := box10 KT.out
            go_wp2
            clear x0 x1 x2 x3 x4 x5 x6 x7 x8 x9
            go_loopw [85] (fun i wr => ∃ k : Nat, k ≤ t.rev.length ∧ i = .int .i64 k ∧ Hid (wr.heap[w.heap.size + 1]? = some (.cells (cnt12 (blksOf t.info ++ (blksOf t.data ++ t.rev.take k))) 107 (0, 0))) ∧ Hid (wr.heap[w.heap.size]? = some (.cells #[.int .i64 t.seq, .slice a t.info.length c, .slice a' t.data.length c', .slice r t.rev.length d, .bool t.h0.on, .int .i64 t.h0.left, .bool t.h1.on, .int .i64 t.h1.left, .bool t.h2.on, .int .i64 t.h2.left] 40 (0, 0))) ∧ Hid (Below w.heap.size w wr)) (fun i _ => t.rev.length - (intOf i).toNat)
            case atStart => exact ⟨0, Nat.zero_le _, rfl, by rw [Hid, List.take_zero, List.append_nil]; exact KW.out, KT, HB⟩
            case round =>
              clear KW KT HB hlt0 hlt1
              obtain ⟨k, hk, rfl, KW, KT, HB⟩ := hrel
              have hlt0 := (Array.getElem?_eq_some_iff.1 KW.out).1
              have hlt1 : w.heap.size < wr.heap.size := by omega
              by_cases hlt : k < t.rev.length
              · obtain ⟨b2, off, rfl, hb, hc⟩ := HR0.out.resolve_left (by intro e; rw [e] at hlt; simp at hlt)
                obtain ⟨x, hx⟩ : ∃ x, x = t.rev.getD k 0 := ⟨_, rfl⟩
                have hc1 := hc k hlt
                rw [← hx] at hc1
                have HX : Hid (t.rev[k]? = some x) := by rw [hx]; exact getD_at _ _ _ hlt
                have g1 := cellKeep HB.out hb hc1
                clear hx hc hc1
                have q9 := rises_length H3.out
                have hin := ((rises_iff _).1 H3.out).1 x (List.mem_of_getElem? HX.out)
                have hlt' : (k : Int) < (t.rev.length : Int) := by omega
                obtain ⟨m, rfl⟩ := Int.eq_ofNat_of_zero_le hin.1
                have hm : m < 12 := by omega
                obtain ⟨cm, fm⟩ := cell12 KW.out m hm
                rw [cv] at cm
                have HT1 : Hid (t.rev.take (k + 1) = t.rev.take k ++ [(m : Int)]) := by rw [Hid, List.take_add_one, HX.out]; rfl
                have HW : Hid ((wr.setCell ⟨w.heap.size + 1, m, none⟩ (.int .i64 ((((blksOf t.info ++ (blksOf t.data ++ t.rev.take k)).count (m : Int) : Nat) : Int) + 1))).heap[w.heap.size + 1]? = some (.cells (cnt12 (blksOf t.info ++ (blksOf t.data ++ t.rev.take (k + 1)))) 107 (0, 0))) := by
                  rw [Hid, heap_setCell_same _ _ m _ _ _ KW.out, cnt12_set _ m hm, HT1.out, List.append_assoc, List.append_assoc]
                have HK : Hid ((wr.setCell ⟨w.heap.size + 1, m, none⟩ (.int .i64 ((((blksOf t.info ++ (blksOf t.data ++ t.rev.take k)).count (m : Int) : Nat) : Int) + 1))).heap[w.heap.size]? = _) := (Below.heap_setCell _ _ _ _ (by simp)).trans KT.out
                have HBB := hide (HB.out.setCell (p := ⟨w.heap.size + 1, m, none⟩) (by simp) (.int .i64 ((((blksOf t.info ++ (blksOf t.data ++ t.rev.take k)).count (m : Int) : Nat) : Int) + 1)))
                have hcb : (blksOf t.info ++ (blksOf t.data ++ t.rev.take k)).count (m : Int) ≤ 100 := by
                  have q1 := rises_length H1.out.1
                  have q2 := rises_length H2.out.1
                  have q3 := rises_length H3.out
                  exact count_le_len _ _ _ (by rw [List.length_append, List.length_append, List.length_take]; omega)
                generalize (blksOf t.info ++ (blksOf t.data ++ t.rev.take k)).count (m : Int) = cq at *
                clear KW
                go_wp2
                go_roundw
                case rel => exact ⟨k + 1, by omega, by go_num, HW, HK, HBB⟩
                case measure => simp [intOf]; omega
              · have ek : k = t.rev.length := by omega
                subst ek
                rw [List.take_length] at KW
                replace KW : Hid (wr.heap[w.heap.size + 1]? = some (.cells (cnt12 (allOf t)) 107 (0, 0))) := KW
                clear hlt hk
                obtain ⟨⟨k0, k1, k2, k3, k4, k5, k6, k7, k8, k9, k10, k11⟩, _⟩ := box12 KW.out
                go_wp2
                clear k0 k1 k2 k3 k4 k5 k6 k7 k8 k9 k10 k11
                go_loop [96] (fun i => ∃ k : Nat, k ≤ 12 ∧ i = .int .i64 k ∧ Hid (∀ m : Nat, m < k → (allOf t).count (m : Int) ≤ 1)) (fun i => 12 - (intOf i).toNat)
                case atStart => exact ⟨0, by omega, rfl, fun m hm => by omega⟩
                case round =>
                  obtain ⟨k, hk, rfl, hr⟩ := hrel
                  by_cases hlt : k < 12
                  · have hix := idx12 (allOf t) k hlt
                    unfold cnt12 at hix
                    have hlt' : (k : Int) < 12 := by omega
                    by_cases h1 : 1 < (allOf t).count (k : Int)
                    · have HG : Hid (goodX t = false) := by
                        have : decide (allOf t).Nodup = false := by
                          rw [decide_eq_false_iff_not, List.nodup_iff_count]
                          intro e; have := e (k : Int); omega
                        rw [Hid, goodX_eq, this]; simp
                      have h1' : 1 < (((allOf t).count (k : Int) : Nat) : Int) := by omega
                      generalize (allOf t).count (k : Int) = cq at *
                      clear hr h1
                      go_wp2
                      go_ret
                      exact ⟨by rw [HG.out]; rfl, HB.out⟩
                    · have HR : Hid (∀ m : Nat, m < k + 1 → (allOf t).count (m : Int) ≤ 1) := by
                        intro m hm
                        by_cases e : m = k
                        · subst e; omega
                        · exact hr.out m (by omega)
                      have h1' : ¬ 1 < (((allOf t).count (k : Int) : Nat) : Int) := by omega
                      generalize (allOf t).count (k : Int) = cq at *
                      clear hr h1
                      go_wp2
                      go_round
                      case rel => exact ⟨k + 1, by omega, by go_num, HR⟩
                      case measure => simp [intOf]; omega
                  · have ek : k = 12 := by omega
                    subst ek
                    have H4 : Hid (decide (allOf t).Nodup = true) := by
                      rw [Hid, decide_eq_true_iff, nodup12 (all_in t H1.out.1 H2.out.1 H3.out)]
                      exact hr.out
                    clear hr hlt hk
                    obtain ⟨⟨x0, x1, x2, x3, x4, x5, x6, x7, x8, x9⟩, _⟩ := box10 KT.out
                    go_wp2
                    clear x0 x1 x2 x3 x4 x5 x6 x7 x8 x9
                    go_loopw [104] (fun i wr => ∃ k : Nat, k ≤ 3 ∧ i = .int .i64 k ∧ Hid ((1 ≤ k → hdB t.h0 = true) ∧ (2 ≤ k → hdB t.h1 = true) ∧ (3 ≤ k → hdB t.h2 = true)) ∧ Hid (wr.heap[w.heap.size]? = some (.cells #[.int .i64 t.seq, .slice a t.info.length c, .slice a' t.data.length c', .slice r t.rev.length d, .bool t.h0.on, .int .i64 t.h0.left, .bool t.h1.on, .int .i64 t.h1.left, .bool t.h2.on, .int .i64 t.h2.left] 40 (0, 0))) ∧ Hid (Below w.heap.size w wr)) (fun i _ => 3 - (intOf i).toNat)
                    case atStart => exact ⟨0, by omega, rfl, ⟨fun h => by omega, fun h => by omega, fun h => by omega⟩, KT, HB⟩
                    case round =>
                      clear KT HB hlt0 hlt1
                      obtain ⟨k, hk, rfl, hr, KT, HB⟩ := hrel
                      have hlt1 := (Array.getElem?_eq_some_iff.1 KT.out).1
                      have hc : k = 0 ∨ k = 1 ∨ k = 2 ∨ k = 3 := by omega
                      have hal := fun o => HB.out.alloc HB.out.size o
                      clear hk
                      rcases hc with rfl | rfl | rfl | rfl
                      · have ik := idxH0 t.h0.on t.h1.on t.h2.on t.h0.left t.h1.left t.h2.left
                        by_cases g1 : t.h0.left < 0
                        · have HG : Hid (goodX t = false) := by
                            have hb : hdB t.h0 = false := by
                              cases e : hdB t.h0 with
                              | false => rfl
                              | true => have := (hdB_iff _).1 e; omega
                            rw [Hid, goodX_eq, hb]; simp
                          go_wp2
                          go_ret
                          exact ⟨by rw [HG.out]; rfl, hal _⟩
                        · by_cases g2 : 24 < t.h0.left
                          · have HG : Hid (goodX t = false) := by
                              have hb : hdB t.h0 = false := by
                                cases e : hdB t.h0 with
                                | false => rfl
                                | true => have := (hdB_iff _).1 e; omega
                              rw [Hid, goodX_eq, hb]; simp
                            go_wp2
                            go_ret
                            exact ⟨by rw [HG.out]; rfl, hal _⟩
                          · by_cases g3 : 0 < t.h0.left
                            · by_cases g4 : t.h0.on = true
                              · rw [g4] at ik
                                have HF : Hid (hdB t.h0 = true) := (hdB_iff _).2 ⟨by omega, by omega, fun e => by rw [g4] at e; cases e⟩
                                go_wp2
                                go_roundw
                                case rel => exact ⟨1, by omega, by go_num, ⟨fun _ => HF.out, fun h => by omega, fun h => by omega⟩, (Below.heap_alloc _ _ _ hlt1).trans KT.out, hal _⟩
                                case measure => simp [intOf]
                              · have g5 : t.h0.on = false := by simpa using g4
                                rw [g5] at ik
                                have HG : Hid (goodX t = false) := by
                                  have hb : hdB t.h0 = false := by
                                    cases e : hdB t.h0 with
                                    | false => rfl
                                    | true => have := (hdB_iff _).1 e; have := this.2.2 g5; omega
                                  rw [Hid, goodX_eq, hb]; simp
                                go_wp2
                                go_ret
                                exact ⟨by rw [HG.out]; rfl, hal _⟩
                            · have HF : Hid (hdB t.h0 = true) := (hdB_iff _).2 ⟨by omega, by omega, fun _ => by omega⟩
                              go_wp2
                              go_roundw
                              case rel => exact ⟨1, by omega, by go_num, ⟨fun _ => HF.out, fun h => by omega, fun h => by omega⟩, (Below.heap_alloc _ _ _ hlt1).trans KT.out, hal _⟩
                              case measure => simp [intOf]
                      · have ik := idxH1 t.h0.on t.h1.on t.h2.on t.h0.left t.h1.left t.h2.left
                        by_cases g1 : t.h1.left < 0
                        · have HG : Hid (goodX t = false) := by
                            have hb : hdB t.h1 = false := by
                              cases e : hdB t.h1 with
                              | false => rfl
                              | true => have := (hdB_iff _).1 e; omega
                            rw [Hid, goodX_eq, hb]; simp
                          go_wp2
                          go_ret
                          exact ⟨by rw [HG.out]; rfl, hal _⟩
                        · by_cases g2 : 24 < t.h1.left
                          · have HG : Hid (goodX t = false) := by
                              have hb : hdB t.h1 = false := by
                                cases e : hdB t.h1 with
                                | false => rfl
                                | true => have := (hdB_iff _).1 e; omega
                              rw [Hid, goodX_eq, hb]; simp
                            go_wp2
                            go_ret
                            exact ⟨by rw [HG.out]; rfl, hal _⟩
                          · by_cases g3 : 0 < t.h1.left
                            · by_cases g4 : t.h1.on = true
                              · rw [g4] at ik
                                have HF : Hid (hdB t.h1 = true) := (hdB_iff _).2 ⟨by omega, by omega, fun e => by rw [g4] at e; cases e⟩
                                go_wp2
                                go_roundw
                                case rel => exact ⟨2, by omega, by go_num, ⟨fun _ => hr.out.1 (by omega), fun _ => HF.out, fun h => by omega⟩, (Below.heap_alloc _ _ _ hlt1).trans KT.out, hal _⟩
                                case measure => simp [intOf]
                              · have g5 : t.h1.on = false := by simpa using g4
                                rw [g5] at ik
                                have HG : Hid (goodX t = false) := by
                                  have hb : hdB t.h1 = false := by
                                    cases e : hdB t.h1 with
                                    | false => rfl
                                    | true => have := (hdB_iff _).1 e; have := this.2.2 g5; omega
                                  rw [Hid, goodX_eq, hb]; simp
                                go_wp2
                                go_ret
                                exact ⟨by rw [HG.out]; rfl, hal _⟩
                            · have HF : Hid (hdB t.h1 = true) := (hdB_iff _).2 ⟨by omega, by omega, fun _ => by omega⟩
                              go_wp2
                              go_roundw
                              case rel => exact ⟨2, by omega, by go_num, ⟨fun _ => hr.out.1 (by omega), fun _ => HF.out, fun h => by omega⟩, (Below.heap_alloc _ _ _ hlt1).trans KT.out, hal _⟩
                              case measure => simp [intOf]
                      · have ik := idxH2 t.h0.on t.h1.on t.h2.on t.h0.left t.h1.left t.h2.left
                        by_cases g1 : t.h2.left < 0
                        · have HG : Hid (goodX t = false) := by
                            have hb : hdB t.h2 = false := by
                              cases e : hdB t.h2 with
                              | false => rfl
                              | true => have := (hdB_iff _).1 e; omega
                            rw [Hid, goodX_eq, hb]; simp
                          go_wp2
                          go_ret
                          exact ⟨by rw [HG.out]; rfl, hal _⟩
                        · by_cases g2 : 24 < t.h2.left
                          · have HG : Hid (goodX t = false) := by
                              have hb : hdB t.h2 = false := by
                                cases e : hdB t.h2 with
                                | false => rfl
                                | true => have := (hdB_iff _).1 e; omega
                              rw [Hid, goodX_eq, hb]; simp
                            go_wp2
                            go_ret
                            exact ⟨by rw [HG.out]; rfl, hal _⟩
                          · by_cases g3 : 0 < t.h2.left
                            · by_cases g4 : t.h2.on = true
                              · rw [g4] at ik
                                have HF : Hid (hdB t.h2 = true) := (hdB_iff _).2 ⟨by omega, by omega, fun e => by rw [g4] at e; cases e⟩
                                go_wp2
                                go_roundw
                                case rel => exact ⟨3, by omega, by go_num, ⟨fun _ => hr.out.1 (by omega), fun _ => hr.out.2.1 (by omega), fun _ => HF.out⟩, (Below.heap_alloc _ _ _ hlt1).trans KT.out, hal _⟩
                                case measure => simp [intOf]
                              · have g5 : t.h2.on = false := by simpa using g4
                                rw [g5] at ik
                                have HG : Hid (goodX t = false) := by
                                  have hb : hdB t.h2 = false := by
                                    cases e : hdB t.h2 with
                                    | false => rfl
                                    | true => have := (hdB_iff _).1 e; have := this.2.2 g5; omega
                                  rw [Hid, goodX_eq, hb]; simp
                                go_wp2
                                go_ret
                                exact ⟨by rw [HG.out]; rfl, hal _⟩
                            · have HF : Hid (hdB t.h2 = true) := (hdB_iff _).2 ⟨by omega, by omega, fun _ => by omega⟩
                              go_wp2
                              go_roundw
                              case rel => exact ⟨3, by omega, by go_num, ⟨fun _ => hr.out.1 (by omega), fun _ => hr.out.2.1 (by omega), fun _ => HF.out⟩, (Below.heap_alloc _ _ _ hlt1).trans KT.out, hal _⟩
                              case measure => simp [intOf]
                      · obtain ⟨⟨x0, x1, x2, x3, x4, x5, x6, x7, x8, x9⟩, _⟩ := box10 KT.out
                        have HGG : Hid (goodX t = withinB t.seq 1 2147483647) := by
                          rw [Hid, goodX_eq, H1.out.1, H1.out.2, H2.out.1, H2.out.2, H3.out, H4.out, hr.out.1 (by omega), hr.out.2.1 (by omega), hr.out.2.2 (by omega)]
                          simp
                        by_cases g1 : 0 < t.seq
                        · by_cases g2 : t.seq < 2147483648
                          · have HW : Hid (withinB t.seq 1 2147483647 = true) := withinB_iff.2 (by omega)
                            go_wp2
                            go_ret
                            exact ⟨by rw [HGG.out, HW.out]; rfl, HB.out⟩
                          · have HW : Hid (withinB t.seq 1 2147483647 = false) := by
                              cases e : withinB t.seq 1 2147483647 with
                              | false => rfl
                              | true => have := withinB_iff.1 e; omega
                            go_wp2
                            go_ret
                            exact ⟨by rw [HGG.out, HW.out]; rfl, HB.out⟩
                        · have HW : Hid (withinB t.seq 1 2147483647 = false) := by
                            cases e : withinB t.seq 1 2147483647 with
                            | false => rfl
                            | true => have := withinB_iff.1 e; omega
                          go_wp2
                          go_ret
                          exact ⟨by rw [HGG.out, HW.out]; rfl, HB.out⟩

end Go.Proofs.Ytjnpndfpajjihab

namespace Go.Proofs.Ytjnpndfpajjihab
open Go.RowKit

set_option maxHeartbeats 2000000 in
set_option maxRecDepth 100000 in
theorem allGood_any (a : Option Addr) (c : Nat) (l : List Tx) (w : World) (h : SegTx w a l) (hn : l.length ≤ maxLen) (hr : ∀ t ∈ l, Reached t) :
    Calls Try.prog 46 #[.slice a l.length c] w fun e w' => e = .returned (.bool (l.all goodX)) ∧ Below w.heap.size w w' := by
  unfold maxLen at hn
  have HS := hide h
  have HR := hide hr
  clear h hr
  go_enter Try.func46, Try.ntmps46
  go_wp2
  go_loopw [7] (fun i wr => ∃ k : Nat, k ≤ l.length ∧ i = .int .i64 k ∧ Hid ((l.take k).all goodX = true) ∧ Hid (Below w.heap.size w wr)) (fun i _ => l.length - (intOf i).toNat)
  case atStart => exact ⟨0, Nat.zero_le _, rfl, rfl, Below.refl _ _⟩
  case round =>
    obtain ⟨k, hk, rfl, hF, hbr⟩ := hrel
    by_cases hlt : k < l.length
    · obtain ⟨b2, off, rfl, hb, hc⟩ := HS.out.resolve_left (by intro e; rw [e] at hlt; simp at hlt)
      obtain ⟨t, ht⟩ : ∃ t, t = l.getD k txz := ⟨_, rfl⟩
      have HX : Hid (l[k]? = some t) := by rw [ht]; exact tx_at hlt
      have hcj := (hc k hlt).below hbr.out hb
      rw [← ht] at hcj
      obtain ⟨a0, c0, a1, c1, r, d, ⟨x0, x1, x2, x3, x4, x5, x6, x7, x8, x9⟩, hT⟩ := hcj
      have HT := hide hT
      have HQ := hide (HR.out t (List.mem_of_getElem? HX.out))
      have hlt' : (k : Int) < (l.length : Int) := by omega
      clear ht hc hT
      go_wp2_with fail
      refine (goodTxn_any _ t _ (HT.out.below (below1 _ _)) HQ.out.1 HQ.out.2.1).mono ?_
      rintro e w1 ⟨rfl, hb1⟩
      have HB1 := hide (bthen (bthen hbr.out (below1 _ _)) hb1)
      clear hb1 hbr HT HQ x0 x1 x2 x3 x4 x5 x6 x7 x8 x9
      cases hg : goodX t with
      | false =>
        have HE : Hid (l.all goodX = false) := by
          rw [Hid, List.all_eq_false]
          exact ⟨t, List.mem_of_getElem? HX.out, by simp [hg]⟩
        go_wp2
        go_ret
        exact ⟨by rw [HE.out]; rfl, HB1.out⟩
      | true =>
        have HE : Hid ((l.take (k + 1)).all goodX = true) := by
          rw [Hid, List.take_add_one, HX.out, List.all_append, hF.out]; simp [hg]
        go_wp2
        go_roundw
        case rel => exact ⟨k + 1, by omega, by go_num, HE, HB1⟩
        case measure => simp [intOf]; omega
    · have e : k = l.length := by omega
      subst e
      have HE : Hid (l.all goodX = true) := by have := hF.out; rw [List.take_length] at this; exact this
      go_wp2
      go_ret
      exact ⟨by rw [HE.out]; rfl, hbr.out⟩

set_option maxHeartbeats 4000000 in
set_option maxRecDepth 100000 in
theorem txns_any (a : Option Addr) (c : Nat) (l : List Tx) (w : World) (h : SegTx w a l) (hn : l.length * 128 ≤ 140737488355328) (hr : ∀ t ∈ l, Reached t) :
    Calls Try.prog 49 #[.slice a l.length c] w fun e w' => ∃ a2 c2, e = .returned (.slice a2 l.length c2) ∧ SegTx w' a2 l ∧ Below w.heap.size w w' := by
  have HS := hide h
  have HR := hide hr
  clear h hr
  go_enter Try.func49, Try.ntmps49
  go_wp2
  go_loopw [3, 8] (fun v i wr => ∃ (k : Nat) (q : List RX), k ≤ l.length ∧ i = .int .i64 k ∧ Hid (q.map (·.t) = l.take k) ∧ Hid (wr.ownsRow w.heap.size 40 10 v q.length (cellsX q)) ∧ Hid (∀ x ∈ q, OwnR wr w.heap.size x) ∧ Hid (Below w.heap.size w wr)) (fun _ i _ => l.length - (intOf i).toNat)
  case atStart => exact ⟨0, [], Nat.zero_le _, rfl, rfl, World.ownsRow_nil _ _ _ _, fun x hx => (by cases hx), Below.refl _ _⟩
  case round =>
    obtain ⟨k, q, hk, rfl, hF, hown, hO, hbr⟩ := hrel
    have hql : q.length = k := by have := congrArg List.length hF.out; simp at this; omega
    by_cases hlt : k < l.length
    · obtain ⟨b2, off, rfl, hb, hc⟩ := HS.out.resolve_left (by intro e; rw [e] at hlt; simp at hlt)
      obtain ⟨t, ht⟩ : ∃ t, t = l.getD k txz := ⟨_, rfl⟩
      have HX : Hid (l[k]? = some t) := by rw [ht]; exact tx_at hlt
      have hcj := (hc k hlt).below hbr.out hb
      rw [← ht] at hcj
      obtain ⟨a0, c0, a1, c1, r, d, ⟨x0, x1, x2, x3, x4, x5, x6, x7, x8, x9⟩, hT⟩ := hcj
      have HT := hide hT
      have HQ := hide (HR.out t (List.mem_of_getElem? HX.out))
      have hlt' : (k : Int) < (l.length : Int) := by omega
      have HF2 : Hid ((q.map (·.t)) ++ [t] = l.take (k + 1)) := by rw [Hid, List.take_add_one, HX.out, hF.out]; rfl
      clear ht hc hT hF
      go_wp2_with fail
      refine (copyTxn_own _ t _ (HT.out.below (below1 _ _)) HQ.out.1 HQ.out.2.1 HQ.out.2.2).mono ?_
      rintro e w1 ⟨m, d', r', rfl, hO1, hb1⟩
      have hB := bthen (below1 _ _) hb1
      have HO1 := hide (owns_keep hown.out hB)
      have HA1 : Hid (∀ x ∈ q, OwnR w1 w.heap.size x) := fun x hx => (hO.out x hx).below hB
      have HN1 : Hid (OwnR w1 w.heap.size ⟨m, d', r', t⟩) := ⟨owns_base hO1.1 (Nat.le_trans hbr.out.size (by simp)), owns_base hO1.2.1 (Nat.le_trans hbr.out.size (by simp)), owns_base hO1.2.2 (Nat.le_trans hbr.out.size (by simp))⟩
      have HB1 := hide (bthen hbr.out hB)
      obtain ⟨ma, mc, da, dc, ra, rc, e1, e2, e3, _⟩ := HN1.out.tx
      simp only at e1 e2 e3
      subst e1 e2 e3
      clear hb1 hbr hB hO hO1 hown HT HQ x0 x1 x2 x3 x4 x5 x6 x7 x8 x9
      go_wp2_with (at_builtin; refine wpList_appX rfl _ _ rfl w.heap.size _ q rfl (owns_keep HO1.out (below1 _ _)) w1.heap.size ⟨.slice ma t.info.length mc, .slice da t.data.length dc, .slice ra t.rev.length rc, t⟩ rfl (news10 (by simp [go_sem]) (by simp [go_sem]) (by simp [go_sem]) (by simp [go_sem]) (by simp [go_sem]) (by simp [go_sem]) (by simp [go_sem]) (by simp [go_sem]) (by simp [go_sem]) (by simp [go_sem])) HN1.out.one (by omega) (Nat.le_trans HB1.out.size (by simp)) ?_)
      intro v' w' hown' hg'
      have hB' : Below w.heap.size w w' := (HB1.out.alloc HB1.out.size _).grown hg' (Nat.le_trans HB1.out.size (by simp)) (fun j hj => (HO1.out.lt j hj).1)
      have HO2 : Hid (∀ x ∈ q ++ [(⟨.slice ma t.info.length mc, .slice da t.data.length dc, .slice ra t.rev.length rc, t⟩ : RX)], OwnR w' w.heap.size x) := by
        intro x hx
        have hx1 : OwnR w1 w.heap.size x := by
          rcases List.mem_append.1 hx with h | h
          · exact HA1.out x h
          · rw [List.mem_singleton.1 h]; exact HN1.out
        exact (hx1.below (below1 _ _)).grown (owns_keep HO1.out (below1 _ _)) hg'
      have HO' := hide hown'
      have HBB := hide hB'
      clear hown' hB' hg' HO1 HA1 HN1 HB1
      go_wp2
      go_roundw
      case rel => exact ⟨k + 1, q ++ [(⟨.slice ma t.info.length mc, .slice da t.data.length dc, .slice ra t.rev.length rc, t⟩ : RX)], by omega, by go_num, by rw [List.map_append]; exact HF2, by rw [show (q ++ [(⟨.slice ma t.info.length mc, .slice da t.data.length dc, .slice ra t.rev.length rc, t⟩ : RX)]).length = k + 1 from by simp [hql]]; exact HO', HO2, HBB⟩
      case measure => simp [intOf]; omega
    · have e : k = l.length := by omega
      rw [e, List.take_length] at hF
      obtain ⟨a2, c2, hv, hS, _⟩ := SegTx.of_owns hown.out hO.out
      rw [hF.out] at hv hS
      have HSS := hide hS
      subst hv
      clear hS
      go_wp2
      go_ret
      exact ⟨_, _, rfl, HSS.out, hbr.out⟩

end Go.Proofs.Ytjnpndfpajjihab
