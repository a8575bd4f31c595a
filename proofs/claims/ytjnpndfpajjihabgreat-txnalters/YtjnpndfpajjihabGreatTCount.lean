/-
  Twelve counters, as an array of numbers. Nothing of the program is proved here.
-/
import Derived.Test.YtjnpndfpajjihabGreatTApart
namespace Go.Proofs.YtjnpndfpajjihabGreat
open Go.RowKit

/-- How often a number is in a list, as a value; of all twelve. -/
def cv (l : List Int) (i : Int) : Value := .int .i64 ((l.count i : Nat) : Int)
def cnt12 (l : List Int) : Array Value := #[cv l 0, cv l 1, cv l 2, cv l 3, cv l 4, cv l 5, cv l 6, cv l 7, cv l 8, cv l 9, cv l 10, cv l 11]
theorem cnt12_at (l : List Int) (m : Nat) (h : m < 12) : (cnt12 l)[m]? = some (cv l m) := by
  match m, h with
  | 0, _ => rfl
  | 1, _ => rfl
  | 2, _ => rfl
  | 3, _ => rfl
  | 4, _ => rfl
  | 5, _ => rfl
  | 6, _ => rfl
  | 7, _ => rfl
  | 8, _ => rfl
  | 9, _ => rfl
  | 10, _ => rfl
  | 11, _ => rfl
  | n + 12, h => omega
theorem count_same (l : List Int) (m : Int) : cv (l ++ [m]) m = .int .i64 (((l.count m : Nat) : Int) + 1) := by
  simp [cv]
theorem count_other (l : List Int) (m i : Int) (h : m ≠ i) : cv (l ++ [m]) i = cv l i := by
  simp [cv, List.count_append, h]
theorem cnt12_set (l : List Int) (m : Nat) (h : m < 12) : (cnt12 l).setIfInBounds m (.int .i64 (((l.count (m : Int) : Nat) : Int) + 1)) = cnt12 (l ++ [(m : Int)]) := by
  rw [← count_same]
  match m, h with
  | 0, _ => simp [cnt12, count_other l 0 1 (by decide), count_other l 0 2 (by decide), count_other l 0 3 (by decide), count_other l 0 4 (by decide), count_other l 0 5 (by decide), count_other l 0 6 (by decide), count_other l 0 7 (by decide), count_other l 0 8 (by decide), count_other l 0 9 (by decide), count_other l 0 10 (by decide), count_other l 0 11 (by decide)]
  | 1, _ => simp [cnt12, count_other l 1 0 (by decide), count_other l 1 2 (by decide), count_other l 1 3 (by decide), count_other l 1 4 (by decide), count_other l 1 5 (by decide), count_other l 1 6 (by decide), count_other l 1 7 (by decide), count_other l 1 8 (by decide), count_other l 1 9 (by decide), count_other l 1 10 (by decide), count_other l 1 11 (by decide)]
  | 2, _ => simp [cnt12, count_other l 2 0 (by decide), count_other l 2 1 (by decide), count_other l 2 3 (by decide), count_other l 2 4 (by decide), count_other l 2 5 (by decide), count_other l 2 6 (by decide), count_other l 2 7 (by decide), count_other l 2 8 (by decide), count_other l 2 9 (by decide), count_other l 2 10 (by decide), count_other l 2 11 (by decide)]
  | 3, _ => simp [cnt12, count_other l 3 0 (by decide), count_other l 3 1 (by decide), count_other l 3 2 (by decide), count_other l 3 4 (by decide), count_other l 3 5 (by decide), count_other l 3 6 (by decide), count_other l 3 7 (by decide), count_other l 3 8 (by decide), count_other l 3 9 (by decide), count_other l 3 10 (by decide), count_other l 3 11 (by decide)]
  | 4, _ => simp [cnt12, count_other l 4 0 (by decide), count_other l 4 1 (by decide), count_other l 4 2 (by decide), count_other l 4 3 (by decide), count_other l 4 5 (by decide), count_other l 4 6 (by decide), count_other l 4 7 (by decide), count_other l 4 8 (by decide), count_other l 4 9 (by decide), count_other l 4 10 (by decide), count_other l 4 11 (by decide)]
  | 5, _ => simp [cnt12, count_other l 5 0 (by decide), count_other l 5 1 (by decide), count_other l 5 2 (by decide), count_other l 5 3 (by decide), count_other l 5 4 (by decide), count_other l 5 6 (by decide), count_other l 5 7 (by decide), count_other l 5 8 (by decide), count_other l 5 9 (by decide), count_other l 5 10 (by decide), count_other l 5 11 (by decide)]
  | 6, _ => simp [cnt12, count_other l 6 0 (by decide), count_other l 6 1 (by decide), count_other l 6 2 (by decide), count_other l 6 3 (by decide), count_other l 6 4 (by decide), count_other l 6 5 (by decide), count_other l 6 7 (by decide), count_other l 6 8 (by decide), count_other l 6 9 (by decide), count_other l 6 10 (by decide), count_other l 6 11 (by decide)]
  | 7, _ => simp [cnt12, count_other l 7 0 (by decide), count_other l 7 1 (by decide), count_other l 7 2 (by decide), count_other l 7 3 (by decide), count_other l 7 4 (by decide), count_other l 7 5 (by decide), count_other l 7 6 (by decide), count_other l 7 8 (by decide), count_other l 7 9 (by decide), count_other l 7 10 (by decide), count_other l 7 11 (by decide)]
  | 8, _ => simp [cnt12, count_other l 8 0 (by decide), count_other l 8 1 (by decide), count_other l 8 2 (by decide), count_other l 8 3 (by decide), count_other l 8 4 (by decide), count_other l 8 5 (by decide), count_other l 8 6 (by decide), count_other l 8 7 (by decide), count_other l 8 9 (by decide), count_other l 8 10 (by decide), count_other l 8 11 (by decide)]
  | 9, _ => simp [cnt12, count_other l 9 0 (by decide), count_other l 9 1 (by decide), count_other l 9 2 (by decide), count_other l 9 3 (by decide), count_other l 9 4 (by decide), count_other l 9 5 (by decide), count_other l 9 6 (by decide), count_other l 9 7 (by decide), count_other l 9 8 (by decide), count_other l 9 10 (by decide), count_other l 9 11 (by decide)]
  | 10, _ => simp [cnt12, count_other l 10 0 (by decide), count_other l 10 1 (by decide), count_other l 10 2 (by decide), count_other l 10 3 (by decide), count_other l 10 4 (by decide), count_other l 10 5 (by decide), count_other l 10 6 (by decide), count_other l 10 7 (by decide), count_other l 10 8 (by decide), count_other l 10 9 (by decide), count_other l 10 11 (by decide)]
  | 11, _ => simp [cnt12, count_other l 11 0 (by decide), count_other l 11 1 (by decide), count_other l 11 2 (by decide), count_other l 11 3 (by decide), count_other l 11 4 (by decide), count_other l 11 5 (by decide), count_other l 11 6 (by decide), count_other l 11 7 (by decide), count_other l 11 8 (by decide), count_other l 11 9 (by decide), count_other l 11 10 (by decide)]
  | n + 12, h => omega
theorem cnt12_nil : cnt12 [] = #[.int .i64 0, .int .i64 0, .int .i64 0, .int .i64 0, .int .i64 0, .int .i64 0, .int .i64 0, .int .i64 0, .int .i64 0, .int .i64 0, .int .i64 0, .int .i64 0] := rfl
theorem idx12_0 (l : List Int) (w : World) : (Instr.index 143 (.agg (cnt12 l)) (.int .i64 0)).run Tryz.prog w = .ok (cv l 0) w := by kernel_rfl
theorem idx12_1 (l : List Int) (w : World) : (Instr.index 143 (.agg (cnt12 l)) (.int .i64 1)).run Tryz.prog w = .ok (cv l 1) w := by kernel_rfl
theorem idx12_2 (l : List Int) (w : World) : (Instr.index 143 (.agg (cnt12 l)) (.int .i64 2)).run Tryz.prog w = .ok (cv l 2) w := by kernel_rfl
theorem idx12_3 (l : List Int) (w : World) : (Instr.index 143 (.agg (cnt12 l)) (.int .i64 3)).run Tryz.prog w = .ok (cv l 3) w := by kernel_rfl
theorem idx12_4 (l : List Int) (w : World) : (Instr.index 143 (.agg (cnt12 l)) (.int .i64 4)).run Tryz.prog w = .ok (cv l 4) w := by kernel_rfl
theorem idx12_5 (l : List Int) (w : World) : (Instr.index 143 (.agg (cnt12 l)) (.int .i64 5)).run Tryz.prog w = .ok (cv l 5) w := by kernel_rfl
theorem idx12_6 (l : List Int) (w : World) : (Instr.index 143 (.agg (cnt12 l)) (.int .i64 6)).run Tryz.prog w = .ok (cv l 6) w := by kernel_rfl
theorem idx12_7 (l : List Int) (w : World) : (Instr.index 143 (.agg (cnt12 l)) (.int .i64 7)).run Tryz.prog w = .ok (cv l 7) w := by kernel_rfl
theorem idx12_8 (l : List Int) (w : World) : (Instr.index 143 (.agg (cnt12 l)) (.int .i64 8)).run Tryz.prog w = .ok (cv l 8) w := by kernel_rfl
theorem idx12_9 (l : List Int) (w : World) : (Instr.index 143 (.agg (cnt12 l)) (.int .i64 9)).run Tryz.prog w = .ok (cv l 9) w := by kernel_rfl
theorem idx12_10 (l : List Int) (w : World) : (Instr.index 143 (.agg (cnt12 l)) (.int .i64 10)).run Tryz.prog w = .ok (cv l 10) w := by kernel_rfl
theorem idx12_11 (l : List Int) (w : World) : (Instr.index 143 (.agg (cnt12 l)) (.int .i64 11)).run Tryz.prog w = .ok (cv l 11) w := by kernel_rfl
theorem idx12 (l : List Int) (m : Nat) (h : m < 12) (w : World) : (Instr.index 143 (.agg (cnt12 l)) (.int .i64 (m : Int))).run Tryz.prog w = .ok (.int .i64 ((l.count (m : Int) : Nat) : Int)) w := by
  match m, h with
  | 0, _ => exact idx12_0 l w
  | 1, _ => exact idx12_1 l w
  | 2, _ => exact idx12_2 l w
  | 3, _ => exact idx12_3 l w
  | 4, _ => exact idx12_4 l w
  | 5, _ => exact idx12_5 l w
  | 6, _ => exact idx12_6 l w
  | 7, _ => exact idx12_7 l w
  | 8, _ => exact idx12_8 l w
  | 9, _ => exact idx12_9 l w
  | 10, _ => exact idx12_10 l w
  | 11, _ => exact idx12_11 l w
  | n + 12, h => omega
theorem box12 {w : World} {B : Nat} {l : List Int} {t : TypeId} (h : w.heap[B]? = some (.cells (cnt12 l) t (0, 0))) :
    (w.cell? ⟨B, 0, none⟩ = some (cv l 0) ∧ w.cell? ⟨B, 1, none⟩ = some (cv l 1) ∧ w.cell? ⟨B, 2, none⟩ = some (cv l 2) ∧ w.cell? ⟨B, 3, none⟩ = some (cv l 3) ∧ w.cell? ⟨B, 4, none⟩ = some (cv l 4) ∧ w.cell? ⟨B, 5, none⟩ = some (cv l 5) ∧ w.cell? ⟨B, 6, none⟩ = some (cv l 6) ∧ w.cell? ⟨B, 7, none⟩ = some (cv l 7) ∧ w.cell? ⟨B, 8, none⟩ = some (cv l 8) ∧ w.cell? ⟨B, 9, none⟩ = some (cv l 9) ∧ w.cell? ⟨B, 10, none⟩ = some (cv l 10) ∧ w.cell? ⟨B, 11, none⟩ = some (cv l 11)) ∧ ∀ k, w.frozen? ⟨B, k, none⟩ = false := by
  refine ⟨⟨?_, ?_, ?_, ?_, ?_, ?_, ?_, ?_, ?_, ?_, ?_, ?_⟩, fun k => frozen_of_row w _ _ _ _ h⟩ <;> (rw [cell_of_row w _ _ _ _ _ h]; rfl)
theorem cell12 {w : World} {B : Nat} {l : List Int} {t : TypeId} (h : w.heap[B]? = some (.cells (cnt12 l) t (0, 0))) (m : Nat) (hm : m < 12) : w.cell? ⟨B, m, none⟩ = some (cv l m) ∧ w.frozen? ⟨B, m, none⟩ = false :=
  ⟨by rw [cell_of_row w _ _ _ _ _ h, cnt12_at l m hm], frozen_of_row w _ _ _ _ h⟩
theorem nodup12 {l : List Int} (h : ∀ x ∈ l, 0 ≤ x ∧ x ≤ 11) : l.Nodup ↔ ∀ m : Nat, m < 12 → l.count (m : Int) ≤ 1 := by
  rw [List.nodup_iff_count]
  constructor
  · intro e m _; exact e _
  · intro e x
    by_cases hx : x ∈ l
    · have := h x hx
      obtain ⟨m, rfl⟩ := Int.eq_ofNat_of_zero_le this.1
      exact e m (by omega)
    · rw [List.count_eq_zero_of_not_mem hx]; omega
theorem all_in (t : Tx) (h1 : rises (blksOf t.info) = true) (h2 : rises (blksOf t.data) = true) (h3 : rises t.rev = true) : ∀ x ∈ allOf t, 0 ≤ x ∧ x ≤ 11 := by
  intro x hx
  rw [rises_iff] at h1 h2 h3
  simp only [allOf, List.mem_append] at hx
  rcases hx with hx | hx | hx
  · exact h1.1 x hx
  · exact h2.1 x hx
  · exact h3.1 x hx
theorem fits_take {l : List (Int × ByteArray)} {k : Nat} {x : Int × ByteArray} (h : l[k]? = some x) (ht : fitsAll (l.take k) = true) : fitsAll (l.take (k + 1)) = fitsB x.2 := by
  rw [List.take_add_one, h]
  unfold fitsAll at ht ⊢
  rw [List.all_append, ht]
  simp
theorem fits_no {l : List (Int × ByteArray)} {k : Nat} {x : Int × ByteArray} (h : l[k]? = some x) (hf : fitsB x.2 = false) : fitsAll l = false := by
  unfold fitsAll
  rw [List.all_eq_false]
  exact ⟨x, List.mem_of_getElem? h, by rw [hf]; simp⟩

end Go.Proofs.YtjnpndfpajjihabGreat
