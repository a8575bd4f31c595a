/-
  A row of numbers that is filled one by one. Nothing of the program is proved here.
-/
import Derived.Test.YtjnpndfpajjihabGreatIntRows
import Derived.Laws.OwnMore
namespace Go.Proofs.YtjnpndfpajjihabGreat
open Go.RowKit

/-- A row of numbers of which the first are filled. -/
def fillI (l : List Int) (m : Nat) : List Value := cellsI l ++ List.replicate m (.int .i64 0)
theorem fillI_set (l : List Int) (m : Nat) (x : Int) : (fillI l (m + 1)).set l.length (.int .i64 x) = fillI (l ++ [x]) m := by
  have hl : (cellsI l).length = l.length := by simp [cellsI]
  rw [fillI, List.set_append_right _ _ (by omega), hl, Nat.sub_self, List.replicate_succ, List.set_cons_zero, fillI, cellsI_append, List.append_assoc]
  rfl
theorem fillI_full (l : List Int) : fillI l 0 = cellsI l := by simp [fillI]
theorem fillI_none (m : Nat) : fillI [] m = List.replicate m (.int .i64 0) := rfl
theorem fillI_at (l : List Int) (m k : Nat) (h : k < l.length + m) : ∃ u, (fillI l m)[k]? = some u := by
  have : k < (fillI l m).length := by simp [fillI, cellsI]; omega
  exact ⟨_, List.getElem?_eq_getElem this⟩
theorem fillI_step {w : World} {base g n : Nat} {l : List Int} {m : Nat} (h : w.ownsRow base 3 1 (.slice (some ⟨g, 0, none⟩) n n) n (fillI l (m + 1))) (x : Int) :
    (w.setCell ⟨g, l.length, none⟩ (.int .i64 x)).ownsRow base 3 1 (.slice (some ⟨g, 0, none⟩) n n) n (fillI (l ++ [x]) m) := by
  have := (h.stored l.length (.int .i64 x)).1
  rwa [fillI_set] at this
theorem fillI_cell {w : World} {base g n : Nat} {l : List Int} {m : Nat} (h : w.ownsRow base 3 1 (.slice (some ⟨g, 0, none⟩) n n) n (fillI l (m + 1))) :
    (∃ u, w.cell? ⟨g, l.length, none⟩ = some u) ∧ w.frozen? ⟨g, l.length, none⟩ = false ∧ base ≤ g ∧ g < w.heap.size ∧ l.length + (m + 1) = n := by
  have hlen : l.length + (m + 1) = n := by have := h.1; simp [fillI, cellsI] at this; omega
  obtain ⟨u, hu⟩ := fillI_at l (m + 1) l.length (by omega)
  have hlt := h.lt g rfl
  exact ⟨⟨u, by rw [h.cellAt _ (by omega)]; exact hu⟩, h.frozenAt _, hlt.1, hlt.2, hlen⟩

theorem madeI (n : Nat) (h : n ≤ 17592186044416) (w : World) : (Instr.makeSlice 23 (.int .i64 n) (.int .i64 n)).run Tryz.prog w = .ok (.slice (some ⟨w.heap.size, 0, none⟩) n n) (w.alloc (.cells (fillI [] n).toArray 3)) := by
  obtain ⟨i0, hi, hz0, hz1, hz2⟩ := info_parts infoI
  have hr := run_make (P := Tryz.prog) w 23 3 i0 (.int .i64 0) Tryz.underlying23 hi hz0 .i64 .i64 n n (by omega) (by omega) (by rw [hz2]; omega) (by omega)
  have e : madeCells (Value.cells (.int .i64 0)) n = (fillI [] n).toArray := by
    apply Array.toList_inj.1
    rw [show Value.cells (.int .i64 0) = #[.int .i64 0] from rfl, toList_madeCells_one, fillI_none]
  rw [hr, hz1, Int.toNat_natCast, Nat.mul_one, e]

theorem madeI_owns (n : Nat) (h : n ≤ 17592186044416) (w : World) (base : Nat) (hb : base ≤ w.heap.size) : (w.alloc (.cells (fillI [] n).toArray 3)).ownsRow base 3 1 (.slice (some ⟨w.heap.size, 0, none⟩) n n) n (fillI [] n) := by
  have := World.ownsRow_lit (e := 3) (size := 1) w (fillI [] n).toArray n hb (by unfold maxLen; omega) (by simp [fillI, cellsI])
  simpa using this

end Go.Proofs.YtjnpndfpajjihabGreat
