/-
  Blocks of a few cells, and blocks made first and second. Nothing of the program is proved here.
-/
import Derived.Test.YtpimeafpaikomaaBase
namespace Go.Proofs.Ytpimeafpaikomaa
open Go.RowKit

/-- A block of two cells: what stands in each, and that none is frozen. -/
theorem box2 {w : World} {B : Nat} {v0 v1 : Value} {t : TypeId} (h : w.heap[B]? = some (.cells #[v0, v1] t (0, 0))) :
    (w.cell? ⟨B, 0, none⟩ = some v0 ∧ w.cell? ⟨B, 1, none⟩ = some v1) ∧ (w.frozen? ⟨B, 0, none⟩ = false ∧ w.frozen? ⟨B, 1, none⟩ = false) := by
  refine ⟨⟨?_, ?_⟩, frozen_of_row w _ _ _ _ h, frozen_of_row w _ _ _ _ h⟩ <;> (rw [cell_of_row w _ _ _ _ _ h]; rfl)
/-- Blocks made first and second stay under what makes memory alone. -/
theorem two1 {w w' : World} {o o2 : Obj} (hb : Below ((w.alloc o).alloc o2).heap.size ((w.alloc o).alloc o2) w') : w'.heap[w.heap.size]? = some o :=
  (hb.block _ (by simp; omega)).trans ((Below.heap_alloc _ _ _ (by simp)).trans (heap_alloc_new w o))
theorem two2 {w w' : World} {o o2 : Obj} (hb : Below ((w.alloc o).alloc o2).heap.size ((w.alloc o).alloc o2) w') : w'.heap[w.heap.size + 1]? = some o2 := by
  have := heap_alloc_new (w.alloc o) o2
  simp at this
  exact (hb.block _ (by simp)).trans (by simpa using this)

end Go.Proofs.Ytpimeafpaikomaa
