/-
  Blocks of a few cells, and blocks made first and second. Nothing of the program is proved here.
-/
import Derived.Test.YtjnpndfpajjihabBase
namespace Go.Proofs.Ytjnpndfpajjihab
open Go.RowKit

/-- A block of two cells: what stands in each, and that none is frozen. -/
theorem box2 {w : World} {B : Nat} {v0 v1 : Value} {t : TypeId} (h : w.heap[B]? = some (.cells #[v0, v1] t (0, 0))) :
    (w.cell? ⟨B, 0, none⟩ = some v0 ∧ w.cell? ⟨B, 1, none⟩ = some v1) ∧ (w.frozen? ⟨B, 0, none⟩ = false ∧ w.frozen? ⟨B, 1, none⟩ = false) := by
  refine ⟨⟨?_, ?_⟩, frozen_of_row w _ _ _ _ h, frozen_of_row w _ _ _ _ h⟩ <;> (rw [cell_of_row w _ _ _ _ _ h]; rfl)
/-- A block that was just made stays under what makes memory alone. -/
theorem one1 {w w' : World} {o : Obj} (hb : Below (w.alloc o).heap.size (w.alloc o) w') : w'.heap[w.heap.size]? = some o :=
  (hb.block _ (by simp)).trans (heap_alloc_new w o)
/-- Blocks made first and second stay under what makes memory alone. -/
theorem two1 {w w' : World} {o o2 : Obj} (hb : Below ((w.alloc o).alloc o2).heap.size ((w.alloc o).alloc o2) w') : w'.heap[w.heap.size]? = some o :=
  (hb.block _ (by simp; omega)).trans ((Below.heap_alloc _ _ _ (by simp)).trans (heap_alloc_new w o))
theorem two2 {w w' : World} {o o2 : Obj} (hb : Below ((w.alloc o).alloc o2).heap.size ((w.alloc o).alloc o2) w') : w'.heap[w.heap.size + 1]? = some o2 := by
  have := heap_alloc_new (w.alloc o) o2
  simp at this
  exact (hb.block _ (by simp)).trans (by simpa using this)

/-- A block of two cells that is written whole; others stay. -/
theorem box2Set {w : World} {B : Nat} {u0 u1 : Value} {t : TypeId} (h : w.heap[B]? = some (.cells #[u0, u1] t (0, 0))) (v0 v1 : Value) :
    ((w.setCell ⟨B, 0, none⟩ v0).setCell ⟨B, 1, none⟩ v1).heap[B]? = some (.cells #[v0, v1] t (0, 0)) := by
  have h1 := heap_setCell_same w B 0 _ _ v0 h
  rw [heap_setCell_same _ B 1 _ _ v1 h1]
  rfl
theorem box2Other {w : World} {B b : Nat} {o : Option Obj} (h : w.heap[B]? = o) (hne : B ≠ b) (v0 v1 : Value) :
    ((w.setCell ⟨b, 0, none⟩ v0).setCell ⟨b, 1, none⟩ v1).heap[B]? = o := by
  rw [Below.heap_setCell _ _ _ _ hne, Below.heap_setCell _ _ _ _ hne]
  exact h
theorem box2Size (w : World) (b : Nat) (v0 v1 : Value) : ((w.setCell ⟨b, 0, none⟩ v0).setCell ⟨b, 1, none⟩ v1).heap.size = w.heap.size := by simp [World.setCell]
/-- A block stays under what makes memory alone. -/
theorem boxKeep {w w' : World} (hb : Below w.heap.size w w') {B : Nat} (hlt : B < w.heap.size) {o : Obj} (h : w.heap[B]? = some o) : w'.heap[B]? = some o :=
  (hb.block _ hlt).trans h

/-- A block of five cells: what stands in each, and that none is frozen. -/
theorem box5 {w : World} {B : Nat} {v0 v1 v2 v3 v4 : Value} {t : TypeId} (h : w.heap[B]? = some (.cells #[v0, v1, v2, v3, v4] t (0, 0))) :
    (w.cell? ⟨B, 0, none⟩ = some v0 ∧ w.cell? ⟨B, 1, none⟩ = some v1 ∧ w.cell? ⟨B, 2, none⟩ = some v2 ∧ w.cell? ⟨B, 3, none⟩ = some v3 ∧ w.cell? ⟨B, 4, none⟩ = some v4) ∧
    (w.frozen? ⟨B, 0, none⟩ = false ∧ w.frozen? ⟨B, 1, none⟩ = false ∧ w.frozen? ⟨B, 2, none⟩ = false ∧ w.frozen? ⟨B, 3, none⟩ = false ∧ w.frozen? ⟨B, 4, none⟩ = false) := by
  refine ⟨⟨?_, ?_, ?_, ?_, ?_⟩, frozen_of_row w _ _ _ _ h, frozen_of_row w _ _ _ _ h, frozen_of_row w _ _ _ _ h, frozen_of_row w _ _ _ _ h, frozen_of_row w _ _ _ _ h⟩ <;> (rw [cell_of_row w _ _ _ _ _ h]; rfl)
/-- Three blocks made one behind another stay under what makes memory alone. -/
theorem three1 {w w' : World} {o o2 o3 : Obj} (hb : Below (((w.alloc o).alloc o2).alloc o3).heap.size (((w.alloc o).alloc o2).alloc o3) w') : w'.heap[w.heap.size]? = some o ∧ w'.heap[w.heap.size + 1]? = some o2 ∧ w'.heap[w.heap.size + 1 + 1]? = some o3 ∧ w.heap.size + 1 + 1 < w'.heap.size := by
  have hz := hb.size
  simp at hz
  have e1 := heap_alloc_new (w.alloc o) o2
  have e2 := heap_alloc_new ((w.alloc o).alloc o2) o3
  simp only [World.size_alloc] at e1 e2
  refine ⟨?_, ?_, ?_, by omega⟩
  · exact (hb.block _ (by simp; omega)).trans ((Below.heap_alloc _ _ _ (by simp; omega)).trans ((Below.heap_alloc _ _ _ (by simp)).trans (heap_alloc_new w o)))
  · exact (hb.block _ (by simp)).trans ((Below.heap_alloc _ _ _ (by simp)).trans e1)
  · exact (hb.block _ (by simp)).trans e2

end Go.Proofs.Ytjnpndfpajjihab
