/-
  Blocks of a few cells, and blocks made first and second. Nothing of the program is proved here.
  A transaction as plain data, and how it lies in memory.
-/
import Derived.Test.YtjnpndfpajjihabGrRecoverTwice0
namespace Go.Proofs.Ytjnpndfpajjihab
open Go.RowKit

/-- A block of two cells: what stands in each, and that none is frozen. -/
theorem box2 {w : World} {B : Nat} {v0 v1 : Value} {t : TypeId} (h : w.heap[B]? = some (.cells #[v0, v1] t (0, 0))) :
    (w.cell? ⟨B, 0, none⟩ = some v0 ∧ w.cell? ⟨B, 1, none⟩ = some v1) ∧ (w.frozen? ⟨B, 0, none⟩ = false ∧ w.frozen? ⟨B, 1, none⟩ = false) := by
  refine ⟨⟨?_, ?_⟩, frozen_of_row w _ _ _ _ h, frozen_of_row w _ _ _ _ h⟩ <;> (rw [cell_of_row w _ _ _ _ _ h]; rfl)
/-- A block that was just made stays under what makes memory alone. -/
theorem one1 {w w' : World} {o : Obj} (hb : Below (w.alloc o).heap.size (w.alloc o) w') : w'.heap[w.heap.size]? = some o :=
  (hb.block _ (by simp)).trans (heap_alloc_new w o)
/-- Blocks made first and second stay under what makes memory alone. -/
theorem two1 {w w' : World} {o o2 : Obj} (hb : Below ((w.alloc o).alloc o2).heap.size ((w.alloc o).alloc o2) w') : w'.heap[w.heap.size]? = some o :=
  (hb.block _ (by simp; omega)).trans ((Below.heap_alloc _ _ _ (by simp)).trans (heap_alloc_new w o))
theorem two2 {w w' : World} {o o2 : Obj} (hb : Below ((w.alloc o).alloc o2).heap.size ((w.alloc o).alloc o2) w') : w'.heap[w.heap.size + 1]? = some o2 := by
  have := heap_alloc_new (w.alloc o) o2
  simp at this
  exact (hb.block _ (by simp)).trans (by simpa using this)

/-- A block of two cells that is written whole; others stay. -/
theorem box2Set {w : World} {B : Nat} {u0 u1 : Value} {t : TypeId} (h : w.heap[B]? = some (.cells #[u0, u1] t (0, 0))) (v0 v1 : Value) :
    ((w.setCell ⟨B, 0, none⟩ v0).setCell ⟨B, 1, none⟩ v1).heap[B]? = some (.cells #[v0, v1] t (0, 0)) := by
  have h1 := heap_setCell_same w B 0 _ _ v0 h
  rw [heap_setCell_same _ B 1 _ _ v1 h1]
  rfl
theorem box2Other {w : World} {B b : Nat} {o : Option Obj} (h : w.heap[B]? = o) (hne : B ≠ b) (v0 v1 : Value) :
    ((w.setCell ⟨b, 0, none⟩ v0).setCell ⟨b, 1, none⟩ v1).heap[B]? = o := by
  rw [Below.heap_setCell _ _ _ _ hne, Below.heap_setCell _ _ _ _ hne]
  exact h
theorem box2Size (w : World) (b : Nat) (v0 v1 : Value) : ((w.setCell ⟨b, 0, none⟩ v0).setCell ⟨b, 1, none⟩ v1).heap.size = w.heap.size := by simp [World.setCell]
/-- A block stays under what makes memory alone. -/
theorem boxKeep {w w' : World} (hb : Below w.heap.size w w') {B : Nat} (hlt : B < w.heap.size) {o : Obj} (h : w.heap[B]? = some o) : w'.heap[B]? = some o :=
  (hb.block _ hlt).trans h

/-- A block of five cells: what stands in each, and that none is frozen. -/
theorem box5 {w : World} {B : Nat} {v0 v1 v2 v3 v4 : Value} {t : TypeId} (h : w.heap[B]? = some (.cells #[v0, v1, v2, v3, v4] t (0, 0))) :
    (w.cell? ⟨B, 0, none⟩ = some v0 ∧ w.cell? ⟨B, 1, none⟩ = some v1 ∧ w.cell? ⟨B, 2, none⟩ = some v2 ∧ w.cell? ⟨B, 3, none⟩ = some v3 ∧ w.cell? ⟨B, 4, none⟩ = some v4) ∧
    (w.frozen? ⟨B, 0, none⟩ = false ∧ w.frozen? ⟨B, 1, none⟩ = false ∧ w.frozen? ⟨B, 2, none⟩ = false ∧ w.frozen? ⟨B, 3, none⟩ = false ∧ w.frozen? ⟨B, 4, none⟩ = false) := by
  refine ⟨⟨?_, ?_, ?_, ?_, ?_⟩, frozen_of_row w _ _ _ _ h, frozen_of_row w _ _ _ _ h, frozen_of_row w _ _ _ _ h, frozen_of_row w _ _ _ _ h, frozen_of_row w _ _ _ _ h⟩ <;> (rw [cell_of_row w _ _ _ _ _ h]; rfl)
/-- Three blocks made one behind another stay under what makes memory alone. -/
theorem three1 {w w' : World} {o o2 o3 : Obj} (hb : Below (((w.alloc o).alloc o2).alloc o3).heap.size (((w.alloc o).alloc o2).alloc o3) w') : w'.heap[w.heap.size]? = some o ∧ w'.heap[w.heap.size + 1]? = some o2 ∧ w'.heap[w.heap.size + 1 + 1]? = some o3 ∧ w.heap.size + 1 + 1 < w'.heap.size := by
  have hz := hb.size
  simp at hz
  have e1 := heap_alloc_new (w.alloc o) o2
  have e2 := heap_alloc_new ((w.alloc o).alloc o2) o3
  simp only [World.size_alloc] at e1 e2
  refine ⟨?_, ?_, ?_, by omega⟩
  · exact (hb.block _ (by simp; omega)).trans ((Below.heap_alloc _ _ _ (by simp; omega)).trans ((Below.heap_alloc _ _ _ (by simp)).trans (heap_alloc_new w o)))
  · exact (hb.block _ (by simp)).trans ((Below.heap_alloc _ _ _ (by simp)).trans e1)
  · exact (hb.block _ (by simp)).trans e2

end Go.Proofs.Ytjnpndfpajjihab

namespace Go.Proofs.Ytjnpndfpajjihab
open Go.RowKit

/-- A handle, a transaction as plain data. -/
structure Hd where
  on : Bool
  left : Int
structure Tx where
  seq : Int
  info : List (Int × ByteArray)
  data : List (Int × ByteArray)
  rev : List Int
  h0 : Hd
  h1 : Hd
  h2 : Hd

/-- A value that is a transaction, in a world. -/
def IsTx (w : World) (v : Value) (t : Tx) : Prop :=
  ∃ a c a' c' b d, v = .agg #[.int .i64 t.seq, .slice a t.info.length c, .slice a' t.data.length c', .slice b t.rev.length d, .bool t.h0.on, .int .i64 t.h0.left, .bool t.h1.on, .int .i64 t.h1.left, .bool t.h2.on, .int .i64 t.h2.left] ∧
    SegW w a t.info ∧ SegW w a' t.data ∧ SegI w b t.rev ∧ t.info.length ≤ maxLen ∧ t.data.length ≤ maxLen ∧ t.rev.length ≤ maxLen
theorem IsTx.below {w w' : World} {v : Value} {t : Tx} (h : IsTx w v t) (hb : Below w.heap.size w w') : IsTx w' v t := by
  obtain ⟨a, c, a', c', b, d, rfl, h1, h2, h3, h4, h5, h6⟩ := h
  exact ⟨a, c, a', c', b, d, rfl, h1.below hb, h2.below hb, h3.below hb, h4, h5, h6⟩

/-- A block of ten cells: what stands in each, and that none is frozen. -/
theorem box10 {w : World} {B : Nat} {v0 v1 v2 v3 v4 v5 v6 v7 v8 v9 : Value} {t : TypeId} (h : w.heap[B]? = some (.cells #[v0, v1, v2, v3, v4, v5, v6, v7, v8, v9] t (0, 0))) :
    (w.cell? ⟨B, 0, none⟩ = some v0 ∧ w.cell? ⟨B, 1, none⟩ = some v1 ∧ w.cell? ⟨B, 2, none⟩ = some v2 ∧ w.cell? ⟨B, 3, none⟩ = some v3 ∧ w.cell? ⟨B, 4, none⟩ = some v4 ∧ w.cell? ⟨B, 5, none⟩ = some v5 ∧ w.cell? ⟨B, 6, none⟩ = some v6 ∧ w.cell? ⟨B, 7, none⟩ = some v7 ∧ w.cell? ⟨B, 8, none⟩ = some v8 ∧ w.cell? ⟨B, 9, none⟩ = some v9) ∧
    ∀ k, w.frozen? ⟨B, k, none⟩ = false := by
  refine ⟨⟨?_, ?_, ?_, ?_, ?_, ?_, ?_, ?_, ?_, ?_⟩, fun k => frozen_of_row w _ _ _ _ h⟩ <;> (rw [cell_of_row w _ _ _ _ _ h]; rfl)

/-- Is a handle on? How many are named, and may be named? -/
def openB (t : Tx) : Bool := t.h0.on || t.h1.on || t.h2.on
def askedN (t : Tx) : Int := wrap64 (wrap64 (wrap64 (wrap64 ((t.info.length : Int) + (t.rev.length : Int)) + t.h0.left) + t.h1.left) + t.h2.left)

set_option maxRecDepth 100000 in
/-- Two handles, and two rows of three, are alike where each part is. -/
theorem eqHandle (d : Nat) (o p : Bool) (l m : Int) (w : World) :
    (Op.equalIn (d + 2) 37 (.agg #[.bool o, .int .i64 l]) (.agg #[.bool p, .int .i64 m])).run Try.prog w = .ok (o == p && l == m) w := by
  have hf : Try.prog.underlying 37 = some (.struct (Try.prog.fieldsOf 37)) := by kernel_rfl
  have hs : Try.prog.stoodInHeld 37 = false := by kernel_rfl
  rw [run_equalIn_agg w (d + 1) 37 _ _ hf hs]
  simp [Op.eqFields, go_sem, Program.fieldsOf, Try.underlying37, Try.underlying3, Try.underlying4]
  by_cases h1 : o = p
  · by_cases h2 : l = m <;> simp [h1, h2]
  · simp [h1]
theorem eqHandles (d : Nat) (o0 o1 o2 p0 p1 p2 : Bool) (l0 l1 l2 m0 m1 m2 : Int) (w : World) :
    (Op.equalIn (d + 3) 38 (.agg #[.bool o0, .int .i64 l0, .bool o1, .int .i64 l1, .bool o2, .int .i64 l2]) (.agg #[.bool p0, .int .i64 m0, .bool p1, .int .i64 m1, .bool p2, .int .i64 m2])).run Try.prog w = .ok ((o0 == p0 && l0 == m0) && (o1 == p1 && l1 == m1) && (o2 == p2 && l2 == m2)) w := by
  unfold Op.equalIn
  simp only [Sem.run_bind, run_underlying Try.underlying38, Result.andThen_ok]
  simp [go_sem, List.range', eqHandle]
  by_cases h1 : o0 = p0 <;> by_cases h2 : l0 = m0 <;> by_cases h3 : o1 = p1 <;> by_cases h4 : l1 = m1 <;> by_cases h5 : o2 = p2 <;> by_cases h6 : l2 = m2 <;> simp [h1, h2, h3, h4, h5, h6]

end Go.Proofs.Ytjnpndfpajjihab
