/-
  A transaction as plain data, and how it lies in memory.
-/
import Derived.Test.YtjnpndfpajjihabTDefs
import Derived.Test.YtjnpndfpajjihabBoxes
namespace Go.Proofs.Ytjnpndfpajjihab
open Go.RowKit

/-- A handle, a transaction as plain data. -/
structure Hd where
  on : Bool
  left : Int
structure Tx where
  seq : Int
  info : List (Int × ByteArray)
  data : List (Int × ByteArray)
  rev : List Int
  h0 : Hd
  h1 : Hd
  h2 : Hd

/-- A value that is a transaction, in a world. -/
def IsTx (w : World) (v : Value) (t : Tx) : Prop :=
  ∃ a c a' c' b d, v = .agg #[.int .i64 t.seq, .slice a t.info.length c, .slice a' t.data.length c', .slice b t.rev.length d, .bool t.h0.on, .int .i64 t.h0.left, .bool t.h1.on, .int .i64 t.h1.left, .bool t.h2.on, .int .i64 t.h2.left] ∧
    SegW w a t.info ∧ SegW w a' t.data ∧ SegI w b t.rev ∧ t.info.length ≤ maxLen ∧ t.data.length ≤ maxLen ∧ t.rev.length ≤ maxLen
/-- The three rows of a transaction have room for what they hold. -/
def RoomTx (v : Value) : Prop :=
  ∃ s a n c a' n' c' b m d x0 x1 x2 x3 x4 x5, v = .agg #[s, .slice a n c, .slice a' n' c', .slice b m d, x0, x1, x2, x3, x4, x5] ∧ n ≤ c ∧ n' ≤ c' ∧ m ≤ d
theorem RoomTx.is {q x0 x1 x2 x3 x4 x5 : Value} {a a' b : Option Addr} {n c n' c' m d : Nat} (h : RoomTx (.agg #[q, .slice a n c, .slice a' n' c', .slice b m d, x0, x1, x2, x3, x4, x5])) : n ≤ c ∧ n' ≤ c' ∧ m ≤ d := by
  obtain ⟨s, a2, n2, c2, a3, n3, c3, b2, m2, d2, y0, y1, y2, y3, y4, y5, e, h⟩ := h
  simp only [Value.agg.injEq] at e
  injection e with e
  simp only [List.cons.injEq, Value.slice.injEq, and_true] at e
  obtain ⟨_, ⟨_, rfl, rfl⟩, ⟨_, rfl, rfl⟩, ⟨_, rfl, rfl⟩, _⟩ := e
  exact h
theorem IsTx.below {w w' : World} {v : Value} {t : Tx} (h : IsTx w v t) (hb : Below w.heap.size w w') : IsTx w' v t := by
  obtain ⟨a, c, a', c', b, d, rfl, h1, h2, h3, h4, h5, h6⟩ := h
  exact ⟨a, c, a', c', b, d, rfl, h1.below hb, h2.below hb, h3.below hb, h4, h5, h6⟩

/-- A block of ten cells: what stands in each, and that none is frozen. -/
theorem box10 {w : World} {B : Nat} {v0 v1 v2 v3 v4 v5 v6 v7 v8 v9 : Value} {t : TypeId} (h : w.heap[B]? = some (.cells #[v0, v1, v2, v3, v4, v5, v6, v7, v8, v9] t (0, 0))) :
    (w.cell? ⟨B, 0, none⟩ = some v0 ∧ w.cell? ⟨B, 1, none⟩ = some v1 ∧ w.cell? ⟨B, 2, none⟩ = some v2 ∧ w.cell? ⟨B, 3, none⟩ = some v3 ∧ w.cell? ⟨B, 4, none⟩ = some v4 ∧ w.cell? ⟨B, 5, none⟩ = some v5 ∧ w.cell? ⟨B, 6, none⟩ = some v6 ∧ w.cell? ⟨B, 7, none⟩ = some v7 ∧ w.cell? ⟨B, 8, none⟩ = some v8 ∧ w.cell? ⟨B, 9, none⟩ = some v9) ∧
    ∀ k, w.frozen? ⟨B, k, none⟩ = false := by
  refine ⟨⟨?_, ?_, ?_, ?_, ?_, ?_, ?_, ?_, ?_, ?_⟩, fun k => frozen_of_row w _ _ _ _ h⟩ <;> (rw [cell_of_row w _ _ _ _ _ h]; rfl)

/-- Is a handle on? How many are named, and may be named? -/
def openB (t : Tx) : Bool := t.h0.on || t.h1.on || t.h2.on
def askedN (t : Tx) : Int := wrap64 (wrap64 (wrap64 (wrap64 ((t.info.length : Int) + (t.rev.length : Int)) + t.h0.left) + t.h1.left) + t.h2.left)

set_option maxRecDepth 100000 in
/-- Two handles, and two rows of three, are alike where each part is. -/
theorem eqHandle (d : Nat) (o p : Bool) (l m : Int) (w : World) :
    (Op.equalIn (d + 2) 37 (.agg #[.bool o, .int .i64 l]) (.agg #[.bool p, .int .i64 m])).run Try.prog w = .ok (o == p && l == m) w := by
  have hf : Try.prog.underlying 37 = some (.struct (Try.prog.fieldsOf 37)) := by kernel_rfl
  have hs : Try.prog.stoodInHeld 37 = false := by kernel_rfl
  rw [run_equalIn_agg w (d + 1) 37 _ _ hf hs]
  simp [Op.eqFields, go_sem, Program.fieldsOf, Try.underlying37, Try.underlying3, Try.underlying4]
  by_cases h1 : o = p
  · by_cases h2 : l = m <;> simp [h1, h2]
  · simp [h1]
theorem eqHandles (d : Nat) (o0 o1 o2 p0 p1 p2 : Bool) (l0 l1 l2 m0 m1 m2 : Int) (w : World) :
    (Op.equalIn (d + 3) 38 (.agg #[.bool o0, .int .i64 l0, .bool o1, .int .i64 l1, .bool o2, .int .i64 l2]) (.agg #[.bool p0, .int .i64 m0, .bool p1, .int .i64 m1, .bool p2, .int .i64 m2])).run Try.prog w = .ok ((o0 == p0 && l0 == m0) && (o1 == p1 && l1 == m1) && (o2 == p2 && l2 == m2)) w := by
  unfold Op.equalIn
  simp only [Sem.run_bind, run_underlying Try.underlying38, Result.andThen_ok]
  simp [go_sem, List.range', eqHandle]
  by_cases h1 : o0 = p0 <;> by_cases h2 : l0 = m0 <;> by_cases h3 : o1 = p1 <;> by_cases h4 : l1 = m1 <;> by_cases h5 : o2 = p2 <;> by_cases h6 : l2 = m2 <;> simp [h1, h2, h3, h4, h5, h6]

end Go.Proofs.Ytjnpndfpajjihab
