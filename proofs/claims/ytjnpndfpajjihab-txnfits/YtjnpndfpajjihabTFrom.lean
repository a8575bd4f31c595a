/-
  Where the rows of a transaction lie that a call made. Nothing of the program is proved here.
-/
import Derived.Test.YtjnpndfpajjihabTBox
import Derived.Test.YtjnpndfpajjihabTReach
namespace Go.Proofs.Ytjnpndfpajjihab
open Go.RowKit

/-- Rows that lie in memory from a block on. -/
def RowsFrom (base : Nat) (v : Value) (t : Tx) : Prop :=
  ∃ a c a' c' r d, v = .agg #[.int .i64 t.seq, .slice a t.info.length c, .slice a' t.data.length c', .slice r t.rev.length d, .bool t.h0.on, .int .i64 t.h0.left, .bool t.h1.on, .int .i64 t.h1.left, .bool t.h2.on, .int .i64 t.h2.left] ∧
    (∀ x off, a = some ⟨x, off, none⟩ → base ≤ x) ∧ (∀ x off, a' = some ⟨x, off, none⟩ → base ≤ x) ∧ ∀ x off, r = some ⟨x, off, none⟩ → base ≤ x
theorem BoxTx.from {w : World} {B base : Nat} {t : Tx} {va vd vr : Value} (h : BoxTx w B t va vd vr) (hb : base ≤ B + 1) :
    RowsFrom base (.agg #[.int .i64 t.seq, va, vd, vr, .bool t.h0.on, .int .i64 t.h0.left, .bool t.h1.on, .int .i64 t.h1.left, .bool t.h2.on, .int .i64 t.h2.left]) t := by
  obtain ⟨a, c, rfl, _, h1⟩ := SegC.of_owns h.2.1
  obtain ⟨a', c', rfl, _, h2⟩ := SegC.of_owns h.2.2.1
  obtain ⟨r, d, rfl, _, h3⟩ := SegI.of_owns h.2.2.2
  exact ⟨a, c, a', c', r, d, rfl, fun x o e => Nat.le_trans hb (h1 x o e), fun x o e => Nat.le_trans hb (h2 x o e), fun x o e => Nat.le_trans hb (h3 x o e)⟩
/-- Such rows that have room for what they hold. -/
def RowsFromR (base : Nat) (v : Value) (t : Tx) : Prop := RowsFrom base v t ∧ RoomTx v
theorem own_room {w : World} {base sz k n c : Nat} {e : TypeId} {a : Option Addr} {xs : List Value} (h : w.ownsRow base e sz (.slice a n c) k xs) : n ≤ c := by
  rcases h.2 with ⟨e, _⟩ | ⟨g, cap, cur, e, _, _, h1, _⟩
  · simp only [Value.slice.injEq] at e; omega
  · simp only [Value.slice.injEq] at e; omega
theorem BoxTx.fromR {w : World} {B base : Nat} {t : Tx} {va vd vr : Value} (h : BoxTx w B t va vd vr) (hb : base ≤ B + 1) :
    RowsFromR base (.agg #[.int .i64 t.seq, va, vd, vr, .bool t.h0.on, .int .i64 t.h0.left, .bool t.h1.on, .int .i64 t.h1.left, .bool t.h2.on, .int .i64 t.h2.left]) t := by
  refine ⟨h.from hb, ?_⟩
  obtain ⟨_, o1, o2, o3⟩ := h
  obtain ⟨a, c, rfl, _, _⟩ := SegC.of_owns o1
  obtain ⟨a', c', rfl, _, _⟩ := SegC.of_owns o2
  obtain ⟨r, d, rfl, _, _⟩ := SegI.of_owns o3
  exact ⟨_, _, _, _, _, _, _, _, _, _, _, _, _, _, _, _, rfl, own_room o1, own_room o2, own_room o3⟩
/-- Behind a write into an elder block. -/
theorem BoxTx.other {w : World} {B : Nat} {t : Tx} {va vd vr : Value} (h : BoxTx w B t va vd vr) {p : Addr} (hp : p.block < B) (u : Value) : BoxTx (w.setCell p u) B t va vd vr :=
  ⟨(Below.heap_setCell _ _ _ _ (by omega)).trans h.1, ownsRow_setCell_below h.2.1 (by omega) _, ownsRow_setCell_below h.2.2.1 (by omega) _, ownsRow_setCell_below h.2.2.2 (by omega) _⟩
theorem put_length {α : Type} (key : α → Int) (l : List α) (b : Int) (x : α) : (putAt key l b x).length ≤ 2 * l.length + 1 := by
  have h1 := List.length_filter_le (fun y => decide (key y < b)) l
  have h2 := List.length_filter_le (fun y => decide (b < key y)) l
  simp [putAt]; omega
theorem drop_length {α : Type} (key : α → Int) (l : List α) (b : Int) : (dropAt key l b).length ≤ 2 * l.length := by
  have h1 := List.length_filter_le (fun y => decide (key y < b)) l
  have h2 := List.length_filter_le (fun y => decide (b < key y)) l
  simp [dropAt]; omega

end Go.Proofs.Ytjnpndfpajjihab
