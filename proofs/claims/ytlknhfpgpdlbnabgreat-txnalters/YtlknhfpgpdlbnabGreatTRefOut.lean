/-
  Rows of a transaction that lie behind the call's first blocks; what the document's own Alter leaves.
-/
import Derived.Test.YtlknhfpgpdlbnabGreatTRefAlter
namespace Go.Proofs.YtlknhfpgpdlbnabGreat
open Go.RowKit

/-- A row of copies, of numbers, whose block is none of the elder ones. -/
def RowC (w : World) (lo : Nat) (v : Value) (l : List (Int × ByteArray)) : Prop := ∃ a c, v = .slice a l.length c ∧ SegW w a l ∧ ∀ b off, a = some ⟨b, off, none⟩ → lo ≤ b
def RowN (w : World) (lo : Nat) (v : Value) (l : List Int) : Prop := ∃ a c, v = .slice a l.length c ∧ SegI w a l ∧ ∀ b off, a = some ⟨b, off, none⟩ → lo ≤ b
theorem RowC.below {w w' : World} {lo : Nat} {v : Value} {l : List (Int × ByteArray)} (h : RowC w lo v l) (hb : Below w.heap.size w w') : RowC w' lo v l := by
  obtain ⟨a, c, e, h1, h2⟩ := h
  exact ⟨a, c, e, h1.below hb, h2⟩
theorem RowN.below {w w' : World} {lo : Nat} {v : Value} {l : List Int} (h : RowN w lo v l) (hb : Below w.heap.size w w') : RowN w' lo v l := by
  obtain ⟨a, c, e, h1, h2⟩ := h
  exact ⟨a, c, e, h1.below hb, h2⟩
theorem RowC.set {w : World} {lo : Nat} {v : Value} {l : List (Int × ByteArray)} (h : RowC w lo v l) {p : Addr} (hp : p.block < lo) (u : Value) : RowC (w.setCell p u) lo v l := by
  obtain ⟨a, c, e, h1, h2⟩ := h
  exact ⟨a, c, e, SegW.setNe h1 (fun b off e => by have := h2 b off e; omega) u, h2⟩
theorem RowN.set {w : World} {lo : Nat} {v : Value} {l : List Int} (h : RowN w lo v l) {p : Addr} (hp : p.block < lo) (u : Value) : RowN (w.setCell p u) lo v l := by
  obtain ⟨a, c, e, h1, h2⟩ := h
  exact ⟨a, c, e, SegI.setNe h1 (fun b off e => by have := h2 b off e; omega) u, h2⟩
theorem RowC.owned {w : World} {base lo n : Nat} {v : Value} {l : List (Int × ByteArray)} (h : w.ownsRow base 47 2 v n (cellsC l)) (h1 : lo ≤ base) : RowC w lo v l := by
  obtain ⟨a, c, e, hs, hb⟩ := SegC.of_owns h
  exact ⟨a, c, e, hs, fun b off e => by have := hb b off e; omega⟩
theorem RowN.owned {w : World} {base lo n : Nat} {v : Value} {l : List Int} (h : w.ownsRow base 3 1 v n (cellsI l)) (h1 : lo ≤ base) : RowN w lo v l := by
  obtain ⟨a, c, e, hs, hb⟩ := SegI.of_owns h
  exact ⟨a, c, e, hs, fun b off e => by have := hb b off e; omega⟩
def Rows3 (w : World) (lo : Nat) (va vd vr : Value) (li ld : List (Int × ByteArray)) (lr : List Int) : Prop := RowC w lo va li ∧ RowC w lo vd ld ∧ RowN w lo vr lr
theorem Rows3.set {w : World} {lo : Nat} {va vd vr : Value} {li ld : List (Int × ByteArray)} {lr : List Int} (h : Rows3 w lo va vd vr li ld lr) {p : Addr} (hp : p.block < lo) (u : Value) : Rows3 (w.setCell p u) lo va vd vr li ld lr :=
  ⟨h.1.set hp u, h.2.1.set hp u, h.2.2.set hp u⟩
theorem Rows3.is {w : World} {lo : Nat} {va vd vr : Value} {li ld : List (Int × ByteArray)} {lr : List Int} {T : Tx} (h : Rows3 w lo va vd vr li ld lr) (n1 : li.length ≤ 1000) (n2 : ld.length ≤ 1000) (n3 : lr.length ≤ 1000) :
    IsTx w (.agg #[.int .i64 T.seq, va, vd, vr, .bool T.h0.on, .int .i64 T.h0.left, .bool T.h1.on, .int .i64 T.h1.left, .bool T.h2.on, .int .i64 T.h2.left]) { T with info := li, data := ld, rev := lr } := by
  obtain ⟨⟨a, c, rfl, h1, _⟩, ⟨a', c', rfl, h2, _⟩, r, d, rfl, h3, _⟩ := h
  exact ⟨a, c, a', c', r, d, rfl, h1, h2, h3, by unfold maxLen; dsimp only; omega, by unfold maxLen; dsimp only; omega, by unfold maxLen; dsimp only; omega⟩
theorem Rows3.from {w : World} {lo base : Nat} {va vd vr : Value} {li ld : List (Int × ByteArray)} {lr : List Int} {T : Tx} (h : Rows3 w lo va vd vr li ld lr) (hb : base ≤ lo) :
    RowsFrom base (.agg #[.int .i64 T.seq, va, vd, vr, .bool T.h0.on, .int .i64 T.h0.left, .bool T.h1.on, .int .i64 T.h1.left, .bool T.h2.on, .int .i64 T.h2.left]) { T with info := li, data := ld, rev := lr } := by
  obtain ⟨⟨a, c, rfl, _, h1⟩, ⟨a', c', rfl, _, h2⟩, r, d, rfl, _, h3⟩ := h
  exact ⟨a, c, a', c', r, d, rfl, fun x o e => Nat.le_trans hb (h1 x o e), fun x o e => Nat.le_trans hb (h2 x o e), fun x o e => Nat.le_trans hb (h3 x o e)⟩
theorem docR_le (l : List Int) (b : Int) (r : Bool) (j : Nat) : (docR l b r j).length ≤ 1 := by
  unfold docR
  split <;> simp
theorem putLe {α : Type} (key : α → Int) (l : List α) (b : Int) (x : α) : (putAt key l b x).length ≤ 2 * l.length + 1 := by
  have h1 := List.length_filter_le (fun y => decide (key y < b)) l
  have h2 := List.length_filter_le (fun y => decide (b < key y)) l
  simp [putAt]; omega
theorem dropLe {α : Type} (key : α → Int) (l : List α) (b : Int) : (dropAt key l b).length ≤ 2 * l.length := by
  have h1 := List.length_filter_le (fun y => decide (key y < b)) l
  have h2 := List.length_filter_le (fun y => decide (b < key y)) l
  simp [dropAt]; omega

theorem hd_left {x : Hd} (h : hdB x = true) : 0 ≤ x.left ∧ x.left ≤ 24 := by
  have := (hdB_iff x).1 h
  omega

theorem RowC.weak {w : World} {lo lo' : Nat} {v : Value} {l : List (Int × ByteArray)} (h : RowC w lo v l) (hl : lo' ≤ lo) : RowC w lo' v l := by
  obtain ⟨a, c, e, h1, h2⟩ := h
  exact ⟨a, c, e, h1, fun b off e => Nat.le_trans hl (h2 b off e)⟩
theorem RowN.weak {w : World} {lo lo' : Nat} {v : Value} {l : List Int} (h : RowN w lo v l) (hl : lo' ≤ lo) : RowN w lo' v l := by
  obtain ⟨a, c, e, h1, h2⟩ := h
  exact ⟨a, c, e, h1, fun b off e => Nat.le_trans hl (h2 b off e)⟩
theorem Rows3.weak {w : World} {lo lo' : Nat} {va vd vr : Value} {li ld : List (Int × ByteArray)} {lr : List Int} (h : Rows3 w lo va vd vr li ld lr) (hl : lo' ≤ lo) : Rows3 w lo' va vd vr li ld lr := ⟨h.1.weak hl, h.2.1.weak hl, h.2.2.weak hl⟩

end Go.Proofs.YtlknhfpgpdlbnabGreat
