/-
  Transactions in a row of memory: ten cells each.
-/
import Derived.Test.YtjnpndfpajjihabTRows
namespace Go.Proofs.Ytjnpndfpajjihab
open Go.RowKit

def txz : Tx := ⟨0, [], [], [], ⟨false, 0⟩, ⟨false, 0⟩, ⟨false, 0⟩⟩
/-- The ten cells of a transaction, in a block from a place on. -/
def Ten (w : World) (b o : Nat) (t : Tx) (a : Option Addr) (c : Nat) (a' : Option Addr) (c' : Nat) (r : Option Addr) (d : Nat) : Prop :=
  w.cell? ⟨b, o, none⟩ = some (.int .i64 t.seq) ∧ w.cell? ⟨b, o + 1, none⟩ = some (.slice a t.info.length c) ∧ w.cell? ⟨b, o + 2, none⟩ = some (.slice a' t.data.length c') ∧ w.cell? ⟨b, o + 3, none⟩ = some (.slice r t.rev.length d) ∧ w.cell? ⟨b, o + 4, none⟩ = some (.bool t.h0.on) ∧
    w.cell? ⟨b, o + 5, none⟩ = some (.int .i64 t.h0.left) ∧ w.cell? ⟨b, o + 6, none⟩ = some (.bool t.h1.on) ∧ w.cell? ⟨b, o + 7, none⟩ = some (.int .i64 t.h1.left) ∧ w.cell? ⟨b, o + 8, none⟩ = some (.bool t.h2.on) ∧ w.cell? ⟨b, o + 9, none⟩ = some (.int .i64 t.h2.left)
/-- A transaction in ten cells of a block. -/
def TxAt (w : World) (b o : Nat) (t : Tx) : Prop :=
  ∃ a c a' c' r d, Ten w b o t a c a' c' r d ∧ IsTx w (.agg #[.int .i64 t.seq, .slice a t.info.length c, .slice a' t.data.length c', .slice r t.rev.length d, .bool t.h0.on, .int .i64 t.h0.left, .bool t.h1.on, .int .i64 t.h1.left, .bool t.h2.on, .int .i64 t.h2.left]) t
theorem TxAt.below {w w' : World} {b o : Nat} {t : Tx} (h : TxAt w b o t) (hb : Below w.heap.size w w') (hlt : b < w.heap.size) : TxAt w' b o t := by
  obtain ⟨a, c, a', c', r, d, ⟨h0, h1, h2, h3, h4, h5, h6, h7, h8, h9⟩, hT⟩ := h
  exact ⟨a, c, a', c', r, d, ⟨cellKeep hb hlt h0, cellKeep hb hlt h1, cellKeep hb hlt h2, cellKeep hb hlt h3, cellKeep hb hlt h4, cellKeep hb hlt h5, cellKeep hb hlt h6, cellKeep hb hlt h7, cellKeep hb hlt h8, cellKeep hb hlt h9⟩, hT.below hb⟩
theorem IsTx.rows {w : World} {t : Tx} {q x0 x1 x2 x3 x4 x5 : Value} {a a' r : Option Addr} {n c n' c' m d : Nat} (h : IsTx w (.agg #[q, .slice a n c, .slice a' n' c', .slice r m d, x0, x1, x2, x3, x4, x5]) t) :
    SegW w a t.info ∧ SegW w a' t.data ∧ SegI w r t.rev ∧ t.info.length ≤ maxLen ∧ t.data.length ≤ maxLen ∧ t.rev.length ≤ maxLen := by
  obtain ⟨a2, c2, a3, c3, b2, d2, e, h⟩ := h
  simp only [Value.agg.injEq] at e
  injection e with e
  simp only [List.cons.injEq, Value.slice.injEq, and_true] at e
  obtain ⟨_, ⟨rfl, rfl, rfl⟩, ⟨rfl, rfl, rfl⟩, ⟨rfl, rfl, rfl⟩, _⟩ := e
  exact h
/-- A row of transactions. -/
def SegTx (w : World) (a : Option Addr) (l : List Tx) : Prop :=
  l = [] ∨ ∃ b off, a = some ⟨b, off, none⟩ ∧ b < w.heap.size ∧ ∀ i, i < l.length → TxAt w b (off + i * 10) (l.getD i txz)
theorem SegTx.below {w w' : World} {a : Option Addr} {l : List Tx} (h : SegTx w a l) (hb : Below w.heap.size w w') : SegTx w' a l := by
  rcases h with h | ⟨b, off, rfl, hlt, hc⟩
  · exact .inl h
  · exact .inr ⟨b, off, rfl, Nat.lt_of_lt_of_le hlt hb.size, fun i hi => (hc i hi).below hb hlt⟩
/-- How far the rows of a transaction reach. -/
def Reached (t : Tx) : Prop := t.info.length * 24 ≤ 140737488355328 ∧ t.data.length * 24 ≤ 140737488355328 ∧ t.rev.length * 8 ≤ 140737488355328
theorem tx_at {l : List Tx} {k : Nat} (h : k < l.length) : l[k]? = some (l.getD k txz) := by
  rw [List.getD, List.getElem?_eq_getElem h]; rfl

end Go.Proofs.Ytjnpndfpajjihab
