/-
  The walk of the document's own CopyTxn.
-/
import Derived.Test.YtjnpndfpajjihabGreatTRows
namespace Go.Proofs.YtjnpndfpajjihabGreat
open Go.RowKit

/-- A transaction whose rows lie in memory from a block on. -/
def IsTxN (w : World) (base : Nat) (v : Value) (t : Tx) : Prop :=
  ∃ a c a' c' b d, v = .agg #[.int .i64 t.seq, .slice a t.info.length c, .slice a' t.data.length c', .slice b t.rev.length d, .bool t.h0.on, .int .i64 t.h0.left, .bool t.h1.on, .int .i64 t.h1.left, .bool t.h2.on, .int .i64 t.h2.left] ∧
    (SegW w a t.info ∧ SegW w a' t.data ∧ SegI w b t.rev ∧ t.info.length ≤ maxLen ∧ t.data.length ≤ maxLen ∧ t.rev.length ≤ maxLen) ∧
    (∀ x off, a = some ⟨x, off, none⟩ → base ≤ x) ∧ (∀ x off, a' = some ⟨x, off, none⟩ → base ≤ x) ∧ ∀ x off, b = some ⟨x, off, none⟩ → base ≤ x
theorem IsTxN.is {w : World} {base : Nat} {v : Value} {t : Tx} (h : IsTxN w base v t) : IsTx w v t := by
  obtain ⟨a, c, a', c', b, d, rfl, h, _⟩ := h
  exact ⟨a, c, a', c', b, d, rfl, h⟩
end Go.Proofs.YtjnpndfpajjihabGreat
