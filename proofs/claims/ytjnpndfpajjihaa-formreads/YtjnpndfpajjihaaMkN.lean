/-
  A mark whose rows lie in memory from a block on. Nothing of the program is proved here.
-/
import Derived.Test.YtjnpndfpajjihaaMCore
namespace Go.Proofs.Ytjnpndfpajjihaa
open Go.RowKit

/-- A mark whose rows lie in memory from a block on. -/
def IsMkN (w : World) (base : Nat) (v : Value) (m : Mk) : Prop :=
  ∃ a c a' c', v = .agg #[.int .i64 m.kind, .int .i64 m.seq, .int .i64 m.pos, .slice a m.tags.length c, .slice a' m.blocks.length c'] ∧ SegT w a m.tags ∧ SegI w a' m.blocks ∧ m.tags.length ≤ maxLen ∧ m.blocks.length ≤ maxLen ∧
    (∀ b off, a = some ⟨b, off, none⟩ → base ≤ b) ∧ ∀ b off, a' = some ⟨b, off, none⟩ → base ≤ b
theorem IsMkN.is {w : World} {base : Nat} {v : Value} {m : Mk} (h : IsMkN w base v m) : IsMk w v m := by
  obtain ⟨a, c, a', c', rfl, h1, h2, h3, h4, _⟩ := h
  exact ⟨a, c, a', c', rfl, h1, h2, h3, h4⟩

end Go.Proofs.Ytjnpndfpajjihaa
