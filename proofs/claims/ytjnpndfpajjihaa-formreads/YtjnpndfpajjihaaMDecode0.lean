/-
  The walk of the document's own DecodeMark: what is no mark at first sight.
-/
import Derived.Test.YtjnpndfpajjihaaMKeep
import Derived.Test.YtjnpndfpajjihaaMkN
import Derived.Test.YtjnpndfpajjihaaMGood20
import Derived.Test.YtjnpndfpajjihaaEscPure
import Derived.Deep.QuietTactic
import Derived.BigQuiet
namespace Go.Proofs.Ytjnpndfpajjihaa
open Go.RowKit

/-- A mark of which nothing is said. -/
def zeroM : Mk := ⟨0, 0, 0, [], []⟩
theorem isZero (w : World) : IsMk w (.agg #[.int .i64 0, .int .i64 0, .int .i64 0, .slice none 0 0, .slice none 0 0]) zeroM := ⟨none, 0, none, 0, rfl, .inl rfl, .inl rfl, Nat.zero_le _, Nat.zero_le _⟩
theorem isZeroN (w : World) (base : Nat) : IsMkN w base (.agg #[.int .i64 0, .int .i64 0, .int .i64 0, .slice none 0 0, .slice none 0 0]) zeroM := ⟨none, 0, none, 0, rfl, .inl rfl, .inl rfl, Nat.zero_le _, Nat.zero_le _, fun _ _ h => (by cases h), fun _ _ h => (by cases h)⟩

/-- The block made first stays under what makes memory alone. -/
theorem keep0 {w w' : World} {o : Obj} (hb : Below (w.alloc o).heap.size (w.alloc o) w') : w'.heap[w.heap.size]? = some o :=
  (hb.block _ (by simp)).trans (heap_alloc_new w o)
end Go.Proofs.Ytjnpndfpajjihaa
