/-
  The walk of the document's own AskedOf.
-/
import Derived.Test.YtjnpndfpajjihabTOpenRef
namespace Go.Proofs.Ytjnpndfpajjihab
open Go.RowKit

set_option maxHeartbeats 1000000 in
theorem askedOf_any (v : Value) (t : Tx) (w : World) (h : IsTx w v t) :
    Calls Try.prog 25 #[v] w fun e w' => e = .returned (.int .i64 (askedN t)) ∧ Below w.heap.size w w' := by
  obtain ⟨a, c, a', c', b, d, rfl, _, _, _, h1, h2, h3⟩ := h
  clear h1 h2 h3
  go_enter Try.func25, Try.ntmps25
  go_wp2
  go_ret
  exact ⟨rfl, below1 _ _⟩

end Go.Proofs.Ytjnpndfpajjihab
