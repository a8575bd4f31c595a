/-
  The walk of the document's own OpenOf.
-/
import Derived.Test.YtjnpndfpajjihabTCore
namespace Go.Proofs.Ytjnpndfpajjihab
open Go.RowKit

set_option maxHeartbeats 1000000 in
theorem openOf_any (v : Value) (t : Tx) (w : World) (h : IsTx w v t) :
    Calls Try.prog 27 #[v] w fun e w' => e = .returned (.bool (openB t)) ∧ Below w.heap.size w w' := by
  obtain ⟨a, c, a', c', b, d, rfl, _, _, _, _, _, _⟩ := h
  obtain ⟨seq, info, data, rev, ⟨o0, l0⟩, ⟨o1, l1⟩, ⟨o2, l2⟩⟩ := t
  dsimp only
  cases o0 <;> cases o1 <;> cases o2
  all_goals
    go_enter Try.func27, Try.ntmps27
    go_wp2
    go_ret
    exact ⟨rfl, below1 _ _⟩

end Go.Proofs.Ytjnpndfpajjihab
