/-
  The walks of the document's own AskedOf and OpenOf.
-/
import Derived.Test.YtlknhfpgpdlbnabTCore
namespace Go.Proofs.Ytlknhfpgpdlbnab
open Go.RowKit

set_option maxHeartbeats 1000000 in
theorem openOf_any (v : Value) (t : Tx) (w : World) (h : IsTx w v t) :
    Calls Try.prog 23 #[v] w fun e w' => e = .returned (.bool (openB t)) ∧ Below w.heap.size w w' := by
  obtain ⟨a, c, a', c', b, d, rfl, _, _, _, _, _, _⟩ := h
  obtain ⟨seq, info, data, rev, ⟨o0, l0⟩, ⟨o1, l1⟩, ⟨o2, l2⟩⟩ := t
  dsimp only
  cases o0 <;> cases o1 <;> cases o2
  all_goals
    go_enter Try.func23, Try.ntmps23
    go_wp2
    go_ret
    exact ⟨rfl, below1 _ _⟩

set_option maxHeartbeats 1000000 in
theorem askedOf_any (v : Value) (t : Tx) (w : World) (h : IsTx w v t) :
    Calls Try.prog 21 #[v] w fun e w' => e = .returned (.int .i64 (askedN t)) ∧ Below w.heap.size w w' := by
  obtain ⟨a, c, a', c', b, d, rfl, _, _, _, h1, h2, h3⟩ := h
  clear h1 h2 h3
  go_enter Try.func21, Try.ntmps21
  go_wp2
  go_ret
  exact ⟨rfl, below1 _ _⟩

end Go.Proofs.Ytlknhfpgpdlbnab
