/-
  The walk of package ring's Tail.
-/
import Derived.Test.YtjnpndfpajjihabROwn
namespace Go.Proofs.Ytjnpndfpajjihab
open Go.RowKit

set_option maxHeartbeats 400000 in
theorem ringTail_any (h u : Int) (w : World) (hg : goodR h u = true) :
    Calls Try.prog 15 #[.agg #[.int .i64 h, .int .i64 u]] w fun e w' => e = .returned (.int .i64 ((h - u) % 24)) ∧ Below w.heap.size w w' := by
  have hb := goodR_yes hg
  clear hg
  go_enter Try.func15, Try.ntmps15
  go_wp2_with (go_at_call 61; refine (place_any (h - u) _ (by omega) (by omega)).mono ?_; rintro e w' ⟨rfl, rfl⟩)
  go_ret
  exact ⟨rfl, below1 _ _⟩

end Go.Proofs.Ytjnpndfpajjihab
