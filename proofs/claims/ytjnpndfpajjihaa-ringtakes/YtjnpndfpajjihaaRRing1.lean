/-
  The walk of the document's own GoodRing.
-/
import Derived.Test.YtjnpndfpajjihaaRPure
namespace Go.Proofs.Ytjnpndfpajjihaa
open Go.RowKit

set_option maxHeartbeats 1000000 in
theorem goodRing_any (h u : Int) (w : World) :
    Calls Try.prog 54 #[.agg #[.int .i64 h, .int .i64 u]] w fun e w' => e = .returned (.bool (goodR h u)) ∧ Below w.heap.size w w' := by
  by_cases h1 : 0 ≤ h
  · by_cases h2 : h ≤ 23
    · by_cases h3 : 0 ≤ u
      · by_cases h4 : u ≤ 24
        all_goals
          go_enter Try.func54, Try.ntmps54
          go_wp2
          go_ret
          exact ⟨by simp [goodR, h1, h2, h3, h4], below1 _ _⟩
      · go_enter Try.func54, Try.ntmps54
        go_wp2
        go_ret
        exact ⟨by simp [goodR]; omega, below1 _ _⟩
    · go_enter Try.func54, Try.ntmps54
      go_wp2
      go_ret
      exact ⟨by simp [goodR]; omega, below1 _ _⟩
  · go_enter Try.func54, Try.ntmps54
    go_wp2
    go_ret
    exact ⟨by simp [goodR]; omega, below1 _ _⟩

end Go.Proofs.Ytjnpndfpajjihaa
