/-
  The walk of package ring's Most, and of what it calls.
-/
import Derived.Test.YtjnpndfpajjihabGreatRNeedPure
namespace Go.Proofs.YtjnpndfpajjihabGreat
open Go.RowKit

theorem mostN_eq (n : Int) : mostN n = clampN n + (clampN n + 9) / 10 + (clampN n + 19) / 20 + 1 := by
  have : 0 ≤ clampN n ∧ clampN n ≤ 24 := by unfold clampN; split <;> (try split) <;> omega
  unfold mostN
  split <;> split <;> split <;> omega
end Go.Proofs.YtjnpndfpajjihabGreat
