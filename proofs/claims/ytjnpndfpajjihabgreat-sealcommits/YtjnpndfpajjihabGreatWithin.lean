/-
  Does a number lie from one to another? Nothing of the program is proved here.
-/
import Derived.Test.YtjnpndfpajjihabGreatBase
namespace Go.Proofs.YtjnpndfpajjihabGreat
open Go.RowKit

/-- Does a number lie from one to another? -/
def withinB (n l m : Int) : Bool := decide (l ≤ n) && decide (n ≤ m)
theorem withinB_iff {n l m : Int} : withinB n l m = true ↔ l ≤ n ∧ n ≤ m := by simp [withinB]

end Go.Proofs.YtjnpndfpajjihabGreat
