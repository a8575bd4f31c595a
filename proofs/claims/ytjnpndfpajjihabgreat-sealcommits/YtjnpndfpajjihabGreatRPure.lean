/-
  A ring as plain data, and what Good, Give and Take answer. Nothing of the program is proved here.
-/
import Derived.Test.YtjnpndfpajjihabGreatIntRows
import Derived.Test.YtjnpndfpajjihabGreatBoxes
namespace Go.Proofs.YtjnpndfpajjihabGreat
open Go.RowKit

/-- Is it a ring? -/
def goodR (h u : Int) : Bool := decide (0 ≤ h) && decide (h ≤ 23) && decide (0 ≤ u) && decide (u ≤ 24)
theorem goodR_yes {h u : Int} (e : goodR h u = true) : 0 ≤ h ∧ h ≤ 23 ∧ 0 ≤ u ∧ u ≤ 24 := by
  simpa [goodR, and_assoc] using e

/-- What Give answers. -/
def giveE (h u n : Int) : Int := if goodR h u = false ∨ n < 0 ∨ u < n then 2 else 0
def giveU (h u n : Int) : Int := if giveE h u n = 0 then u - n else u

/-- What Take answers. -/
def takeE (h u n : Int) : Int := if goodR h u = false ∨ n < 0 then 2 else if 24 - u < n then 6 else 0
def placesOf (h : Int) (n : Nat) : List Int := (List.range n).map fun (i : Nat) => (h + (i : Int)) % 24
def takeH (h u n : Int) : Int := if takeE h u n = 0 then (h + n) % 24 else h
def takeU (h u n : Int) : Int := if takeE h u n = 0 then u + n else u
def takeL (h u n : Int) : List Int := if takeE h u n = 0 then placesOf h n.toNat else []
theorem places_length (h : Int) (n : Nat) : (placesOf h n).length = n := by simp [placesOf]
theorem places_succ (h : Int) (n : Nat) : placesOf h (n + 1) = placesOf h n ++ [(h + (n : Int)) % 24] := by simp [placesOf, List.range_succ]

end Go.Proofs.YtjnpndfpajjihabGreat
