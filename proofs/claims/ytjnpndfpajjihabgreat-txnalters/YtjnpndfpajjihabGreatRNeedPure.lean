/-
  What Need and Most answer. Nothing of the program is proved here.
-/
import Derived.Test.YtjnpndfpajjihabGreatBase
namespace Go.Proofs.YtjnpndfpajjihabGreat
open Go.RowKit

/-- How many parts of a size it takes to name so many. -/
def partsOf (n size : Nat) : Nat := (n + (size - 1)) / size
/-- What Need answers. -/
def needE (m r : Int) : Int := if m < 0 ∨ 12 < m ∨ r < 0 ∨ 12 < r then 2 else 0
def needN (m r : Int) : Int := if needE m r = 0 then 1 + m + (if 0 < r then 1 else 0) + (if 0 < m then 1 else 0) + (if 10 < m then 1 else 0) else 0

/-- What Most answers. -/
def clampN (n : Int) : Int := if n < 0 then 0 else if 24 < n then 24 else n
def mostN (n : Int) : Int := clampN n + 1 + (if 0 < clampN n then 1 else 0) + (if 10 < clampN n then 1 else 0) + (if 20 < clampN n then 1 else 0) + (if 0 < clampN n then 1 else 0) + (if 20 < clampN n then 1 else 0)
theorem most_at {n k : Int} (h : clampN n = k) (a b c : Int) (ha : a = if 0 < k then 1 else 0) (hb : b = if 10 < k then 1 else 0) (hc : c = if 20 < k then 1 else 0) : mostN n = k + 1 + a + b + c + a + c := by
  rw [mostN, h, ha, hb, hc]

end Go.Proofs.YtjnpndfpajjihabGreat
