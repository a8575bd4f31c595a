/-
  The walk of the document's own GoodMark: marks whose form is right.
-/
import Derived.Test.YtjnpndfpajjihaaMCore
import Derived.Test.YtjnpndfpajjihaaIntRows
namespace Go.Proofs.Ytjnpndfpajjihaa
open Go.RowKit

/-- The numbers of the first tags. -/
def tagNums (l : List (Int × Bool)) (k : Nat) : List Int := (l.take k).map (·.1)

/-- What Good answers of a descriptor whose form is right. -/
def tagsE (l : List (Int × Bool)) : Int := if (l.length < 1 ∨ 10 < l.length) ∨ rises (l.map (·.1)) = false then 2 else 0
end Go.Proofs.Ytjnpndfpajjihaa
