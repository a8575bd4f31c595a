/-
  A block as a copy in the log, and back. Nothing of the program is proved here.
-/
import Derived.Test.YtjnpndfpajjihabBase
namespace Go.Proofs.Ytjnpndfpajjihab
open Go.RowKit

/-- Does a text begin with Magic? What Escape and Unescape make of it. -/
def isMagic (s : ByteArray) : Bool := if 4 ≤ s.size then ((s.extract 0 4).toList == [87, 66, 75, 49]) else false
def escT (s : ByteArray) : ByteArray := if isMagic s then (⟨#[0, 0, 0, 0]⟩ : ByteArray) ++ s.extract 4 s.size else s
def unescT (s : ByteArray) (e : Bool) : ByteArray := if e = false ∨ s.size < 4 then s else (⟨#[87, 66, 75, 49]⟩ : ByteArray) ++ s.extract 4 s.size

end Go.Proofs.Ytjnpndfpajjihab
