/-
  A text of one byte. Nothing of the program is proved here.
-/
import Derived.Test.YtjnpndfpajjihabGreatBase
namespace Go.Proofs.YtjnpndfpajjihabGreat
open Go.RowKit

/-- A text of one byte. -/
def oneB (n : Nat) : ByteArray := ⟨#[UInt8.ofNat n]⟩
def byteV (b : UInt8) : Value := .int .u8 (b.toNat : Int)

end Go.Proofs.YtjnpndfpajjihabGreat
