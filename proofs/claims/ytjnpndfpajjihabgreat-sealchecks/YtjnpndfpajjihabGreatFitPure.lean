/-
  A text as a block, as plain data.
-/
import Derived.Test.YtjnpndfpajjihabGreatBase
namespace Go.Proofs.YtjnpndfpajjihabGreat

/-- A text as a block. -/
def fitL (s : ByteArray) : List UInt8 := s.data.toList.take 32 ++ List.replicate (32 - s.size) 0
def fitT (s : ByteArray) : ByteArray := ⟨(fitL s).toArray⟩

end Go.Proofs.YtjnpndfpajjihabGreat
