/- -/
import Derived.Test.YtjnpndfpajjihacGreatGrTopAnywhere20
import Derived.Test.YtjnpndfpajjihacGreatGrTopAnywhere9
namespace Go.Proofs.YtjnpndfpajjihacGreat
open Go.RowKit
theorem z1b:zar (fitT ⟨#[]⟩)=(zp8,1):=zq2 (by kernel_rfl)
