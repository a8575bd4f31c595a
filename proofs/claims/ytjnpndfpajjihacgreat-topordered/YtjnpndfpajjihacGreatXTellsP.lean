/- -/
import Derived.Test.YtjnpndfpajjihacGreatGrTopOrdered19
import Derived.Test.YtjnpndfpajjihacGreatGrTopOrdered8
namespace Go.Proofs.YtjnpndfpajjihacGreat
open Go.RowKit
theorem z1a:zas (fitT ⟨#[]⟩)=(zp6,1):=zq0 (by kernel_rfl)
