/- -/
import Derived.Test.YtjnpndfpajjihacGreatGrTopWhole20
import Derived.Test.YtjnpndfpajjihacGreatGrTopWhole9
namespace Go.Proofs.YtjnpndfpajjihacGreat
open Go.RowKit
theorem z06:zaq (fitT ⟨#[]⟩)=(zp2,1):=zqw (by kernel_rfl)
end Go.Proofs.YtjnpndfpajjihacGreat

