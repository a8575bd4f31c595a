/- -/
import Derived.Test.YtjnpndfpajjihacGreatGrTopMemory20
import Derived.Test.YtjnpndfpajjihacGreatGrTopMemory9
namespace Go.Proofs.YtjnpndfpajjihacGreat
open Go.RowKit
theorem z0g:zaq (fitT ⟨#[]⟩)=(zpi,1):=zqd (by kernel_rfl)
end Go.Proofs.YtjnpndfpajjihacGreat

