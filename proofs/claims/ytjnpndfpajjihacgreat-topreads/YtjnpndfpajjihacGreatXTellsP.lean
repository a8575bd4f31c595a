/- -/
import Derived.Test.YtjnpndfpajjihacGreatGrTopReads20
import Derived.Test.YtjnpndfpajjihacGreatGrTopReads9
import Derived.Test.YtjnpndfpajjihacGreatGrTopReads15
namespace Go.Proofs.YtjnpndfpajjihacGreat
open Go.RowKit
theorem zzt:zam (fitT ⟨#[]⟩)=(zpd,1):=zp7 (by kernel_rfl)
end Go.Proofs.YtjnpndfpajjihacGreat

