/- -/
import Derived.Test.YtjnpndfpajjihacGreatGrTopCounts20
import Derived.Test.YtjnpndfpajjihacGreatGrTopCounts9
import Derived.Test.YtjnpndfpajjihacGreatGrTopCounts15
namespace Go.Proofs.YtjnpndfpajjihacGreat
open Go.RowKit
theorem zzk:zam (fitT ⟨#[]⟩)=(zou,1):=zpq (by kernel_rfl)
end Go.Proofs.YtjnpndfpajjihacGreat

