/- -/
import Derived.Test.YtjnpndfpajjihacGreatGrTopSpace20
import Derived.Test.YtjnpndfpajjihacGreatGrTopSpace9
import Derived.Test.YtjnpndfpajjihacGreatGrTopSpace15
namespace Go.Proofs.YtjnpndfpajjihacGreat
open Go.RowKit
theorem zza:zam (fitT ⟨#[]⟩)=(zos,1):=zpl (by kernel_rfl)
end Go.Proofs.YtjnpndfpajjihacGreat

