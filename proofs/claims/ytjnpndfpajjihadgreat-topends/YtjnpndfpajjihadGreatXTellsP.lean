/- -/
import Derived.Test.YtjnpndfpajjihadGreatGrTopEnds20
import Derived.Test.YtjnpndfpajjihadGreatGrTopEnds9
import Derived.Test.YtjnpndfpajjihadGreatGrTopEnds15
namespace Go.Proofs.YtjnpndfpajjihadGreat
open Go.RowKit
theorem zza:zam (fitT ⟨#[]⟩)=(zos,1):=zpn (by kernel_rfl)
end Go.Proofs.YtjnpndfpajjihadGreat

