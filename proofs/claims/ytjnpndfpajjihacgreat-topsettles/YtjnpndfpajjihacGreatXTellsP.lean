/- -/
import Derived.Test.YtjnpndfpajjihacGreatGrTopSettles19
import Derived.Test.YtjnpndfpajjihacGreatGrTopSettles8
namespace Go.Proofs.YtjnpndfpajjihacGreat
open Go.RowKit
theorem z05:zar (fitT ⟨#[]⟩)=(zpy,1):=zqs (by kernel_rfl)
