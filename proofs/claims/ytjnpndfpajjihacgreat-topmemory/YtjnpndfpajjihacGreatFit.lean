/- -/
import Derived.Test.YtjnpndfpajjihacGreatGrTopMemory5
import Derived.Test.YtjnpndfpajjihacGreatFitOwn
namespace Go.Proofs.YtjnpndfpajjihacGreat
end Go.Proofs.YtjnpndfpajjihacGreat

