/- -/
import Derived.Test.YtjnpndfpajjihacGreatGrTopReads5
import Derived.Test.YtjnpndfpajjihacGreatFitOwn
namespace Go.Proofs.YtjnpndfpajjihacGreat
end Go.Proofs.YtjnpndfpajjihacGreat

