/- -/
import Derived.Test.YtjnpndfpajjihadGreatGrTopEnds5
import Derived.Test.YtjnpndfpajjihadGreatFitOwn
namespace Go.Proofs.YtjnpndfpajjihadGreat
end Go.Proofs.YtjnpndfpajjihadGreat

