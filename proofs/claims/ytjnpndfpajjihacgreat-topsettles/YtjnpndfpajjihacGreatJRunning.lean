/- -/
import Derived.Test.YtjnpndfpajjihacGreatGrTopSettles4
import Derived.Test.YtjnpndfpajjihacGreatGrTopSettles36
namespace Go.Proofs.YtjnpndfpajjihacGreat
open Go.RowKit
