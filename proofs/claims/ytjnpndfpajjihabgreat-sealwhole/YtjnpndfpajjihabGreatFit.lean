/-
  The walk of disk.Fit, beside what lies ahead of it. Nothing more is proved here.
-/
import Derived.Test.YtjnpndfpajjihabGreatGrSealWhole21
import Derived.Test.YtjnpndfpajjihabGreatFitOwn
namespace Go.Proofs.YtjnpndfpajjihabGreat

end Go.Proofs.YtjnpndfpajjihabGreat
