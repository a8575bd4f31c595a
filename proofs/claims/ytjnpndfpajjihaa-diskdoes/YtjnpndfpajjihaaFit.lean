/-
  The walk of disk.Fit, beside what lies ahead of it. Nothing more is proved here.
-/
import Derived.Test.YtjnpndfpajjihaaPut
import Derived.Test.YtjnpndfpajjihaaFitOwn
namespace Go.Proofs.Ytjnpndfpajjihaa

end Go.Proofs.Ytjnpndfpajjihaa
