/- -/
import Derived.Test.YtjnpndfpajjihacGreatGrTopWhole0
import Derived.Test.YtjnpndfpajjihacGreatRows
import Derived.ProofKit
import Derived.ChangeSlices
import Derived.Deep.Slices
import Derived.Lib.SmallJoins
namespace Go.Proofs.YtjnpndfpajjihacGreat
open Go.RowKit Go.ChangeShapes Go.WideShapes Go.Deep Go.Joins
theorem z4t:Tryz.prog.cellsOf 23=5:=by kernel_rfl
section
variable {H:Type} {enc:TypeId×Value→H} {w:World} {spare:Nat→Bool} {held:Bool}
end
end Go.Proofs.YtjnpndfpajjihacGreat

