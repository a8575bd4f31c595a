/-
  
-/
import Derived.Test.YtjnpndfpajjihacGreatGrTopAnywhere0
import Derived.Test.YtjnpndfpajjihacGreatRows
import Derived.ProofKit
import Derived.ChangeSlices
import Derived.Deep.Slices
import Derived.Lib.SmallJoins
namespace Go.Proofs.YtjnpndfpajjihacGreat
open Go.RowKit Go.ChangeShapes Go.WideShapes Go.Deep Go.Joins
theorem z44:Tryz.prog.cellsOf 23=5:=by kernel_rfl
section
variable {H:Type} {enc:TypeId×Value→H} {w:World} {spare:Nat→Bool} {held:Bool}
end
theorem z45:Tryz.prog.cellsOf 3=1:=by kernel_rfl
theorem z6h{w:World}{x:Addr}{v:Value}(h:w.cell? (x.add 0)=some v):∃b off,x=⟨b,off,none⟩∧b<w.heap.size:=by
 obtain⟨b,off,A⟩:=x;have B:A=none:=by simpa[Addr.add] using World.cell?_spot h
 subst B;exact⟨b,off,rfl,by simpa[Addr.add] using World.block_lt_of_cell? w _ h⟩
section
variable {H:Type} {enc:TypeId×Value→H} {w:World} {spare:Nat→Bool} {held:Bool}
end
