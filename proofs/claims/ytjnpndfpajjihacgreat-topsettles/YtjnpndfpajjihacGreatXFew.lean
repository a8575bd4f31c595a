/- -/
import Derived.Test.YtjnpndfpajjihacGreatGrTopSettles24
import Derived.Test.YtjnpndfpajjihacGreatGrTopSettles30
namespace Go.Proofs.YtjnpndfpajjihacGreat
open Go.RowKit
theorem z2o{t:Tx}(h:za9 t=true):Few t:=by
 have A:=zaw h;have B:=(za3 t).1 h;refine⟨A.2.2,A.1,((za5 _).1 B.2.2.1.2.2).1,fun x hx=>?_⟩;exact((za5 _).1 B.2.2.1.1).1 x.1 (List.mem_map.2 ⟨x,hx,rfl⟩)
