/- -/
import Derived.Test.YtjnpndfpajjihacGreatGrTopAnywhere25
import Derived.Test.YtjnpndfpajjihacGreatGrTopAnywhere31
namespace Go.Proofs.YtjnpndfpajjihacGreat
open Go.RowKit
theorem z23{t:Tx}(h:za9 t=true):Few t:=by
 have B:=za3 h;have A:=(za7 t).1 h;refine⟨B.2.2,B.1,((za6 _).1 A.2.2.1.2.2).1,fun x hx=>?_⟩;exact((za6 _).1 A.2.2.1.1).1 x.1 (List.mem_map.2 ⟨x,hx,rfl⟩)
