/- -/
import Derived.Test.YtjnpndfpajjihacGreatGrTopOrdered24
import Derived.Test.YtjnpndfpajjihacGreatGrTopOrdered30
namespace Go.Proofs.YtjnpndfpajjihacGreat
open Go.RowKit
theorem z2v{t:Tx}(h:zba t=true):Few t:=by
 have B:=zaz h;have A:=(za9 t).1 h;refine⟨B.2.2,B.1,((za8 _).1 A.2.2.1.2.2).1,fun x hx=>?_⟩;exact((za8 _).1 A.2.2.1.1).1 x.1 (List.mem_map.2 ⟨x,hx,rfl⟩)
