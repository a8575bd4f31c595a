/- -/
import Derived.Test.YtjnpndfpajjihacGreatGrTopWhole25
import Derived.Test.YtjnpndfpajjihacGreatGrTopWhole31
namespace Go.Proofs.YtjnpndfpajjihacGreat
open Go.RowKit
theorem z2u {t:Tx}(h:za8 t=true):Few t:=by
 have B:=za1 h;have A:=(za6 t).1 h;refine⟨B.2.2,B.1,((za5 _).1 A.2.2.1.2.2).1,fun x hx=>?_⟩;exact((za5 _).1 A.2.2.1.1).1 x.1 (List.mem_map.2 ⟨x,hx,rfl⟩)
end Go.Proofs.YtjnpndfpajjihacGreat

