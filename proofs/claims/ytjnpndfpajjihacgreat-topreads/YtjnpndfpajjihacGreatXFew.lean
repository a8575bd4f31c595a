/- -/
import Derived.Test.YtjnpndfpajjihacGreatGrTopReads25
import Derived.Test.YtjnpndfpajjihacGreatGrTopReads31
namespace Go.Proofs.YtjnpndfpajjihacGreat
open Go.RowKit
theorem z1a {t:Tx}(h:za2 t=true):Few t:=by
 have h1:=zav h;have h2:=(zaz t).1 h;refine⟨h1.2.2,h1.1,((zay _).1 h2.2.2.1.2.2).1,fun x hx=>?_⟩;exact((zay _).1 h2.2.2.1.1).1 x.1 (List.mem_map.2 ⟨x,hx,rfl⟩)
end Go.Proofs.YtjnpndfpajjihacGreat

