/- -/
import Derived.Test.YtjnpndfpajjihacGreatGrTopSpace25
import Derived.Test.YtjnpndfpajjihacGreatGrTopSpace31
namespace Go.Proofs.YtjnpndfpajjihacGreat
open Go.RowKit
theorem z0l {t:Tx}(h:za2 t=true):Few t:=by
 have h1:=zar h
 have h2:=(zay t).1 h
 refine⟨h1.2.2,h1.1,((za0 _).1 h2.2.2.1.2.2).1,fun x hx=>?_⟩
 exact((za0 _).1 h2.2.2.1.1).1 x.1 (List.mem_map.2 ⟨x,hx,rfl⟩)
end Go.Proofs.YtjnpndfpajjihacGreat

