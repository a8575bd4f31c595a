/- -/
import Derived.Test.YtjnpndfpajjihadGreatGrTopEnds25
import Derived.Test.YtjnpndfpajjihadGreatGrTopEnds31
namespace Go.Proofs.YtjnpndfpajjihadGreat
open Go.RowKit
theorem z0o {t:Tx}(h:za3 t=true):Few t:=by
 have h1:=zaq h
 have h2:=(zay t).1 h
 refine⟨h1.2.2,h1.1,((zaz _).1 h2.2.2.1.2.2).1,fun x hx=>?_⟩
 exact((zaz _).1 h2.2.2.1.1).1 x.1 (List.mem_map.2 ⟨x,hx,rfl⟩)
end Go.Proofs.YtjnpndfpajjihadGreat

