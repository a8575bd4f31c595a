/- -/
import Derived.Test.YtjnpndfpajjihacGreatGrTopMemory25
import Derived.Test.YtjnpndfpajjihacGreatGrTopMemory31
namespace Go.Proofs.YtjnpndfpajjihacGreat
open Go.RowKit
theorem z1s {t:Tx}(h:zba t=true):Few t:=by
 have h1:=zaw h;have h2:=(za7 t).1 h;refine⟨h1.2.2,h1.1,((za8 _).1 h2.2.2.1.2.2).1,fun x hx=>?_⟩;exact((za8 _).1 h2.2.2.1.1).1 x.1 (List.mem_map.2 ⟨x,hx,rfl⟩)
end Go.Proofs.YtjnpndfpajjihacGreat

