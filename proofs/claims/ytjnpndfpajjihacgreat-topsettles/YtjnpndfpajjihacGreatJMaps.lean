/- -/
import Derived.Test.YtjnpndfpajjihacGreatGrTopSettles4
import Derived.Maps.Own
import Derived.Maps.OwnSet
import Derived.Maps.RangeWalk
namespace Go.Proofs.YtjnpndfpajjihacGreat
open Go.RowKit
structure Elem (α:Type) where
 R:Value→Option (DataW Unit×List MemPlace)
 mv:α→Value
 dt:α→DataW Unit
 mkR:∀a,R (mv a)=some (dt a,[])
 inv:∀v a ps,R v=some (dt a,ps)→v=mv a
def z6c:Value→Option (DataW Unit×List MemPlace)
 |.string s=>some (.lit (.string s.data.toList),[])
 |_=>none
def z6d:Elem ByteArray where
 R:=z6c
 mv:=.string
 dt s:=.lit (.string s.data.toList)
 mkR _:=rfl
 inv:=by
  intro v a ps h
  cases v with
  |string s=>
   simp only[z6c,Option.some.injEq,Prod.mk.injEq,DataW.lit.injEq,Lit.string.injEq]at h
   have e:s=a:=by
    cases s with|mk d=>cases a with|mk d2=>
    congr 1
    exact Array.ext' h.1
   rw[e]
  |_=>cases h
def z57:Value→Option (DataW Unit×List MemPlace)
 |.map (some b)=>some (.lit (.int .i64 b),[])
 |.map none=>some (.lit (.bool false),[])
 |_=>none
def z6e:Elem Nat where
 R:=z57
 mv b:=.map (some b)
 dt b:=.lit (.int .i64 b)
 mkR _:=rfl
 inv:=by
  intro v a ps h
  cases v with
  |map o=>
   cases o with
   |none=>simp[z57]at h
   |some b=>
    simp only[z57,Option.some.injEq,Prod.mk.injEq,DataW.lit.injEq,Lit.int.injEq,true_and]at h;have e:b=a:=by omega
    rw[e]
  |_=>cases h
section
variable {α:Type} {E:Elem α} {w w':World} {B n:Nat} {f:Int→Option α} {t e:TypeId}
def z58 (E:Elem α)(w:World)(B n:Nat)(f:Int→Option α):Prop:=
 ∃D:DataW Unit,w.ownsMap Tryz.prog 3 E.R B n D∧∀x:Int,(Lit.int .i64 x).wf=true→Maps.has D (.int .i64 x)=(f x).isSome∧∀c,f x=some c→∀z,D.atKey (.int .i64 x) z=E.dt c
end
theorem wfI{x:Int}(h0: -9223372036854775808≤x)(h1:x≤9223372036854775807):(Lit.int .i64 x).wf=true:=by
 have B:IntKind.i64.min= -9223372036854775808:=by decide
 have A:IntKind.i64.max=9223372036854775807:=by decide
 simp[Lit.wf,B,A];omega
