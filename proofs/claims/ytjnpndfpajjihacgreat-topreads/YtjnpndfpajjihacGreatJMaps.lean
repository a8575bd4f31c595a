/- -/
import Derived.Test.YtjnpndfpajjihacGreatGrTopReads4
import Derived.Maps.Own
import Derived.Maps.OwnSet
namespace Go.Proofs.YtjnpndfpajjihacGreat
open Go.RowKit
theorem z4o:Maps.Keyed Tryz.prog 3:=Maps.int_keyed Tryz.underlying3
structure Elem (α:Type) where
 R:Value→Option (DataW Unit×List MemPlace)
 mv:α→Value
 dt:α→DataW Unit
 mkR:∀a,R (mv a)=some (dt a,[])
 inv:∀v a ps,R v=some (dt a,ps)→v=mv a
def z41:Value→Option (DataW Unit×List MemPlace)
 |.string s=>some (.lit (.string s.data.toList),[])
 |_=>none
def zly:Elem ByteArray where
 R:=z41
 mv:=.string
 dt s:=.lit (.string s.data.toList)
 mkR _:=rfl
 inv:=by
  intro v a ps h
  cases v with
  |string s=>
   simp only[z41,Option.some.injEq,Prod.mk.injEq,DataW.lit.injEq,Lit.string.injEq] at h
   have e:s=a:=by
    cases s with|mk d=>cases a with|mk d2=>
    congr 1
    exact Array.ext' h.1
   rw[e]
  |_=>cases h
section
variable {α:Type} {E:Elem α} {w w':World} {B n:Nat} {f:Int→Option α} {t e:TypeId}
def MapF (E:Elem α)(w:World)(B n:Nat)(f:Int→Option α):Prop:=
 ∃D:DataW Unit,w.ownsMap Tryz.prog 3 E.R B n D∧∀x:Int,(Lit.int .i64 x).wf=true→Maps.has D (.int .i64 x)=(f x).isSome∧∀c,f x=some c→∀z,D.atKey (.int .i64 x) z=E.dt c
theorem MapF.made (w:World):MapF E (w.alloc (.map #[] 0)) w.heap.size 0 (fun _=>none):=
 ⟨.map [],World.ownsMap_made w _ _ _,fun x _=>⟨rfl,fun c h=>by cases h⟩⟩
theorem MapF.lt (h:MapF E w B n f):B<w.heap.size:=by
 obtain⟨D,ho,_⟩:=h;exact ho.lt
theorem MapF.block (h:MapF E w B n f)(hb:w'.heap[B]?=w.heap[B]?):MapF E w' B n f:=by
 obtain⟨D,ho,ha⟩:=h;obtain⟨es,clock,h1,h2⟩:=ho;exact⟨D,⟨es,clock,hb.trans h1,h2⟩,ha⟩
theorem MapF.below (h:MapF E w B n f)(hb:Below w.heap.size w w'):MapF E w' B n f:=h.block (hb.block _ h.lt)
theorem MapF.but (h:MapF E w B n f){X:List Nat}(hb:ButL X w.heap.size w w')(hn:B∉X):MapF E w' B n f:=h.block (hb.block _ h.lt hn)
theorem MapF.lookNone (h:MapF E w B n f)(ht:Tryz.prog.underlying t=some (.map 3 e)){z:Value}(hz:(zeroValue e).run Tryz.prog w=.ok z w){zd:DataW Unit}{zp:List MemPlace}(hzd:E.R z=some (zd,zp))(hzi:∀v ps,E.R v=some (zd,ps)→v=z)(x:Int)(hx:(Lit.int .i64 x).wf=true)(hf:f x=none):
  (Instr.lookup t (.map (some B)) (.int .i64 x) true).run Tryz.prog w=.ok (.tuple #[z,.bool false]) w:=by
 obtain⟨D,ho,ha⟩:=h;obtain⟨v,ps,hrun,hv⟩:=ho.look_ok z4o ht hz hzd (Maps.keyOf_int_mk Tryz.underlying3 hx);have h1:=(ha x hx).1;rw[hf] at h1;have h1':Maps.has D (.int .i64 x)=false:=h1;rw[Maps.atKey_of_not_has h1'] at hv;rw[hrun,h1',hzi _ _ hv]
theorem MapF.lookSome (h:MapF E w B n f)(ht:Tryz.prog.underlying t=some (.map 3 e)){z:Value}(hz:(zeroValue e).run Tryz.prog w=.ok z w){zd:DataW Unit}{zp:List MemPlace}(hzd:E.R z=some (zd,zp))(x:Int)(hx:(Lit.int .i64 x).wf=true){a:α}(hf:f x=some a):
  (Instr.lookup t (.map (some B)) (.int .i64 x) true).run Tryz.prog w=.ok (.tuple #[E.mv a,.bool true]) w:=by
 obtain⟨D,ho,ha⟩:=h;obtain⟨v,ps,hrun,hv⟩:=ho.look_ok z4o ht hz hzd (Maps.keyOf_int_mk Tryz.underlying3 hx);have h1:=(ha x hx).1;rw[hf] at h1;have h1':Maps.has D (.int .i64 x)=true:=h1;rw[(ha x hx).2 _ hf] at hv;rw[hrun,h1',E.inv _ _ _ hv]
theorem MapF.store (h:MapF E w B n f)(ht:Tryz.prog.underlying t=some (.map 3 e))(x:Int)(a:α)(hx:(Lit.int .i64 x).wf=true)(hn:n<maxLen):
  ∃w',(Instr.mapUpdate t (.map (some B)) (.int .i64 x) (E.mv a)).run Tryz.prog w=.ok () w'∧MapF E w' B (n+1) (fun z=>if z=x then some a else f z)∧w.mapTurned w' B:=by
 obtain⟨D,ho,ha⟩:=h;have him:=ho.isMap;obtain⟨w',hrun,ho',hg⟩:=ho.store z4o ht hn (Maps.keyOf_int_mk Tryz.underlying3 hx) (E.mkR a);refine⟨w',hrun,⟨_,ho',fun z hz=>?_⟩,hg⟩;by_cases e:z=x
 ·subst e
  refine⟨?_,fun c hc z'=>?_⟩
  ·rw[Maps.has_put_same him (by simp[WideAt.IsKeyLit])];simp
  ·rw[Maps.atKey_put_same him (by simp[WideAt.IsKeyLit])]
   simp at hc;rw[hc]
 ·refine⟨?_,fun c hc z'=>?_⟩
  ·rw[Maps.has_put_other (by simp[e]),(ha z hz).1];simp[e]
  ·rw[Maps.atKey_put_other (by simp[e])]
   simp only[if_neg e] at hc;exact(ha z hz).2 c hc z'
theorem MapF.drop (h:MapF E w B n f)(ht:Tryz.prog.underlying t=some (.map 3 e))(x:Int)(hx:(Lit.int .i64 x).wf=true)(ty:TypeId):
  ∃w',(Builtin.delete_ #[t,3] ty #[.map (some B),.int .i64 x]).run Tryz.prog w=.ok (.tuple #[]) w'∧MapF E w' B n (fun z=>if z=x then none else f z)∧w.mapTurned w' B:=by
 obtain⟨D,ho,ha⟩:=h;obtain⟨w',hrun,ho',hg⟩:=ho.drop z4o ht (Maps.keyOf_int_mk Tryz.underlying3 hx) ty;refine⟨w',hrun,⟨_,ho',fun z hz=>?_⟩,hg⟩;by_cases e:z=x
 ·subst e
  refine⟨?_,fun c hc z'=>?_⟩
  ·rw[Maps.has_del_same];simp
  ·simp at hc
 ·refine⟨?_,fun c hc z'=>?_⟩
  ·rw[Maps.has_del_other (by simp[e]),(ha z hz).1];simp[e]
  ·rw[Maps.atKey_del_other (by simp[e])]
   simp only[if_neg e] at hc;exact(ha z hz).2 c hc z'
end
theorem zjg {w w':World}{B:Nat}(h:w.mapTurned w' B){X:List Nat}(hB:B∈X)(n:Nat):ButL X n w w':=by
 have hg:=h.grown;obtain⟨es,clock,es',clock',hb,rfl⟩:=h;exact⟨hg.os,hg.tape,hg.output,hg.size,fun q _ hq=>ChangeMaps.heap_setBlock_other hb _ (fun e=>hq (by rw[e];exact hB))⟩
theorem z10 {w:World}{B o:Nat}{es:Array MapEntry}{clock:Nat}(h:w.heap[B]?=some (.map es clock)):w.cell? ⟨B,o,none⟩=none:=by
 unfold World.cell?;simp only[h]
theorem Ext.turned {w w':World}{B:Nat}(h:w.mapTurned w' B)(X:List Nat):Ext (zan w X) (zan w' X):=by
 have hb:=zjg h (X:=[B]) (by simp) w.heap.size;obtain⟨es,clock,es',clock',hm,_⟩:=h;refine⟨by rw[zba,zba];exact hb.size,fun b o v hv=>?_⟩;obtain⟨hn,hc⟩:=zbm hv;refine zbq hn (hb.cell (zkr hc) ?_ hc);intro e;rw[List.mem_singleton.1 e,z10 hm] at hc;cases hc
theorem JAt.ext {w w':World}{B:Nat}{X:List Nat}{j:Jn}(h:JAt w B X j)(hB:w'.heap[B]?=w.heap[B]?)(e:Ext (zan w X) (zan w' X)):JAt w' B X j:=by
 obtain⟨hb,da,dc,db,dd,na,nc,nb,nd,ne,nf,sa,sc,sb,sd,se,sf,ca,cc,fa,fc,ta,tc,h1,h2⟩:=h;exact⟨hb,da,dc,db,dd,na,nc,nb,nd,ne,nf,sa,sc,sb,sd,se,sf,ca,cc,fa,fc,ta,tc,hB.trans h1,h2.ext e⟩
theorem JAt.notMap {w:World}{B:Nat}{X:List Nat}{j:Jn}(h:JAt w B X j){M:Nat}{es:Array MapEntry}{clock:Nat}(hm:w.heap[M]?=some (.map es clock)):B≠M:=by
 obtain⟨_,da,dc,db,dd,na,nc,nb,nd,ne,nf,sa,sc,sb,sd,se,sf,ca,cc,fa,fc,ta,tc,h1,_⟩:=h;intro e;rw[e,hm] at h1;cases h1
theorem JAt.turned {w w':World}{B M:Nat}{X:List Nat}{j:Jn}(h:JAt w B X j)(ht:w.mapTurned w' M):JAt w' B X j:=by
 have hn:B≠M:=by obtain⟨_,_,_,_,hm,_⟩:=ht;exact h.notMap hm
 exact h.ext ((zjg ht (X:=[M]) (by simp) w.heap.size).block B h.lt (by simpa using hn)) (Ext.turned ht X)
theorem z4k (w:World):(zeroValue 9).run Tryz.prog w=.ok (.string ⟨#[]⟩) w:=by kernel_rfl
theorem wfI {x:Int}(h0: -9223372036854775808≤x)(h1:x≤9223372036854775807):(Lit.int .i64 x).wf=true:=by
 have e1:IntKind.i64.min= -9223372036854775808:=by decide
 have e2:IntKind.i64.max=9223372036854775807:=by decide
 simp[Lit.wf,e1,e2];omega
theorem MapS.lookNone {w:World}{B n:Nat}{f:Int→Option ByteArray}(h:MapF zly w B n f)(x:Int)(hx:(Lit.int .i64 x).wf=true)(hf:f x=none):
  (Instr.lookup 56 (.map (some B)) (.int .i64 x) true).run Tryz.prog w=.ok (.tuple #[.string ⟨#[]⟩,.bool false]) w:=
 h.lookNone Tryz.underlying56 (z4k w) (zly.mkR ⟨#[]⟩) (fun v ps hv=>zly.inv v _ ps hv) x hx hf
theorem MapS.lookSome {w:World}{B n:Nat}{f:Int→Option ByteArray}(h:MapF zly w B n f)(x:Int)(hx:(Lit.int .i64 x).wf=true){s:ByteArray}(hf:f x=some s):
  (Instr.lookup 56 (.map (some B)) (.int .i64 x) true).run Tryz.prog w=.ok (.tuple #[.string s,.bool true]) w:=
 h.lookSome Tryz.underlying56 (z4k w) (zly.mkR ⟨#[]⟩) x hx hf
end Go.Proofs.YtjnpndfpajjihacGreat

