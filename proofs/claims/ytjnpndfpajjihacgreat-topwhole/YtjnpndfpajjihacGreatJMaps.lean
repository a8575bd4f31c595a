/- -/
import Derived.Test.YtjnpndfpajjihacGreatGrTopWhole4
import Derived.Maps.Own
import Derived.Maps.OwnSet
import Derived.Maps.RangeWalk
namespace Go.Proofs.YtjnpndfpajjihacGreat
open Tryz
set_option maxRecDepth 100000
set_option maxHeartbeats 40000000
open Go.RowKit
theorem z4v:Maps.Keyed prog 3:=Maps.int_keyed underlying3
structure Elem (α:Type) where
 R:Value→Option (DataW Unit×List MemPlace)
 mv:α→Value
 dt:α→DataW Unit
 mkR:∀a,R (mv a)=some (dt a,[])
 inv:∀v a ps,R v=some (dt a,ps)→v=mv a
def z1r:Value→Option (DataW Unit×List MemPlace)
 |.string s=>some (.lit (.string s.data.toList),[])
 |_=>none
def zj1:Elem ByteArray where
 R:=z1r
 mv:=.string
 dt s:=.lit (.string s.data.toList)
 mkR _:=rfl
 inv:=by
  intro v a ps h
  cases v with
  |string s=>
   simp only[z1r,Option.some.injEq,Prod.mk.injEq,DataW.lit.injEq,Lit.string.injEq] at h
   have e:s=a:=by
    cases s with|mk d=>cases a with|mk d2=>
    congr 1
    exact Array.ext' h.1
   rw[e]
  |_=>cases h
def z59:Value→Option (DataW Unit×List MemPlace)
 |.map (some b)=>some (.lit (.int .i64 b),[])
 |.map none=>some (.lit (.bool false),[])
 |_=>none
def z4z:Elem Nat where
 R:=z59
 mv b:=.map (some b)
 dt b:=.lit (.int .i64 b)
 mkR _:=rfl
 inv:=by
  intro v a ps h
  cases v with
  |map o=>
   cases o with
   |none=>simp[z59] at h
   |some b=>
    simp only[z59,Option.some.injEq,Prod.mk.injEq,DataW.lit.injEq,Lit.int.injEq,true_and] at h;have e:b=a:=by omega
    rw[e]
  |_=>cases h
section
variable {α:Type} {E:Elem α} {w w':World} {B n:Nat} {f:Int→Option α} {t e:TypeId}
def MapF (E:Elem α)(w:World)(B n:Nat)(f:Int→Option α):Prop:=
 ∃D:DataW Unit,w.ownsMap prog 3 E.R B n D∧∀x:Int,(Lit.int .i64 x).wf=true→Maps.has D (.int .i64 x)=(f x).isSome∧∀c,f x=some c→∀z,D.atKey (.int .i64 x) z=E.dt c
theorem MapF.made (w:World):MapF E (w.alloc (.map #[] 0)) w.heap.size 0 (fun _=>none):=
 ⟨.map [],World.ownsMap_made w _ _ _,fun x _=>⟨rfl,fun c h=>by cases h⟩⟩
theorem MapF.lt (h:MapF E w B n f):B<w.heap.size:=by
 obtain⟨D,A,_⟩:=h;exact A.lt
theorem MapF.block (h:MapF E w B n f)(hb:w'.heap[B]?=w.heap[B]?):MapF E w' B n f:=by
 obtain⟨D,A,C⟩:=h;obtain⟨es,clock,I,F⟩:=A;exact⟨D,⟨es,clock,hb.trans I,F⟩,C⟩
theorem MapF.below (h:MapF E w B n f)(hb:Below w.heap.size w w'):MapF E w' B n f:=h.block (hb.block _ h.lt)
theorem MapF.but (h:MapF E w B n f){X:List Nat}(hb:ButL X w.heap.size w w')(hn:B∉X):MapF E w' B n f:=h.block (hb.block _ h.lt hn)
theorem MapF.mono (h:MapF E w B n f){m:Nat}(hm:n≤m):MapF E w B m f:=by
 obtain⟨D,A,C⟩:=h;exact⟨D,A.mono hm,C⟩
theorem MapF.congr (h:MapF E w B n f){g:Int→Option α}(hg:∀x,f x=g x):MapF E w B n g:=by
 have:f=g:=funext hg;rw[←this];exact h
theorem MapF.lookNone (h:MapF E w B n f)(ht:prog.underlying t=some (.map 3 e)){z:Value}(hz:(zeroValue e).run prog w=.ok z w){zd:DataW Unit}{zp:List MemPlace}(hzd:E.R z=some (zd,zp))(hzi:∀v ps,E.R v=some (zd,ps)→v=z)(x:Int)(hx:(Lit.int .i64 x).wf=true)(hf:f x=none):
  (Instr.lookup t (.map (some B)) (.int .i64 x) true).run prog w=.ok (.tuple #[z,.bool false]) w:=by
 obtain⟨D,J,K⟩:=h;obtain⟨v,ps,C,I⟩:=J.look_ok z4v ht hz hzd (Maps.keyOf_int_mk underlying3 hx);have F:=(K x hx).1;rw[hf] at F;have A:Maps.has D (.int .i64 x)=false:=F;rw[Maps.atKey_of_not_has A] at I;rw[C,A,hzi _ _ I]
theorem MapF.lookSome (h:MapF E w B n f)(ht:prog.underlying t=some (.map 3 e)){z:Value}(hz:(zeroValue e).run prog w=.ok z w){zd:DataW Unit}{zp:List MemPlace}(hzd:E.R z=some (zd,zp))(x:Int)(hx:(Lit.int .i64 x).wf=true){a:α}(hf:f x=some a):
  (Instr.lookup t (.map (some B)) (.int .i64 x) true).run prog w=.ok (.tuple #[E.mv a,.bool true]) w:=by
 obtain⟨D,K,C⟩:=h;obtain⟨v,ps,A,J⟩:=K.look_ok z4v ht hz hzd (Maps.keyOf_int_mk underlying3 hx);have I:=(C x hx).1;rw[hf] at I;have F:Maps.has D (.int .i64 x)=true:=I;rw[(C x hx).2 _ hf] at J;rw[A,F,E.inv _ _ _ J]
theorem MapF.store (h:MapF E w B n f)(ht:prog.underlying t=some (.map 3 e))(x:Int)(a:α)(hx:(Lit.int .i64 x).wf=true)(hn:n<maxLen):
  ∃w',(Instr.mapUpdate t (.map (some B)) (.int .i64 x) (E.mv a)).run prog w=.ok () w'∧MapF E w' B (n+1) (fun z=>if z=x then some a else f z)∧w.mapTurned w' B:=by
 obtain⟨D,F,I⟩:=h;have A:=F.isMap;obtain⟨w',C,J,K⟩:=F.store z4v ht hn (Maps.keyOf_int_mk underlying3 hx) (E.mkR a);refine⟨w',C,⟨_,J,fun z hz=>?_⟩,K⟩;by_cases e:z=x
 ·subst e;refine⟨?_,fun c hc z'=>?_⟩
  ·rw[Maps.has_put_same A (by simp[WideAt.IsKeyLit])];simp
  ·rw[Maps.atKey_put_same A (by simp[WideAt.IsKeyLit])];simp at hc;rw[hc]
 ·refine⟨?_,fun c hc z'=>?_⟩
  ·rw[Maps.has_put_other (by simp[e]),(I z hz).1];simp[e]
  ·rw[Maps.atKey_put_other (by simp[e])];simp only[if_neg e] at hc;exact(I z hz).2 c hc z'
theorem MapF.drop (h:MapF E w B n f)(ht:prog.underlying t=some (.map 3 e))(x:Int)(hx:(Lit.int .i64 x).wf=true)(ty:TypeId):
  ∃w',(Builtin.delete_ #[t,3] ty #[.map (some B),.int .i64 x]).run prog w=.ok (.tuple #[]) w'∧MapF E w' B n (fun z=>if z=x then none else f z)∧w.mapTurned w' B:=by
 obtain⟨D,I,C⟩:=h;obtain⟨w',A,F,J⟩:=I.drop z4v ht (Maps.keyOf_int_mk underlying3 hx) ty;refine⟨w',A,⟨_,F,fun z hz=>?_⟩,J⟩;by_cases e:z=x
 ·subst e;refine⟨?_,fun c hc z'=>?_⟩
  ·rw[Maps.has_del_same];simp
  ·simp at hc
 ·refine⟨?_,fun c hc z'=>?_⟩
  ·rw[Maps.has_del_other (by simp[e]),(C z hz).1];simp[e]
  ·rw[Maps.atKey_del_other (by simp[e])];simp only[if_neg e] at hc;exact(C z hz).2 c hc z'
end
theorem zd1 {w w':World}{B:Nat}(h:w.mapTurned w' B){X:List Nat}(hB:B∈X)(n:Nat):ButL X n w w':=by
 have A:=h.grown;obtain⟨es,clock,A1,A0,hb,rfl⟩:=h;exact⟨A.os,A.tape,A.output,A.size,fun q _ hq=>ChangeMaps.heap_setBlock_other hb _ (fun e=>hq (by rw[e];exact hB))⟩
theorem z1s {w:World}{B o:Nat}{es:Array MapEntry}{clock:Nat}(h:w.heap[B]?=some (.map es clock)):w.cell? ⟨B,o,none⟩=none:=by
 unfold World.cell?;simp only[h]
theorem Ext.turned {w w':World}{B:Nat}(h:w.mapTurned w' B)(X:List Nat):Ext (zar w X) (zar w' X):=by
 have hb:=zd1 h (X:=[B]) (by simp) w.heap.size;obtain⟨es,clock,A1,A0,D,_⟩:=h;refine⟨by rw[zbh,zbh];exact hb.size,fun b o v hv=>?_⟩;obtain⟨C,A⟩:=zbv hv;refine zbz C (hb.cell (zlc A) ?_ A);intro e;rw[List.mem_singleton.1 e,z1s D] at A;cases A
theorem JAt.ext {w w':World}{B:Nat}{X:List Nat}{j:Jn}(h:JAt w B X j)(hB:w'.heap[B]?=w.heap[B]?)(e:Ext (zar w X) (zar w' X)):JAt w' B X j:=by
 obtain⟨hb,c,F,b,K,D,L,Z,i,ne,E,N,M,a,I,O,J,S,d,Y,C,U,Q,R,A⟩:=h;exact⟨hb,c,F,b,K,D,L,Z,i,ne,E,N,M,a,I,O,J,S,d,Y,C,U,Q,hB.trans R,A.ext e⟩
theorem JAt.notMap {w:World}{B:Nat}{X:List Nat}{j:Jn}(h:JAt w B X j){M:Nat}{es:Array MapEntry}{clock:Nat}(hm:w.heap[M]?=some (.map es clock)):B≠M:=by
 obtain⟨_,da,dc,db,dd,na,nc,nb,nd,ne,nf,sa,sc,sb,sd,se,sf,ca,cc,fa,fc,ta,tc,A,_⟩:=h;intro e;rw[e,hm] at A;cases A
theorem JAt.turned {w w':World}{B M:Nat}{X:List Nat}{j:Jn}(h:JAt w B X j)(ht:w.mapTurned w' M):JAt w' B X j:=by
 have A:B≠M:=by obtain⟨_,_,_,_,C,_⟩:=ht;exact h.notMap C
 exact h.ext ((zd1 ht (X:=[M]) (by simp) w.heap.size).block B h.lt (by simpa using A)) (Ext.turned ht X)
theorem MapF.isMap {α:Type}{E:Elem α}{w:World}{B n:Nat}{f:Int→Option α}(h:MapF E w B n f):∃es clock,w.heap[B]?=some (.map es clock):=by
 obtain⟨D,⟨es,clock,A,_⟩,_⟩:=h;exact⟨es,clock,A⟩
theorem z40 (w:World):(zeroValue 9).run prog w=.ok (.string ⟨#[]⟩) w:=by kernel_rfl
theorem wfI {x:Int}(h0: -9223372036854775808≤x)(h1:x≤9223372036854775807):(Lit.int .i64 x).wf=true:=by
 have A:IntKind.i64.min= -9223372036854775808:=by decide
 have B:IntKind.i64.max=9223372036854775807:=by decide
 simp[Lit.wf,A,B];omega
theorem MapS.lookNone {w:World}{B n:Nat}{f:Int→Option ByteArray}(h:MapF zj1 w B n f)(x:Int)(hx:(Lit.int .i64 x).wf=true)(hf:f x=none):
  (Instr.lookup 56 (.map (some B)) (.int .i64 x) true).run prog w=.ok (.tuple #[.string ⟨#[]⟩,.bool false]) w:=
 h.lookNone underlying56 (z40 w) (zj1.mkR ⟨#[]⟩) (fun v ps hv=>zj1.inv v _ ps hv) x hx hf
theorem MapS.lookSome {w:World}{B n:Nat}{f:Int→Option ByteArray}(h:MapF zj1 w B n f)(x:Int)(hx:(Lit.int .i64 x).wf=true){s:ByteArray}(hf:f x=some s):
  (Instr.lookup 56 (.map (some B)) (.int .i64 x) true).run prog w=.ok (.tuple #[.string s,.bool true]) w:=
 h.lookSome underlying56 (z40 w) (zj1.mkR ⟨#[]⟩) x hx hf
theorem MapF.congrW {α:Type}{E:Elem α}{w:World}{B n:Nat}{f g:Int→Option α}(h:MapF E w B n f)(hg:∀x:Int,(Lit.int .i64 x).wf=true→f x=g x):MapF E w B n g:=by
 obtain⟨D,A,C⟩:=h;exact⟨D,A,fun x hx=>by rw[←hg x hx];exact C x hx⟩
theorem MapF.grown {α:Type}{E:Elem α}{w w':World}{B n:Nat}{f:Int→Option α}(h:MapF E w B n f){row:Option Nat}(hg:w.grownBy w' row)(hn:some B≠row):MapF E w' B n f:=by
 obtain⟨D,A,C⟩:=h;exact⟨D,A.kept hg hn,C⟩
theorem zlf {n:Nat}{a w w':World}(h:Below n a w){r:Nat}(hg:w.grownBy w' (some r))(hr:n≤r)(hn:n≤w.heap.size):Below n a w':=
 h.trans ⟨hg.os,hg.tape,hg.output,hg.size,fun k hk=>hg.block k (by omega) (by simp;omega)⟩
theorem zvi {n:Nat}{a w w':World}(h:Below n a w)(hg:w.grownBy w' none)(hn:n≤w.heap.size):Below n a w':=
 h.trans ⟨hg.os,hg.tape,hg.output,hg.size,fun k hk=>hg.block k (by omega) (by simp)⟩
def zpu (left:Lit→Bool)(f:Int→Option ByteArray):Int→Option ByteArray:=fun x=>if left (.int .i64 x)=true then none else f x
theorem zvj {left:Lit→Bool}{f:Int→Option ByteArray}{x:Int}{s:ByteArray}(hf:f x=some s)(z:Int):(if z=x then some s else zpu left f z)=zpu (fun y=>left y&& !y.sameKey (.int .i64 x)) f z:=by
 unfold zpu;by_cases e:z=x
 ·subst e;have h:(Lit.int .i64 z).sameKey (.int .i64 z)=true:=WideAt.sameKey_self (by simp[WideAt.IsKeyLit]);simp[h,hf]
 ·have h:(Lit.int .i64 z).sameKey (.int .i64 x)=false:=Maps.sameKey_ne (by simp[e]);simp[e,h]
theorem z1t {v:Value}{y:DataW Unit×List MemPlace}(h:z1r v=some y):∃s,v=.string s:=by
 cases v with
 |string s=>exact⟨s,rfl⟩
 |_=>cases h
theorem zm2 (M n:Nat)(f:Int→Option ByteArray)(w:World)(hM:MapF zj1 w M n f)(hn:n<maxLen):
  Calls prog 53 #[.map (some M)] w fun e w'=>∃M',e=.returned (.map (some M'))∧MapF zj1 w' M' n f∧w.heap.size≤M'∧Below w.heap.size w w':=by
 obtain⟨F,b,ha⟩:=hM;have HO:=zab b;have HA:=zab ha;have B3:=b.lt;have B5:=b.size_le;clear b ha;have B4:=fun w:World=>run_makeMap (P:=prog) 56 w;obtain⟨A,C⟩:∃A,A=w.alloc (.map #[] 0):=⟨_,rfl⟩;have s:Hid (Below w.heap.size w A):=by rw[C];exact zaa _ _
 have m:Hid (MapF zj1 A w.heap.size 0 (fun _=>none)):=by rw[C];exact MapF.made w
 have k:Hid (A.ownsMap prog 3 z1r M n F):=by rw[C];exact HO.o.alloc _
 have B0:A.heap.size=w.heap.size+1:=by rw[C];simp
 have p:=zab C;clear C;go_enter func53,ntmps53;go_wp2_with (first|(at_range;rw[←p.o];refine wpList_range_own _ rfl _ 56 rfl 3 9 z4v underlying56 z1r M n F rfl k.o ?_;intro d a X A4)|go_in);go_frame
 have u:Hid (∃left cnt B,d.ranges prog 3 z1r M A.heap.size n F left cnt∧MapF zj1 d w.heap.size B (zpu left f)∧B+cnt≤n∧Below w.heap.size w d∧A.heap.size<d.heap.size):=by
  refine⟨_,_,0,a,(m.o.grown X (by simp)).congrW (fun x hx=>?_),by omega,zvi s.o X (by omega),by omega⟩;unfold zpu;have:=(HA.o x hx).1;rw[this];cases f x<;>rfl
 have B2:w.heap.size<A.heap.size:=by omega
 clear a X A4 k m s HO p B0
 go_loopw [] (fun wr=>Hid (∃left cnt B,wr.ranges prog 3 z1r M A.heap.size n F left cnt∧MapF zj1 wr w.heap.size B (zpu left f)∧B+cnt≤n∧Below w.heap.size w wr∧A.heap.size<wr.heap.size)) (fun wr=>wr.rangeLeft M A.heap.size)
 case atStart=>exact u
 case round=>
  obtain⟨left,cnt,B,Q,j,A9,hB,A1⟩:=hrel.o;have J:=zab Q;have K:=zab j;have HB:=zab hB;have N:=Q.left_eq;clear hrel u Q j hB;go_wp2_with (first|(at_next;refine wpList_next_ranges _ rfl _ rfl 3 z4v z1r (Value.int .i64) Value.string (fun key kl hk=>by obtain⟨x,rfl,_⟩:=Maps.keyOf_int_inv underlying3 hk;exact⟨x,rfl⟩) (fun v y h=>z1t h) M A.heap.size n F left cnt rfl J.o ?_ ?_)|go_in)
  ·intro _ l;have HF:Hid (MapF zj1 wr w.heap.size n f):=(K.o.mono (by omega)).congrW (fun x _=>by unfold zpu;rw[l];rfl);clear l J K N;go_wp2;go_ret;exact⟨_,rfl,HF.o,Nat.le_refl _,HB.o⟩
  ·intro x c kl y1 y2 w2 A0 Z A8 h I E q Y A2 B6;obtain⟨x',ex,rfl,S⟩:=Maps.keyOf_int_inv underlying3 Z;cases ex
   have A6:f x=some c:=by
    cases hf:f x with
    |none=>
     have U:=(HA.o x S).1;rw[hf] at U;have A3:Maps.has F (.int .i64 x)=false:=U;have e1:=I (.lit (.bool true));have e2:=I (.lit (.bool false));rw[Maps.atKey_of_not_has A3] at e1 e2;rw[←e1] at e2;simp at e2
    |some c'=>
     have U:=(HA.o x S).2 c' hf (.lit (.bool true));rw[I] at U;have h2:zj1.R (.string c)=some (zj1.dt c',y2):=by rw[←U];exact h
     have h3:=zj1.inv _ _ _ h2;have h4:Value.string c=Value.string c':=h3;simp only[Value.string.injEq] at h4;rw[h4]
   obtain⟨L,O,r,D⟩:=(K.o.grown Y (by simp;try omega)).store underlying56 x c S (by omega);have B1:(Instr.mapUpdate 56 (.map (some w.heap.size)) (.int .i64 x) (.string c)).run prog w2=.ok () L:=O;have A7:=J.o.ne
   have HN:Hid (∃left cnt B,L.ranges prog 3 z1r M A.heap.size n F left cnt∧MapF zj1 L w.heap.size B (zpu left f)∧B+cnt≤n∧Below w.heap.size w L∧A.heap.size<L.heap.size):=by
    refine⟨_,A0,B+1,E.kept D.grown (by simp;try omega) (by simp;try omega),r.congrW (fun z _=>zvj A6 z),by omega,?_,?_⟩
    ·exact zlf (zlf HB.o Y (by omega) (by omega)) D.grown (Nat.le_refl _) (by omega)
    ·have:=D.grown.size;omega
   have i:L.rangeLeft M A.heap.size<wr.rangeLeft M A.heap.size:=by
    rw[(E.kept D.grown (by simp;try omega) (by simp;try omega)).left_eq,N];exact q
   have A5:=zab i;clear O r D E q Y A2 I h A8 Z A7 i J K HB N A9 A1;go_wp2
   go_roundw
   case rel=>exact HN
   case measure=>exact A5.o
end Go.Proofs.YtjnpndfpajjihacGreat

