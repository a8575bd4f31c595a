/- -/
import Derived.Test.YtjnpndfpajjihacGreatGrTopAnywhere4
import Derived.Maps.Own
import Derived.Maps.OwnSet
import Derived.Maps.RangeWalk
namespace Go.Proofs.YtjnpndfpajjihacGreat
open Go.Proofs.Tryz
set_option maxRecDepth 100000
set_option maxHeartbeats 40000000
open Go.RowKit
theorem z47:Maps.Keyed prog 3:=Maps.int_keyed underlying3
structure Elem (α:Type) where
 R:Value→Option (DataW Unit×List MemPlace)
 mv:α→Value
 dt:α→DataW Unit
 mkR:∀a,R (mv a)=some (dt a,[])
 inv:∀v a ps,R v=some (dt a,ps)→v=mv a
def z1z:Value→Option (DataW Unit×List MemPlace)
 |.string s=>some (.lit (.string s.data.toList),[])
 |_=>none
def zkb:Elem ByteArray where
 R:=z1z
 mv:=.string
 dt s:=.lit (.string s.data.toList)
 mkR _:=rfl
 inv:=by
  intro v a ps h
  cases v with
  |string s=>
   simp only[z1z,Option.some.injEq,Prod.mk.injEq,DataW.lit.injEq,Lit.string.injEq]at h
   have e:s=a:=by
    cases s with|mk d=>cases a with|mk d2=>
    congr 1
    exact Array.ext' h.1
   rw[e]
  |_=>cases h
def z6k:Value→Option (DataW Unit×List MemPlace)
 |.map (some b)=>some (.lit (.int .i64 b),[])
 |.map none=>some (.lit (.bool false),[])
 |_=>none
def z5b:Elem Nat where
 R:=z6k
 mv b:=.map (some b)
 dt b:=.lit (.int .i64 b)
 mkR _:=rfl
 inv:=by
  intro v a ps h
  cases v with
  |map o=>
   cases o with
   |none=>simp[z6k]at h
   |some b=>
    simp only[z6k,Option.some.injEq,Prod.mk.injEq,DataW.lit.injEq,Lit.int.injEq,true_and]at h;have e:b=a:=by omega
    rw[e]
  |_=>cases h
section
variable {α:Type} {E:Elem α} {w w':World} {B n:Nat} {f:Int→Option α} {t e:TypeId}
def MapF (E:Elem α)(w:World)(B n:Nat)(f:Int→Option α):Prop:=
 ∃D:DataW Unit,w.ownsMap prog 3 E.R B n D∧∀x:Int,(Lit.int .i64 x).wf=true→Maps.has D (.int .i64 x)=(f x).isSome∧∀c,f x=some c→∀z,D.atKey (.int .i64 x) z=E.dt c
theorem MapF.made(w:World):MapF E (w.alloc (.map #[] 0)) w.heap.size 0 (fun _=>none):=
 ⟨.map [],World.ownsMap_made w _ _ _,fun x _=>⟨rfl,fun c h=>by cases h⟩⟩
theorem MapF.lt(h:MapF E w B n f):B<w.heap.size:=by
 obtain⟨D,A,_⟩:=h;exact A.lt
theorem MapF.block(h:MapF E w B n f)(hb:w'.heap[B]?=w.heap[B]?):MapF E w' B n f:=by
 obtain⟨D,F,I⟩:=h;obtain⟨es,clock,C,A⟩:=F;exact⟨D,⟨es,clock,hb.trans C,A⟩,I⟩
theorem MapF.below(h:MapF E w B n f)(hb:Below w.heap.size w w'):MapF E w' B n f:=h.block (hb.block _ h.lt)
theorem MapF.but(h:MapF E w B n f){X:List Nat}(hb:ButL X w.heap.size w w')(hn:B∉X):MapF E w' B n f:=h.block (hb.block _ h.lt hn)
theorem MapF.mono(h:MapF E w B n f){m:Nat}(hm:n≤m):MapF E w B m f:=by
 obtain⟨D,C,A⟩:=h;exact⟨D,C.mono hm,A⟩
theorem MapF.congr(h:MapF E w B n f){g:Int→Option α}(hg:∀x,f x=g x):MapF E w B n g:=by
 have:f=g:=funext hg;rw[←this];exact h
theorem MapF.lookNone(h:MapF E w B n f)(ht:prog.underlying t=some (.map 3 e)){z:Value}(hz:(zeroValue e).run prog w=.ok z w){zd:DataW Unit}{zp:List MemPlace}(hzd:E.R z=some (zd,zp))(hzi:∀v ps,E.R v=some (zd,ps)→v=z)(x:Int)(hx:(Lit.int .i64 x).wf=true)(hf:f x=none):
  (Instr.lookup t (.map (some B)) (.int .i64 x) true).run prog w=.ok (.tuple #[z,.bool false]) w:=by
 obtain⟨D,J,K⟩:=h;obtain⟨v,ps,C,F⟩:=J.look_ok z47 ht hz hzd (Maps.keyOf_int_mk underlying3 hx);have I:=(K x hx).1;rw[hf]at I;have A:Maps.has D (.int .i64 x)=false:=I;rw[Maps.atKey_of_not_has A]at F;rw[C,A,hzi _ _ F]
theorem MapF.lookSome(h:MapF E w B n f)(ht:prog.underlying t=some (.map 3 e)){z:Value}(hz:(zeroValue e).run prog w=.ok z w){zd:DataW Unit}{zp:List MemPlace}(hzd:E.R z=some (zd,zp))(x:Int)(hx:(Lit.int .i64 x).wf=true){a:α}(hf:f x=some a):
  (Instr.lookup t (.map (some B)) (.int .i64 x) true).run prog w=.ok (.tuple #[E.mv a,.bool true]) w:=by
 obtain⟨D,K,J⟩:=h;obtain⟨v,ps,A,C⟩:=K.look_ok z47 ht hz hzd (Maps.keyOf_int_mk underlying3 hx);have I:=(J x hx).1;rw[hf]at I;have F:Maps.has D (.int .i64 x)=true:=I;rw[(J x hx).2 _ hf]at C;rw[A,F,E.inv _ _ _ C]
theorem MapF.store(h:MapF E w B n f)(ht:prog.underlying t=some (.map 3 e))(x:Int)(a:α)(hx:(Lit.int .i64 x).wf=true)(hn:n<maxLen):
  ∃w',(Instr.mapUpdate t (.map (some B)) (.int .i64 x) (E.mv a)).run prog w=.ok () w'∧MapF E w' B (n+1) (fun z=>if z=x then some a else f z)∧w.mapTurned w' B:=by
 obtain⟨D,I,J⟩:=h;have A:=I.isMap;obtain⟨w',C,F,K⟩:=I.store z47 ht hn (Maps.keyOf_int_mk underlying3 hx) (E.mkR a);refine⟨w',C,⟨_,F,fun z hz=>?_⟩,K⟩;by_cases e:z=x
 ·subst e;refine⟨?_,fun c hc z'=>?_⟩
  ·rw[Maps.has_put_same A (by simp[WideAt.IsKeyLit])];simp
  ·rw[Maps.atKey_put_same A (by simp[WideAt.IsKeyLit])];simp at hc;rw[hc]
 ·refine⟨?_,fun c hc z'=>?_⟩
  ·rw[Maps.has_put_other (by simp[e]),(J z hz).1];simp[e]
  ·rw[Maps.atKey_put_other (by simp[e])];simp only[if_neg e]at hc;exact(J z hz).2 c hc z'
theorem MapF.drop(h:MapF E w B n f)(ht:prog.underlying t=some (.map 3 e))(x:Int)(hx:(Lit.int .i64 x).wf=true)(ty:TypeId):
  ∃w',(Builtin.delete_ #[t,3] ty #[.map (some B),.int .i64 x]).run prog w=.ok (.tuple #[]) w'∧MapF E w' B n (fun z=>if z=x then none else f z)∧w.mapTurned w' B:=by
 obtain⟨D,J,F⟩:=h;obtain⟨w',A,C,I⟩:=J.drop z47 ht (Maps.keyOf_int_mk underlying3 hx) ty;refine⟨w',A,⟨_,C,fun z hz=>?_⟩,I⟩;by_cases e:z=x
 ·subst e;refine⟨?_,fun c hc z'=>?_⟩
  ·rw[Maps.has_del_same];simp
  ·simp at hc
 ·refine⟨?_,fun c hc z'=>?_⟩
  ·rw[Maps.has_del_other (by simp[e]),(F z hz).1];simp[e]
  ·rw[Maps.atKey_del_other (by simp[e])];simp only[if_neg e]at hc;exact(F z hz).2 c hc z'
end
theorem zd0{w w':World}{B:Nat}(h:w.mapTurned w' B){X:List Nat}(hB:B∈X)(n:Nat):ButL X n w w':=by
 have A:=h.grown;obtain⟨es,clock,A1,A0,hb,rfl⟩:=h;exact⟨A.os,A.tape,A.output,A.size,fun q _ hq=>ChangeMaps.heap_setBlock_other hb _ (fun e=>hq (by rw[e];exact hB))⟩
theorem z10{w:World}{B o:Nat}{es:Array MapEntry}{clock:Nat}(h:w.heap[B]?=some (.map es clock)):w.cell? ⟨B,o,none⟩=none:=by
 unfold World.cell?;simp only[h]
theorem Ext.turned{w w':World}{B:Nat}(h:w.mapTurned w' B)(X:List Nat):Ext (zas w X) (zas w' X):=by
 have hb:=zd0 h (X:=[B]) (by simp) w.heap.size;obtain⟨es,clock,A1,A0,C,_⟩:=h;refine⟨by rw[zbi,zbi];exact hb.size,fun b o v hv=>?_⟩;obtain⟨D,A⟩:=zbv hv;refine zbz D (hb.cell (zll A) ?_ A);intro e;rw[List.mem_singleton.1 e,z10 C]at A;cases A
theorem JAt.ext{w w':World}{B:Nat}{X:List Nat}{j:Jn}(h:JAt w B X j)(hB:w'.heap[B]?=w.heap[B]?)(e:Ext (zas w X) (zas w' X)):JAt w' B X j:=by
 obtain⟨hb,O,a,R,L,F,U,Y,A,ne,K,S,Z,N,C,D,d,I,i,Q,E,J,M,c,b⟩:=h;exact⟨hb,O,a,R,L,F,U,Y,A,ne,K,S,Z,N,C,D,d,I,i,Q,E,J,M,hB.trans c,b.ext e⟩
theorem JAt.notMap{w:World}{B:Nat}{X:List Nat}{j:Jn}(h:JAt w B X j){M:Nat}{es:Array MapEntry}{clock:Nat}(hm:w.heap[M]?=some (.map es clock)):B≠M:=by
 obtain⟨_,da,dc,db,dd,na,nc,nb,nd,ne,nf,sa,sc,sb,sd,se,sf,ca,cc,fa,fc,ta,tc,A,_⟩:=h;intro e;rw[e,hm]at A;cases A
theorem JAt.turned{w w':World}{B M:Nat}{X:List Nat}{j:Jn}(h:JAt w B X j)(ht:w.mapTurned w' M):JAt w' B X j:=by
 have C:B≠M:=by obtain⟨_,_,_,_,A,_⟩:=ht;exact h.notMap A
 exact h.ext ((zd0 ht (X:=[M]) (by simp) w.heap.size).block B h.lt (by simpa using C)) (Ext.turned ht X)
theorem MapF.isMap{α:Type}{E:Elem α}{w:World}{B n:Nat}{f:Int→Option α}(h:MapF E w B n f):∃es clock,w.heap[B]?=some (.map es clock):=by
 obtain⟨D,⟨es,clock,A,_⟩,_⟩:=h;exact⟨es,clock,A⟩
theorem z5c(w:World):(zeroValue 9).run prog w=.ok (.string ⟨#[]⟩) w:=by kernel_rfl
theorem wfI{x:Int}(h0: -9223372036854775808≤x)(h1:x≤9223372036854775807):(Lit.int .i64 x).wf=true:=by
 have B:IntKind.i64.min= -9223372036854775808:=by decide
 have A:IntKind.i64.max=9223372036854775807:=by decide
 simp[Lit.wf,B,A];omega
theorem MapS.lookNone{w:World}{B n:Nat}{f:Int→Option ByteArray}(h:MapF zkb w B n f)(x:Int)(hx:(Lit.int .i64 x).wf=true)(hf:f x=none):
  (Instr.lookup 56 (.map (some B)) (.int .i64 x) true).run prog w=.ok (.tuple #[.string ⟨#[]⟩,.bool false]) w:=
 h.lookNone underlying56 (z5c w) (zkb.mkR ⟨#[]⟩) (fun v ps hv=>zkb.inv v _ ps hv) x hx hf
theorem MapS.lookSome{w:World}{B n:Nat}{f:Int→Option ByteArray}(h:MapF zkb w B n f)(x:Int)(hx:(Lit.int .i64 x).wf=true){s:ByteArray}(hf:f x=some s):
  (Instr.lookup 56 (.map (some B)) (.int .i64 x) true).run prog w=.ok (.tuple #[.string s,.bool true]) w:=
 h.lookSome underlying56 (z5c w) (zkb.mkR ⟨#[]⟩) x hx hf
theorem MapF.congrW{α:Type}{E:Elem α}{w:World}{B n:Nat}{f g:Int→Option α}(h:MapF E w B n f)(hg:∀x:Int,(Lit.int .i64 x).wf=true→f x=g x):MapF E w B n g:=by
 obtain⟨D,C,A⟩:=h;exact⟨D,C,fun x hx=>by rw[←hg x hx];exact A x hx⟩
theorem MapF.grown{α:Type}{E:Elem α}{w w':World}{B n:Nat}{f:Int→Option α}(h:MapF E w B n f){row:Option Nat}(hg:w.grownBy w' row)(hn:some B≠row):MapF E w' B n f:=by
 obtain⟨D,C,A⟩:=h;exact⟨D,C.kept hg hn,A⟩
theorem zlo{n:Nat}{a w w':World}(h:Below n a w){r:Nat}(hg:w.grownBy w' (some r))(hr:n≤r)(hn:n≤w.heap.size):Below n a w':=
 h.trans ⟨hg.os,hg.tape,hg.output,hg.size,fun k hk=>hg.block k (by omega) (by simp;omega)⟩
theorem zvo{n:Nat}{a w w':World}(h:Below n a w)(hg:w.grownBy w' none)(hn:n≤w.heap.size):Below n a w':=
 h.trans ⟨hg.os,hg.tape,hg.output,hg.size,fun k hk=>hg.block k (by omega) (by simp)⟩
def zp0 (left:Lit→Bool)(f:Int→Option ByteArray):Int→Option ByteArray:=fun x=>if left (.int .i64 x)=true then none else f x
theorem zvp{left:Lit→Bool}{f:Int→Option ByteArray}{x:Int}{s:ByteArray}(hf:f x=some s)(z:Int):(if z=x then some s else zp0 left f z)=zp0 (fun y=>left y&& !y.sameKey (.int .i64 x)) f z:=by
 unfold zp0;by_cases e:z=x
 ·subst e;have h:(Lit.int .i64 z).sameKey (.int .i64 z)=true:=WideAt.sameKey_self (by simp[WideAt.IsKeyLit]);simp[h,hf]
 ·have h:(Lit.int .i64 z).sameKey (.int .i64 x)=false:=Maps.sameKey_ne (by simp[e]);simp[e,h]
theorem z11{v:Value}{y:DataW Unit×List MemPlace}(h:z1z v=some y):∃s,v=.string s:=by
 cases v with
 |string s=>exact⟨s,rfl⟩
 |_=>cases h
theorem zna(M n:Nat)(f:Int→Option ByteArray)(w:World)(hM:MapF zkb w M n f)(hn:n<maxLen):
  Calls prog 53 #[.map (some M)] w fun e w'=>∃M',e=.returned (.map (some M'))∧MapF zkb w' M' n f∧w.heap.size≤M'∧Below w.heap.size w w':=by
 obtain⟨F,h,ha⟩:=hM;have HO:=zaa h;have HA:=zaa ha;have B4:=h.lt;have B3:=h.size_le;clear h ha;have B5:=fun w:World=>run_makeMap (P:=prog) 56 w;obtain⟨A,C⟩:∃A,A=w.alloc (.map #[] 0):=⟨_,rfl⟩;have u:Hid (Below w.heap.size w A):=by rw[C];exact zab _ _
 have l:Hid (MapF zkb A w.heap.size 0 (fun _=>none)):=by rw[C];exact MapF.made w
 have j:Hid (A.ownsMap prog 3 z1z M n F):=by rw[C];exact HO.o.alloc _
 have A9:A.heap.size=w.heap.size+1:=by rw[C];simp
 have p:=zaa C;clear C;go_enter func53,ntmps53;go_wp2_with (first|(at_range;rw[←p.o];refine wpList_range_own _ rfl _ 56 rfl 3 9 z47 underlying56 z1z M n F rfl j.o ?_;intro b U O A7)|go_in);go_frame
 have k:Hid (∃left cnt B,b.ranges prog 3 z1z M A.heap.size n F left cnt∧MapF zkb b w.heap.size B (zp0 left f)∧B+cnt≤n∧Below w.heap.size w b∧A.heap.size<b.heap.size):=by
  refine⟨_,_,0,U,(l.o.grown O (by simp)).congrW (fun x hx=>?_),by omega,zvo u.o O (by omega),by omega⟩;unfold zp0;have:=(HA.o x hx).1;rw[this];cases f x<;>rfl
 have B2:w.heap.size<A.heap.size:=by omega
 clear U O A7 j l u HO p A9
 go_loopw [] (fun wr=>Hid (∃left cnt B,wr.ranges prog 3 z1z M A.heap.size n F left cnt∧MapF zkb wr w.heap.size B (zp0 left f)∧B+cnt≤n∧Below w.heap.size w wr∧A.heap.size<wr.heap.size)) (fun wr=>wr.rangeLeft M A.heap.size)
 case atStart=>exact k
 case round=>
  obtain⟨left,cnt,B,N,q,A5,hB,A0⟩:=hrel.o;have I:=zaa N;have K:=zaa q;have HB:=zaa hB;have Z:=N.left_eq;clear hrel k N q hB;go_wp2_with (first|(at_next;refine wpList_next_ranges _ rfl _ rfl 3 z47 z1z (Value.int .i64) Value.string (fun key kl hk=>by obtain⟨x,rfl,_⟩:=Maps.keyOf_int_inv underlying3 hk;exact⟨x,rfl⟩) (fun v y d=>z11 d) M A.heap.size n F left cnt rfl I.o ?_ ?_)|go_in)
  ·intro _ r;have HF:Hid (MapF zkb wr w.heap.size n f):=(K.o.mono (by omega)).congrW (fun x _=>by unfold zp0;rw[r];rfl);clear r I K Z;go_wp2;go_ret;exact⟨_,rfl,HF.o,Nat.le_refl _,HB.o⟩
  ·intro x c kl y1 y2 w2 A1 a B0 d J E s X A2 B6;obtain⟨x',ex,rfl,Q⟩:=Maps.keyOf_int_inv underlying3 a;cases ex
   have A8:f x=some c:=by
    cases hf:f x with
    |none=>
     have Y:=(HA.o x Q).1;rw[hf]at Y;have A6:Maps.has F (.int .i64 x)=false:=Y;have e1:=J (.lit (.bool true));have e2:=J (.lit (.bool false));rw[Maps.atKey_of_not_has A6]at e1 e2;rw[←e1]at e2;simp at e2
    |some c'=>
     have Y:=(HA.o x Q).2 c' hf (.lit (.bool true));rw[J]at Y;have h2:zkb.R (.string c)=some (zkb.dt c',y2):=by rw[←Y];exact d
     have h3:=zkb.inv _ _ _ h2;have h4:Value.string c=Value.string c':=h3;simp only[Value.string.injEq]at h4;rw[h4]
   obtain⟨L,S,i,D⟩:=(K.o.grown X (by simp;try omega)).store underlying56 x c Q (by omega);have B1:(Instr.mapUpdate 56 (.map (some w.heap.size)) (.int .i64 x) (.string c)).run prog w2=.ok () L:=S;have A4:=I.o.ne
   have HN:Hid (∃left cnt B,L.ranges prog 3 z1z M A.heap.size n F left cnt∧MapF zkb L w.heap.size B (zp0 left f)∧B+cnt≤n∧Below w.heap.size w L∧A.heap.size<L.heap.size):=by
    refine⟨_,A1,B+1,E.kept D.grown (by simp;try omega) (by simp;try omega),i.congrW (fun z _=>zvp A8 z),by omega,?_,?_⟩
    ·exact zlo (zlo HB.o X (by omega) (by omega)) D.grown (Nat.le_refl _) (by omega)
    ·have:=D.grown.size;omega
   have m:L.rangeLeft M A.heap.size<wr.rangeLeft M A.heap.size:=by
    rw[(E.kept D.grown (by simp;try omega) (by simp;try omega)).left_eq,Z];exact s
   have A3:=zaa m;clear S i D E s X A2 J d B0 a A4 m I K HB Z A5 A0;go_wp2
   go_roundw
   case rel=>exact HN
   case measure=>exact A3.o
