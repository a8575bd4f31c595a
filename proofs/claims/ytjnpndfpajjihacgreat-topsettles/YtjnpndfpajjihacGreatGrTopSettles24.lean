/-
  
-/
import Derived.Test.YtjnpndfpajjihacGreatGrTopSettles3
import Derived.Maps.Own
import Derived.Maps.OwnSet
set_option maxRecDepth 100000
set_option maxHeartbeats 40000000
namespace Go.Proofs.YtjnpndfpajjihacGreat
open Go.Proofs.Tryz
open Go.RowKit
theorem z49:Maps.Keyed prog 3:=Maps.int_keyed underlying3
theorem z54(w:World):(zeroValue 3).run prog w=.ok (.int .i64 0) w:=by kernel_rfl
theorem z3o(w:World):(zeroValue 84).run prog w=.ok (.agg #[.int .i64 0,.string ⟨#[]⟩]) w:=by kernel_rfl
def MapI (w:World)(B n:Nat)(f:Int→Int):Prop:=
 ∃D:DataW Unit,w.ownsMap prog 3 (plainElem prog 3) B n D∧∀x:Int,(Lit.int .i64 x).wf=true→D.atKey (.int .i64 x) (.lit (.int .i64 0))=.lit (.int .i64 (f x))
theorem MapI.made(w:World):MapI (w.alloc (.map #[] 0)) w.heap.size 0 (fun _=>0):=
 ⟨.map [],World.ownsMap_made w _ _ _,fun x _=>by simp[DataW.atKey]⟩
theorem MapI.lt{w:World}{B n:Nat}{f:Int→Int}(h:MapI w B n f):B<w.heap.size:=by
 obtain⟨D,A,_⟩:=h;exact A.lt
theorem MapI.block{w w':World}{B n:Nat}{f:Int→Int}(h:MapI w B n f)(hb:w'.heap[B]?=w.heap[B]?):MapI w' B n f:=by
 obtain⟨D,E,C⟩:=h;obtain⟨es,clock,F,A⟩:=E;exact⟨D,⟨es,clock,hb.trans F,A⟩,C⟩
theorem MapI.below{w w':World}{B n:Nat}{f:Int→Int}(h:MapI w B n f)(hb:Below w.heap.size w w'):MapI w' B n f:=h.block (hb.block _ h.lt)
def zk8 (v:Value):Option (DataW Unit×List MemPlace):=
 match v with
 |.agg c=>match c.toList with
  |[.int .i64 a,.string s]=>some (.agg [.lit (.int .i64 a),.lit (.string s.data.toList)],[])
  |_=>none
 |_=>none
def z2b (c:Int×ByteArray):DataW Unit:=.agg [.lit (.int .i64 c.1),.lit (.string c.2.data.toList)]
theorem zii(a:Int)(s:ByteArray):zk8 (.agg #[.int .i64 a,.string s])=some (z2b (a,s),[]):=rfl
theorem zj9{v:Value}{a:Int}{s:ByteArray}{ps:List MemPlace}(h:zk8 v=some (z2b (a,s),ps)):v=.agg #[.int .i64 a,.string s]:=by
 unfold zk8 at h;split at h
 ·rename_i c;split at h
  ·rename_i C A D;simp only[z2b,Option.some.injEq,Prod.mk.injEq,DataW.agg.injEq,List.cons.injEq,DataW.lit.injEq,Lit.int.injEq,Lit.string.injEq,and_true,true_and]at h;obtain⟨⟨rfl,B⟩,_⟩:=h
   have e:A=s:=by
    cases A with|mk d=>cases s with|mk d2=>
    simp only at B
    congr 1
    exact Array.ext' B
   subst e
   have:c=#[.int .i64 C,.string A]:=by
    apply Array.ext';rw[D]
   rw[this]
  ·cases h
 ·cases h
def MapC (w:World)(B n:Nat)(f:Int→Option (Int×ByteArray)):Prop:=
 ∃D:DataW Unit,w.ownsMap prog 3 zk8 B n D∧∀x:Int,(Lit.int .i64 x).wf=true→Maps.has D (.int .i64 x)=(f x).isSome∧∀c,f x=some c→∀z,D.atKey (.int .i64 x) z=z2b c
theorem MapC.made(w:World):MapC (w.alloc (.map #[] 0)) w.heap.size 0 (fun _=>none):=
 ⟨.map [],World.ownsMap_made w _ _ _,fun x _=>⟨rfl,fun c h=>by cases h⟩⟩
theorem MapC.lt{w:World}{B n:Nat}{f:Int→Option (Int×ByteArray)}(h:MapC w B n f):B<w.heap.size:=by
 obtain⟨D,A,_⟩:=h;exact A.lt
theorem MapC.block{w w':World}{B n:Nat}{f:Int→Option (Int×ByteArray)}(h:MapC w B n f)(hb:w'.heap[B]?=w.heap[B]?):MapC w' B n f:=by
 obtain⟨D,E,C⟩:=h;obtain⟨es,clock,F,A⟩:=E;exact⟨D,⟨es,clock,hb.trans F,A⟩,C⟩
theorem MapC.below{w w':World}{B n:Nat}{f:Int→Option (Int×ByteArray)}(h:MapC w B n f)(hb:Below w.heap.size w w'):MapC w' B n f:=h.block (hb.block _ h.lt)
theorem wfI{x:Int}(h0: -9223372036854775808≤x)(h1:x≤9223372036854775807):(Lit.int .i64 x).wf=true:=by
 have B:IntKind.i64.min= -9223372036854775808:=by decide
 have A:IntKind.i64.max=9223372036854775807:=by decide
 simp only[Lit.wf,B,A,Bool.and_eq_true,decide_eq_true_eq];exact⟨h0,h1⟩
def Few (t:Tx):Prop:=t.rev.length≤12∧t.info.length≤12∧(∀x∈t.rev,0≤x∧x≤11)∧∀x∈t.info,0≤x.1∧x.1≤11
def zwd (t:Tx)(b:Int):Bool:=za7 t.rev b||za7 (blksOf t.info) b
def lastK (l:List Tx):Nat→Int→Int
 |0=>fun _=>0
 |k+1=>fun b=>if zwd (l.getD k txz) b=true then(k:Int) else lastK l k b
def z4q (t:Tx)(k:Nat)(f:Int→Int)(q:Nat):Int→Int:=fun b=>if za7 (t.rev.take q) b=true then(k:Int) else f b
def zp8 (t:Tx)(k:Nat)(f:Int→Int)(p:Nat):Int→Int:=fun b=>if(za7 t.rev b||za7 (blksOf (t.info.take p)) b)=true then(k:Int) else f b
theorem zy1{t:Tx}{q:Nat}{x:Int}(h:t.rev[q]?=some x)(k:Nat)(f:Int→Int):z4q t k f (q+1)=fun z=>if z=x then(k:Int) else z4q t k f q z:=by
 funext z
 unfold z4q;rw[List.take_add_one,h,za7,za7,List.any_append];by_cases e:z=x
 ·simp[e]
 ·have:¬x=z:=fun y=>e y.symm;simp[e,this]
theorem zwe{t:Tx}{p:Nat}{x:Int×ByteArray}(h:t.info[p]?=some x)(k:Nat)(f:Int→Int):zp8 t k f (p+1)=fun z=>if z=x.1 then(k:Int) else zp8 t k f p z:=by
 funext z
 unfold zp8 blksOf;rw[List.take_add_one,h,List.map_append,za7,za7,za7,List.any_append];by_cases e:z=x.1
 ·simp[e]
 ·have:¬x.1=z:=fun y=>e y.symm;simp[e,this]
theorem zwf(t:Tx)(k:Nat)(f:Int→Int):z4q t k f t.rev.length=zp8 t k f 0:=by
 funext z
 unfold z4q zp8;rw[List.take_length];simp[blksOf,za7]
theorem zy2{l:List Tx}{k:Nat}{t:Tx}(h:t=l.getD k txz):zp8 t k (lastK l k) t.info.length=lastK l (k+1):=by
 funext z
 rw[lastK,←h];unfold zp8 zwd;rw[List.take_length]
open Go.Proofs.Tryz
theorem MapI.look{w:World}{B n:Nat}{f:Int→Int}(h:MapI w B n f)(x:Int)(hx:(Lit.int .i64 x).wf=true):
  (Instr.lookup 213 (.map (some B)) (.int .i64 x) false).run prog w=.ok (.int .i64 (f x)) w:=by
 obtain⟨D,F,E⟩:=h;obtain⟨c,C,A,_⟩:=F.lookup_int z49 underlying213 underlying3 (z54 w) (Maps.keyOf_int_mk underlying3 hx)
 rw[E x hx]at A
 simp only[DataW.lit.injEq,Lit.int.injEq,true_and]at A
 rw[C,A]
theorem MapI.store{w:World}{B n:Nat}{f:Int→Int}(h:MapI w B n f)(x y:Int)(hx:(Lit.int .i64 x).wf=true)(hy:(Lit.int .i64 y).wf=true)(hn:n<maxLen):
  ∃w',(Instr.mapUpdate 213 (.map (some B)) (.int .i64 x) (.int .i64 y)).run prog w=.ok () w'∧MapI w' B (n+1) (fun z=>if z=x then y else f z)∧w.grownBy w' (some B):=by
 obtain⟨D,E,I⟩:=h;have C:=E.isMap;obtain⟨w',A,F,J⟩:=E.update z49 underlying213 hn (Maps.keyOf_int_mk underlying3 hx) (plainElem_int underlying3 hy);refine⟨w',A,⟨_,F,fun z hz=>?_⟩,J⟩;by_cases e:z=x
 ·subst e;rw[Maps.atKey_put_same C (by simp[WideAt.IsKeyLit])];simp
 ·rw[Maps.atKey_put_other (by simp[e]),I z hz];simp[e]
theorem MapC.lookNone{w:World}{B n:Nat}{f:Int→Option (Int×ByteArray)}(h:MapC w B n f)(x:Int)(hx:(Lit.int .i64 x).wf=true)(hf:f x=none):
  (Instr.lookup 175 (.map (some B)) (.int .i64 x) true).run prog w=.ok (.tuple #[.agg #[.int .i64 0,.string ⟨#[]⟩],.bool false]) w:=by
 obtain⟨D,J,I⟩:=h;obtain⟨v,ps,C,E⟩:=J.look_ok z49 underlying175 (z3o w) (zii 0 ⟨#[]⟩) (Maps.keyOf_int_mk underlying3 hx);have F:=(I x hx).1;rw[hf]at F;have A:Maps.has D (.int .i64 x)=false:=F;rw[Maps.atKey_of_not_has A]at E;rw[C,A,zj9 E]
theorem MapC.lookSome{w:World}{B n:Nat}{f:Int→Option (Int×ByteArray)}(h:MapC w B n f)(x:Int)(hx:(Lit.int .i64 x).wf=true){a:Int}{s:ByteArray}(hf:f x=some (a,s)):
  (Instr.lookup 175 (.map (some B)) (.int .i64 x) true).run prog w=.ok (.tuple #[.agg #[.int .i64 a,.string s],.bool true]) w:=by
 obtain⟨D,J,F⟩:=h;obtain⟨v,ps,A,C⟩:=J.look_ok z49 underlying175 (z3o w) (zii 0 ⟨#[]⟩) (Maps.keyOf_int_mk underlying3 hx);have I:=(F x hx).1;rw[hf]at I;have E:Maps.has D (.int .i64 x)=true:=I;rw[(F x hx).2 _ hf]at C;rw[A,E,zj9 C]
theorem MapC.store{w:World}{B n:Nat}{f:Int→Option (Int×ByteArray)}(h:MapC w B n f)(x a:Int)(s:ByteArray)(hx:(Lit.int .i64 x).wf=true)(hn:n<maxLen):
  ∃w',(Instr.mapUpdate 175 (.map (some B)) (.int .i64 x) (.agg #[.int .i64 a,.string s])).run prog w=.ok () w'∧MapC w' B (n+1) (fun z=>if z=x then some (a,s) else f z)∧w.grownBy w' (some B):=by
 obtain⟨D,F,E⟩:=h;have A:=F.isMap;obtain⟨w',C,I,J⟩:=F.update z49 underlying175 hn (Maps.keyOf_int_mk underlying3 hx) (zii a s);refine⟨w',C,⟨_,I,fun z hz=>?_⟩,J⟩;by_cases e:z=x
 ·subst e;refine⟨?_,fun c hc z'=>?_⟩
  ·rw[Maps.has_put_same A (by simp[WideAt.IsKeyLit])];simp
  ·rw[Maps.atKey_put_same A (by simp[WideAt.IsKeyLit])];simp at hc;rw[hc]
 ·refine⟨?_,fun c hc z'=>?_⟩
  ·rw[Maps.has_put_other (by simp[e]),(E z hz).1];simp[e]
  ·rw[Maps.atKey_put_other (by simp[e])];simp only[if_neg e]at hc;exact(E z hz).2 c hc z'
theorem zms(a:Option Addr)(c:Nat)(l:List Tx)(w:World)(h:SegTx w a l)(hn:l.length*128≤140737488355328)(hf:∀t∈l,Few t):
  Calls Tryz.prog 150 #[.slice a l.length c] w fun e w'=>∃B n,e=.returned (.map (some B))∧MapI w' B n (lastK l l.length)∧w.heap.size≤B∧Below w.heap.size w w':=by
 have HS:=zaa h;have HW:=zaa hf;clear h hf;have A4:=fun w:World=>run_makeMap (P:=Tryz.prog) 213 w;go_enter Tryz.func150,Tryz.ntmps150;go_wp2;clear A4
 go_loopw [13] (fun i wr=>∃k n:Nat,k≤l.length∧i=.int .i64 k∧n≤24*k∧Hid (MapI wr w.heap.size n (lastK l k))∧Hid (Below w.heap.size w wr)) (fun i _=>l.length - (intOf i).toNat)
 case atStart=>exact⟨0,0,Nat.zero_le _,rfl,Nat.zero_le _,MapI.made w,zab _ _⟩
 case round=>
  obtain⟨N,A6⟩:∃N,N=wr:=⟨_,rfl⟩;subst A6;obtain⟨k,n,hk,rfl,A8,J,A⟩:=hrel;have B1:=MapI.lt J.o;by_cases hlt:k<l.length
  ·obtain⟨b2,off,rfl,hb,hc⟩:=HS.o.resolve_left (by intro e;rw[e]at hlt;simp at hlt);obtain⟨t,X⟩:∃t,t=l.getD k txz:=⟨_,rfl⟩;have HX:Hid (l[k]?=some t):=by rw[X];exact z1l hlt
   have Y:=hc k hlt;rw[←X]at Y;obtain⟨a0,c0,a1,c1,r,d,⟨y,x1,x2,x3,x4,x5,x6,u,x8,x9⟩,hT⟩:=Y;obtain⟨s1,_,s3,_,_,_⟩:=hT.rows
   replace y:=zac A.o hb y
   replace x1:=zac A.o hb x1
   replace x2:=zac A.o hb x2
   replace x3:=zac A.o hb x3
   replace x4:=zac A.o hb x4
   replace x5:=zac A.o hb x5
   replace x6:=zac A.o hb x6
   replace u:=zac A.o hb u
   replace x8:=zac A.o hb x8
   replace x9:=zac A.o hb x9
   obtain⟨w1,w2,w3,w4⟩:=HW.o t (List.mem_of_getElem? HX.o);have HM:=zaa s1;have HR:=zaa s3;have W3:=zaa w3;have W4:=zaa w4;have HD:=zaa (zy2 X);have A7:(k:Int)<(l.length:Int):=by omega
   have b:(Lit.int .i64 (k:Int)).wf=true:=wfI (by omega) (by omega);have Z:=zaa b;clear X hc hT s1 s3 w3 w4 b;generalize lastK l k=f at *;go_wp2;clear y x1 x2 x3 x4 x5 x6 u x8 x9
   go_loopw [21] (fun i wr=>∃q n:Nat,q≤t.rev.length∧i=.int .i64 q∧n≤24*k+q∧Hid (MapI wr w.heap.size n (z4q t k f q))∧Hid (wr.heap[N.heap.size]?=some (.cells #[.int .i64 t.seq,.slice a0 t.info.length c0,.slice a1 t.data.length c1,.slice r t.rev.length d,.bool t.h0.on,.int .i64 t.h0.left,.bool t.h1.on,.int .i64 t.h1.left,.bool t.h2.on,.int .i64 t.h2.left] 40 (0,0)))∧N.heap.size<wr.heap.size∧Hid (Below w.heap.size w wr)) (fun i _=>t.rev.length - (intOf i).toNat)
   case atStart=>exact⟨0,n,Nat.zero_le _,rfl,by omega,J.o.below (zab _ _),heap_alloc_new N _,by simp,zae A.o (zab _ _)⟩
   case round=>
    obtain⟨q,n2,hq,rfl,B0,D,K1,S,C⟩:=hrel;by_cases hq2:q<t.rev.length
    ·obtain⟨b3,A1,rfl,M,F⟩:=HR.o.resolve_left (by intro e;rw[e]at hq2;simp at hq2);obtain⟨x,K⟩:∃x,x=t.rev.getD q 0:=⟨_,rfl⟩;have g3:=zac C.o M (F q hq2);rw[←K]at g3;have E:Hid (t.rev[q]?=some x):=by rw[K];exact zce _ _ _ hq2
     have O:=W3.o x (List.mem_of_getElem? E.o);have m:=zaa (zy1 E.o k f);have A5:(q:Int)<(t.rev.length:Int):=by omega
     obtain⟨L,A0,U,I⟩:=D.o.store x (k:Int) (wfI (by omega) (by omega)) Z.o (by unfold maxLen;omega);clear K F E;go_wp2;have R:=zaa U;have Q:Hid (Below w.heap.size w L):=C.o.grown I C.o.size (fun j hj=>by cases hj;exact Nat.le_refl _);have K2:Hid (L.heap[N.heap.size]?=_):=(I.block _ S (by intro e;have:=Option.some.inj e;omega)).trans K1.o;have A2:=Nat.lt_of_lt_of_le S I.size
     go_roundw
     case rel=>exact⟨q+1,n2+1,by omega,by go_num,by omega,by rw[m.o];exact R,K2,A2,Q⟩
     case measure=>simp[intOf];omega
    ·have e:q=t.rev.length:=by omega
     subst e;rw[zwf]at D;have A5:¬((t.rev.length:Int)<(t.rev.length:Int)):=by omega
     obtain⟨⟨y0,y1,y2,y3,y4,y5,y6,y7,y8,y9⟩,_⟩:=zaj K1.o;go_wp2;clear y0 y1 y2 y3 y4 y5 y6 y7 y8 y9 K1 S
     go_loopw [32] (fun i wr=>∃p n:Nat,p≤t.info.length∧i=.int .i64 p∧n≤24*k+12+p∧Hid (MapI wr w.heap.size n (zp8 t k f p))∧Hid (Below w.heap.size w wr)) (fun i _=>t.info.length - (intOf i).toNat)
     case atStart=>exact⟨0,n2,Nat.zero_le _,rfl,by omega,D,C⟩
     case round=>
      clear D C;obtain⟨p,n3,hp,rfl,A9,D,C⟩:=hrel;by_cases hp2:p<t.info.length
      ·obtain⟨b3,A1,rfl,M,F⟩:=HM.o.resolve_left (by intro e;rw[e]at hp2;simp at hp2);obtain⟨x,K⟩:∃x,x=t.info.getD p (0,ByteArray.empty):=⟨_,rfl⟩;obtain⟨g1,z⟩:=F p hp2
       replace g1:=zac C.o M g1
       replace z:=zac C.o M z
       rw[←K]at g1 z;have E:Hid (t.info[p]?=some x):=by rw[K];exact zce _ _ _ hp2
       have O:=W4.o x (List.mem_of_getElem? E.o);have m:=zaa (zwe E.o k f);have A3:(p:Int)<(t.info.length:Int):=by omega
       clear K F E;obtain⟨nn,s⟩:=x;obtain⟨L,A0,U,I⟩:=(D.o.below (zab wr (.cells #[.int .i64 nn,.string s] 84 (0,0)))).store nn (k:Int) (wfI (by have:=O.1;simp at this;omega) (by have:=O.2;simp at this;omega)) Z.o (by unfold maxLen;omega);go_wp2;have R:=zaa U;have Q:Hid (Below w.heap.size w L):=(zae C.o (zab _ _)).grown I (zae C.o (zab _ _)).size (fun j hj=>by cases hj;exact Nat.le_refl _)
       go_roundw
       case rel=>exact⟨p+1,n3+1,by omega,by go_num,by omega,by rw[m.o];exact R,Q⟩
       case measure=>simp[intOf];omega
      ·have e:p=t.info.length:=by omega
       subst e;have A3:¬((t.info.length:Int)<(t.info.length:Int)):=by omega
       go_wp2
       go_roundw
       case rel=>exact⟨k+1,n3,by omega,by go_num,by omega,by rw[←HD.o];exact D,C⟩
       case measure=>simp[intOf];omega
  ·have e:k=l.length:=by omega
   subst e;go_wp2;go_ret;exact⟨_,_,rfl,J.o,Nat.le_refl _,A.o⟩
