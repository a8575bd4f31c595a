/-
  
-/
import Derived.Test.YtjnpndfpajjihacGreatGrTopOrdered3
import Derived.Maps.Own
import Derived.Maps.OwnSet
set_option maxRecDepth 100000
set_option maxHeartbeats 40000000
namespace Go.Proofs.YtjnpndfpajjihacGreat
open Go.Proofs.Tryz
open Go.RowKit
theorem z5f:Maps.Keyed prog 3:=Maps.int_keyed underlying3
theorem z58(w:World):(zeroValue 3).run prog w=.ok (.int .i64 0) w:=by kernel_rfl
theorem z3t(w:World):(zeroValue 84).run prog w=.ok (.agg #[.int .i64 0,.string ⟨#[]⟩]) w:=by kernel_rfl
def MapI (w:World)(B n:Nat)(f:Int→Int):Prop:=
 ∃D:DataW Unit,w.ownsMap prog 3 (plainElem prog 3) B n D∧∀x:Int,(Lit.int .i64 x).wf=true→D.atKey (.int .i64 x) (.lit (.int .i64 0))=.lit (.int .i64 (f x))
theorem MapI.made(w:World):MapI (w.alloc (.map #[] 0)) w.heap.size 0 (fun _=>0):=
 ⟨.map [],World.ownsMap_made w _ _ _,fun x _=>by simp[DataW.atKey]⟩
theorem MapI.lt{w:World}{B n:Nat}{f:Int→Int}(h:MapI w B n f):B<w.heap.size:=by
 obtain⟨D,A,_⟩:=h;exact A.lt
theorem MapI.block{w w':World}{B n:Nat}{f:Int→Int}(h:MapI w B n f)(hb:w'.heap[B]?=w.heap[B]?):MapI w' B n f:=by
 obtain⟨D,C,F⟩:=h;obtain⟨es,clock,A,E⟩:=C;exact⟨D,⟨es,clock,hb.trans A,E⟩,F⟩
theorem MapI.below{w w':World}{B n:Nat}{f:Int→Int}(h:MapI w B n f)(hb:Below w.heap.size w w'):MapI w' B n f:=h.block (hb.block _ h.lt)
def zlf (v:Value):Option (DataW Unit×List MemPlace):=
 match v with
 |.agg c=>match c.toList with
  |[.int .i64 a,.string s]=>some (.agg [.lit (.int .i64 a),.lit (.string s.data.toList)],[])
  |_=>none
 |_=>none
def z2i (c:Int×ByteArray):DataW Unit:=.agg [.lit (.int .i64 c.1),.lit (.string c.2.data.toList)]
theorem zih(a:Int)(s:ByteArray):zlf (.agg #[.int .i64 a,.string s])=some (z2i (a,s),[]):=rfl
theorem zkf{v:Value}{a:Int}{s:ByteArray}{ps:List MemPlace}(h:zlf v=some (z2i (a,s),ps)):v=.agg #[.int .i64 a,.string s]:=by
 unfold zlf at h;split at h
 ·rename_i c;split at h
  ·rename_i C A D;simp only[z2i,Option.some.injEq,Prod.mk.injEq,DataW.agg.injEq,List.cons.injEq,DataW.lit.injEq,Lit.int.injEq,Lit.string.injEq,and_true,true_and]at h;obtain⟨⟨rfl,B⟩,_⟩:=h
   have e:A=s:=by
    cases A with|mk d=>cases s with|mk d2=>
    simp only at B
    congr 1
    exact Array.ext' B
   subst e
   have:c=#[.int .i64 C,.string A]:=by
    apply Array.ext';rw[D]
   rw[this]
  ·cases h
 ·cases h
def MapC (w:World)(B n:Nat)(f:Int→Option (Int×ByteArray)):Prop:=
 ∃D:DataW Unit,w.ownsMap prog 3 zlf B n D∧∀x:Int,(Lit.int .i64 x).wf=true→Maps.has D (.int .i64 x)=(f x).isSome∧∀c,f x=some c→∀z,D.atKey (.int .i64 x) z=z2i c
theorem MapC.made(w:World):MapC (w.alloc (.map #[] 0)) w.heap.size 0 (fun _=>none):=
 ⟨.map [],World.ownsMap_made w _ _ _,fun x _=>⟨rfl,fun c h=>by cases h⟩⟩
theorem MapC.lt{w:World}{B n:Nat}{f:Int→Option (Int×ByteArray)}(h:MapC w B n f):B<w.heap.size:=by
 obtain⟨D,A,_⟩:=h;exact A.lt
theorem MapC.block{w w':World}{B n:Nat}{f:Int→Option (Int×ByteArray)}(h:MapC w B n f)(hb:w'.heap[B]?=w.heap[B]?):MapC w' B n f:=by
 obtain⟨D,C,F⟩:=h;obtain⟨es,clock,A,E⟩:=C;exact⟨D,⟨es,clock,hb.trans A,E⟩,F⟩
theorem MapC.below{w w':World}{B n:Nat}{f:Int→Option (Int×ByteArray)}(h:MapC w B n f)(hb:Below w.heap.size w w'):MapC w' B n f:=h.block (hb.block _ h.lt)
theorem wfI{x:Int}(h0: -9223372036854775808≤x)(h1:x≤9223372036854775807):(Lit.int .i64 x).wf=true:=by
 have B:IntKind.i64.min= -9223372036854775808:=by decide
 have A:IntKind.i64.max=9223372036854775807:=by decide
 simp only[Lit.wf,B,A,Bool.and_eq_true,decide_eq_true_eq];exact⟨h0,h1⟩
def Few (t:Tx):Prop:=t.rev.length≤12∧t.info.length≤12∧(∀x∈t.rev,0≤x∧x≤11)∧∀x∈t.info,0≤x.1∧x.1≤11
def zwg (t:Tx)(b:Int):Bool:=zay t.rev b||zay (blksOf t.info) b
def lastK (l:List Tx):Nat→Int→Int
 |0=>fun _=>0
 |k+1=>fun b=>if zwg (l.getD k txz) b=true then(k:Int) else lastK l k b
def z4w (t:Tx)(k:Nat)(f:Int→Int)(q:Nat):Int→Int:=fun b=>if zay (t.rev.take q) b=true then(k:Int) else f b
def zqg (t:Tx)(k:Nat)(f:Int→Int)(p:Nat):Int→Int:=fun b=>if(zay t.rev b||zay (blksOf (t.info.take p)) b)=true then(k:Int) else f b
theorem zy6{t:Tx}{q:Nat}{x:Int}(h:t.rev[q]?=some x)(k:Nat)(f:Int→Int):z4w t k f (q+1)=fun z=>if z=x then(k:Int) else z4w t k f q z:=by
 funext z
 unfold z4w;rw[List.take_add_one,h,zay,zay,List.any_append];by_cases e:z=x
 ·simp[e]
 ·have:¬x=z:=fun y=>e y.symm;simp[e,this]
theorem zwh{t:Tx}{p:Nat}{x:Int×ByteArray}(h:t.info[p]?=some x)(k:Nat)(f:Int→Int):zqg t k f (p+1)=fun z=>if z=x.1 then(k:Int) else zqg t k f p z:=by
 funext z
 unfold zqg blksOf;rw[List.take_add_one,h,List.map_append,zay,zay,zay,List.any_append];by_cases e:z=x.1
 ·simp[e]
 ·have:¬x.1=z:=fun y=>e y.symm;simp[e,this]
theorem zwi(t:Tx)(k:Nat)(f:Int→Int):z4w t k f t.rev.length=zqg t k f 0:=by
 funext z
 unfold z4w zqg;rw[List.take_length];simp[blksOf,zay]
theorem zy7{l:List Tx}{k:Nat}{t:Tx}(h:t=l.getD k txz):zqg t k (lastK l k) t.info.length=lastK l (k+1):=by
 funext z
 rw[lastK,←h];unfold zqg zwg;rw[List.take_length]
open Go.Proofs.Tryz
theorem MapI.look{w:World}{B n:Nat}{f:Int→Int}(h:MapI w B n f)(x:Int)(hx:(Lit.int .i64 x).wf=true):
  (Instr.lookup 213 (.map (some B)) (.int .i64 x) false).run prog w=.ok (.int .i64 (f x)) w:=by
 obtain⟨D,E,F⟩:=h;obtain⟨c,C,A,_⟩:=E.lookup_int z5f underlying213 underlying3 (z58 w) (Maps.keyOf_int_mk underlying3 hx)
 rw[F x hx]at A
 simp only[DataW.lit.injEq,Lit.int.injEq,true_and]at A
 rw[C,A]
theorem MapI.store{w:World}{B n:Nat}{f:Int→Int}(h:MapI w B n f)(x y:Int)(hx:(Lit.int .i64 x).wf=true)(hy:(Lit.int .i64 y).wf=true)(hn:n<maxLen):
  ∃w',(Instr.mapUpdate 213 (.map (some B)) (.int .i64 x) (.int .i64 y)).run prog w=.ok () w'∧MapI w' B (n+1) (fun z=>if z=x then y else f z)∧w.grownBy w' (some B):=by
 obtain⟨D,C,J⟩:=h;have E:=C.isMap;obtain⟨w',A,F,I⟩:=C.update z5f underlying213 hn (Maps.keyOf_int_mk underlying3 hx) (plainElem_int underlying3 hy);refine⟨w',A,⟨_,F,fun z hz=>?_⟩,I⟩;by_cases e:z=x
 ·subst e;rw[Maps.atKey_put_same E (by simp[WideAt.IsKeyLit])];simp
 ·rw[Maps.atKey_put_other (by simp[e]),J z hz];simp[e]
theorem MapC.lookNone{w:World}{B n:Nat}{f:Int→Option (Int×ByteArray)}(h:MapC w B n f)(x:Int)(hx:(Lit.int .i64 x).wf=true)(hf:f x=none):
  (Instr.lookup 175 (.map (some B)) (.int .i64 x) true).run prog w=.ok (.tuple #[.agg #[.int .i64 0,.string ⟨#[]⟩],.bool false]) w:=by
 obtain⟨D,I,J⟩:=h;obtain⟨v,ps,C,F⟩:=I.look_ok z5f underlying175 (z3t w) (zih 0 ⟨#[]⟩) (Maps.keyOf_int_mk underlying3 hx);have E:=(J x hx).1;rw[hf]at E;have A:Maps.has D (.int .i64 x)=false:=E;rw[Maps.atKey_of_not_has A]at F;rw[C,A,zkf F]
theorem MapC.lookSome{w:World}{B n:Nat}{f:Int→Option (Int×ByteArray)}(h:MapC w B n f)(x:Int)(hx:(Lit.int .i64 x).wf=true){a:Int}{s:ByteArray}(hf:f x=some (a,s)):
  (Instr.lookup 175 (.map (some B)) (.int .i64 x) true).run prog w=.ok (.tuple #[.agg #[.int .i64 a,.string s],.bool true]) w:=by
 obtain⟨D,J,I⟩:=h;obtain⟨v,ps,A,E⟩:=J.look_ok z5f underlying175 (z3t w) (zih 0 ⟨#[]⟩) (Maps.keyOf_int_mk underlying3 hx);have C:=(I x hx).1;rw[hf]at C;have F:Maps.has D (.int .i64 x)=true:=C;rw[(I x hx).2 _ hf]at E;rw[A,F,zkf E]
theorem MapC.store{w:World}{B n:Nat}{f:Int→Option (Int×ByteArray)}(h:MapC w B n f)(x a:Int)(s:ByteArray)(hx:(Lit.int .i64 x).wf=true)(hn:n<maxLen):
  ∃w',(Instr.mapUpdate 175 (.map (some B)) (.int .i64 x) (.agg #[.int .i64 a,.string s])).run prog w=.ok () w'∧MapC w' B (n+1) (fun z=>if z=x then some (a,s) else f z)∧w.grownBy w' (some B):=by
 obtain⟨D,E,I⟩:=h;have A:=E.isMap;obtain⟨w',C,F,J⟩:=E.update z5f underlying175 hn (Maps.keyOf_int_mk underlying3 hx) (zih a s);refine⟨w',C,⟨_,F,fun z hz=>?_⟩,J⟩;by_cases e:z=x
 ·subst e;refine⟨?_,fun c hc z'=>?_⟩
  ·rw[Maps.has_put_same A (by simp[WideAt.IsKeyLit])];simp
  ·rw[Maps.atKey_put_same A (by simp[WideAt.IsKeyLit])];simp at hc;rw[hc]
 ·refine⟨?_,fun c hc z'=>?_⟩
  ·rw[Maps.has_put_other (by simp[e]),(I z hz).1];simp[e]
  ·rw[Maps.atKey_put_other (by simp[e])];simp only[if_neg e]at hc;exact(I z hz).2 c hc z'
theorem zm4(a:Option Addr)(c:Nat)(l:List Tx)(w:World)(h:SegTx w a l)(hn:l.length*128≤140737488355328)(hf:∀t∈l,Few t):
  Calls Tryz.prog 150 #[.slice a l.length c] w fun e w'=>∃B n,e=.returned (.map (some B))∧MapI w' B n (lastK l l.length)∧w.heap.size≤B∧Below w.heap.size w w':=by
 have HS:=zab h;have HW:=zab hf;clear h hf;have A6:=fun w:World=>run_makeMap (P:=Tryz.prog) 213 w;go_enter Tryz.func150,Tryz.ntmps150;go_wp2;clear A6
 go_loopw [13] (fun i wr=>∃k n:Nat,k≤l.length∧i=.int .i64 k∧n≤24*k∧Hid (MapI wr w.heap.size n (lastK l k))∧Hid (Below w.heap.size w wr)) (fun i _=>l.length - (intOf i).toNat)
 case atStart=>exact⟨0,0,Nat.zero_le _,rfl,Nat.zero_le _,MapI.made w,zaa _ _⟩
 case round=>
  obtain⟨N,A3⟩:∃N,N=wr:=⟨_,rfl⟩;subst A3;obtain⟨k,n,hk,rfl,B0,K,A⟩:=hrel;have B2:=MapI.lt K.o;by_cases hlt:k<l.length
  ·obtain⟨b2,B1,rfl,hb,hc⟩:=HS.o.resolve_left (by intro e;rw[e]at hlt;simp at hlt);obtain⟨t,X⟩:∃t,t=l.getD k txz:=⟨_,rfl⟩;have HX:Hid (l[k]?=some t):=by rw[X];exact z1u hlt
   have Z:=hc k hlt;rw[←X]at Z;obtain⟨a0,c0,a1,c1,r,d,⟨m,x1,y,x3,u,x5,x6,x7,z,x9⟩,hT⟩:=Z;obtain⟨s1,_,s3,_,_,_⟩:=hT.rows
   replace m:=zac A.o hb m
   replace x1:=zac A.o hb x1
   replace y:=zac A.o hb y
   replace x3:=zac A.o hb x3
   replace u:=zac A.o hb u
   replace x5:=zac A.o hb x5
   replace x6:=zac A.o hb x6
   replace x7:=zac A.o hb x7
   replace z:=zac A.o hb z
   replace x9:=zac A.o hb x9
   obtain⟨w1,w2,w3,w4⟩:=HW.o t (List.mem_of_getElem? HX.o);have HM:=zab s1;have HR:=zab s3;have W3:=zab w3;have W4:=zab w4;have HD:=zab (zy7 X);have A7:(k:Int)<(l.length:Int):=by omega
   have Y:(Lit.int .i64 (k:Int)).wf=true:=wfI (by omega) (by omega);have b:=zab Y;clear X hc hT s1 s3 w3 w4 Y;generalize lastK l k=f at *;go_wp2;clear m x1 y x3 u x5 x6 x7 z x9
   go_loopw [21] (fun i wr=>∃q n:Nat,q≤t.rev.length∧i=.int .i64 q∧n≤24*k+q∧Hid (MapI wr w.heap.size n (z4w t k f q))∧Hid (wr.heap[N.heap.size]?=some (.cells #[.int .i64 t.seq,.slice a0 t.info.length c0,.slice a1 t.data.length c1,.slice r t.rev.length d,.bool t.h0.on,.int .i64 t.h0.left,.bool t.h1.on,.int .i64 t.h1.left,.bool t.h2.on,.int .i64 t.h2.left] 40 (0,0)))∧N.heap.size<wr.heap.size∧Hid (Below w.heap.size w wr)) (fun i _=>t.rev.length - (intOf i).toNat)
   case atStart=>exact⟨0,n,Nat.zero_le _,rfl,by omega,K.o.below (zaa _ _),heap_alloc_new N _,by simp,zae A.o (zaa _ _)⟩
   case round=>
    obtain⟨q,n2,hq,rfl,A8,D,K1,U,C⟩:=hrel;by_cases hq2:q<t.rev.length
    ·obtain⟨b3,A0,rfl,M,I⟩:=HR.o.resolve_left (by intro e;rw[e]at hq2;simp at hq2);obtain⟨x,J⟩:∃x,x=t.rev.getD q 0:=⟨_,rfl⟩;have g3:=zac C.o M (I q hq2);rw[←J]at g3;have E:Hid (t.rev[q]?=some x):=by rw[J];exact zcd _ _ _ hq2
     have S:=W3.o x (List.mem_of_getElem? E.o);have HF:=zab (zy6 E.o k f);have A5:(q:Int)<(t.rev.length:Int):=by omega
     obtain⟨L,A1,Q,F⟩:=D.o.store x (k:Int) (wfI (by omega) (by omega)) b.o (by unfold maxLen;omega);clear J I E;go_wp2;have R:=zab Q;have O:Hid (Below w.heap.size w L):=C.o.grown F C.o.size (fun j hj=>by cases hj;exact Nat.le_refl _);have K2:Hid (L.heap[N.heap.size]?=_):=(F.block _ U (by intro e;have:=Option.some.inj e;omega)).trans K1.o;have A4:=Nat.lt_of_lt_of_le U F.size
     go_roundw
     case rel=>exact⟨q+1,n2+1,by omega,by go_num,by omega,by rw[HF.o];exact R,K2,A4,O⟩
     case measure=>simp[intOf];omega
    ·have e:q=t.rev.length:=by omega
     subst e;rw[zwi]at D;have A5:¬((t.rev.length:Int)<(t.rev.length:Int)):=by omega
     obtain⟨⟨y0,y1,y2,y3,y4,y5,y6,y7,y8,y9⟩,_⟩:=zaj K1.o;go_wp2;clear y0 y1 y2 y3 y4 y5 y6 y7 y8 y9 K1 U
     go_loopw [32] (fun i wr=>∃p n:Nat,p≤t.info.length∧i=.int .i64 p∧n≤24*k+12+p∧Hid (MapI wr w.heap.size n (zqg t k f p))∧Hid (Below w.heap.size w wr)) (fun i _=>t.info.length - (intOf i).toNat)
     case atStart=>exact⟨0,n2,Nat.zero_le _,rfl,by omega,D,C⟩
     case round=>
      clear D C;obtain⟨p,n3,hp,rfl,A9,D,C⟩:=hrel;by_cases hp2:p<t.info.length
      ·obtain⟨b3,A0,rfl,M,I⟩:=HM.o.resolve_left (by intro e;rw[e]at hp2;simp at hp2);obtain⟨x,J⟩:∃x,x=t.info.getD p (0,ByteArray.empty):=⟨_,rfl⟩;obtain⟨g1,g2⟩:=I p hp2
       replace g1:=zac C.o M g1
       replace g2:=zac C.o M g2
       rw[←J]at g1 g2;have E:Hid (t.info[p]?=some x):=by rw[J];exact zcd _ _ _ hp2
       have S:=W4.o x (List.mem_of_getElem? E.o);have HF:=zab (zwh E.o k f);have A2:(p:Int)<(t.info.length:Int):=by omega
       clear J I E;obtain⟨nn,s⟩:=x;obtain⟨L,A1,Q,F⟩:=(D.o.below (zaa wr (.cells #[.int .i64 nn,.string s] 84 (0,0)))).store nn (k:Int) (wfI (by have:=S.1;simp at this;omega) (by have:=S.2;simp at this;omega)) b.o (by unfold maxLen;omega);go_wp2;have R:=zab Q;have O:Hid (Below w.heap.size w L):=(zae C.o (zaa _ _)).grown F (zae C.o (zaa _ _)).size (fun j hj=>by cases hj;exact Nat.le_refl _)
       go_roundw
       case rel=>exact⟨p+1,n3+1,by omega,by go_num,by omega,by rw[HF.o];exact R,O⟩
       case measure=>simp[intOf];omega
      ·have e:p=t.info.length:=by omega
       subst e;have A2:¬((t.info.length:Int)<(t.info.length:Int)):=by omega
       go_wp2
       go_roundw
       case rel=>exact⟨k+1,n3,by omega,by go_num,by omega,by rw[←HD.o];exact D,C⟩
       case measure=>simp[intOf];omega
  ·have e:k=l.length:=by omega
   subst e;go_wp2;go_ret;exact⟨_,_,rfl,K.o,Nat.le_refl _,A.o⟩
