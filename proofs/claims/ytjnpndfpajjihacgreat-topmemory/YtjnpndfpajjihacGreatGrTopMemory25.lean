/-
  
-/
import Derived.Test.YtjnpndfpajjihacGreatGrTopMemory3
import Derived.Maps.Own
import Derived.Maps.OwnSet
set_option maxRecDepth 100000
set_option maxHeartbeats 40000000
namespace Go.Proofs.YtjnpndfpajjihacGreat
open Go.RowKit
theorem z39:Maps.Keyed Tryz.prog 3:=Maps.int_keyed Tryz.underlying3
theorem z45 (w:World):(zeroValue 3).run Tryz.prog w=.ok (.int .i64 0) w:=by kernel_rfl
theorem z2q (w:World):(zeroValue 84).run Tryz.prog w=.ok (.agg #[.int .i64 0,.string ⟨#[]⟩]) w:=by kernel_rfl
def MapI (w:World)(B n:Nat)(f:Int→Int):Prop:=
 ∃D:DataW Unit,w.ownsMap Tryz.prog 3 (plainElem Tryz.prog 3) B n D∧∀x:Int,(Lit.int .i64 x).wf=true→D.atKey (.int .i64 x) (.lit (.int .i64 0))=.lit (.int .i64 (f x))
theorem MapI.made (w:World):MapI (w.alloc (.map #[] 0)) w.heap.size 0 (fun _=>0):=
 ⟨.map [],World.ownsMap_made w _ _ _,fun x _=>by simp[DataW.atKey]⟩
theorem MapI.lt {w:World}{B n:Nat}{f:Int→Int}(h:MapI w B n f):B<w.heap.size:=by
 obtain⟨D,ho,_⟩:=h;exact ho.lt
theorem MapI.block {w w':World}{B n:Nat}{f:Int→Int}(h:MapI w B n f)(hb:w'.heap[B]?=w.heap[B]?):MapI w' B n f:=by
 obtain⟨D,ho,ha⟩:=h;obtain⟨es,clock,h1,h2⟩:=ho;exact⟨D,⟨es,clock,hb.trans h1,h2⟩,ha⟩
theorem MapI.below {w w':World}{B n:Nat}{f:Int→Int}(h:MapI w B n f)(hb:Below w.heap.size w w'):MapI w' B n f:=h.block (hb.block _ h.lt)
def zkw (v:Value):Option (DataW Unit×List MemPlace):=
 match v with
 |.agg c=>match c.toList with
  |[.int .i64 a,.string s]=>some (.agg [.lit (.int .i64 a),.lit (.string s.data.toList)],[])
  |_=>none
 |_=>none
def z1f (c:Int×ByteArray):DataW Unit:=.agg [.lit (.int .i64 c.1),.lit (.string c.2.data.toList)]
theorem zh6 (a:Int)(s:ByteArray):zkw (.agg #[.int .i64 a,.string s])=some (z1f (a,s),[]):=rfl
theorem zjx {v:Value}{a:Int}{s:ByteArray}{ps:List MemPlace}(h:zkw v=some (z1f (a,s),ps)):v=.agg #[.int .i64 a,.string s]:=by
 unfold zkw at h;split at h
 ·rename_i c
  split at h
  ·rename_i a' s' hc
   simp only[z1f,Option.some.injEq,Prod.mk.injEq,DataW.agg.injEq,List.cons.injEq,DataW.lit.injEq,Lit.int.injEq,Lit.string.injEq,and_true,true_and] at h;obtain⟨⟨rfl,h2⟩,_⟩:=h
   have e:s'=s:=by
    cases s' with|mk d=>cases s with|mk d2=>
    simp only at h2
    congr 1
    exact Array.ext' h2
   subst e
   have:c=#[.int .i64 a',.string s']:=by
    apply Array.ext';rw[hc]
   rw[this]
  ·cases h
 ·cases h
def MapC (w:World)(B n:Nat)(f:Int→Option (Int×ByteArray)):Prop:=
 ∃D:DataW Unit,w.ownsMap Tryz.prog 3 zkw B n D∧∀x:Int,(Lit.int .i64 x).wf=true→Maps.has D (.int .i64 x)=(f x).isSome∧∀c,f x=some c→∀z,D.atKey (.int .i64 x) z=z1f c
theorem MapC.made (w:World):MapC (w.alloc (.map #[] 0)) w.heap.size 0 (fun _=>none):=
 ⟨.map [],World.ownsMap_made w _ _ _,fun x _=>⟨rfl,fun c h=>by cases h⟩⟩
theorem MapC.lt {w:World}{B n:Nat}{f:Int→Option (Int×ByteArray)}(h:MapC w B n f):B<w.heap.size:=by
 obtain⟨D,ho,_⟩:=h;exact ho.lt
theorem MapC.block {w w':World}{B n:Nat}{f:Int→Option (Int×ByteArray)}(h:MapC w B n f)(hb:w'.heap[B]?=w.heap[B]?):MapC w' B n f:=by
 obtain⟨D,ho,ha⟩:=h;obtain⟨es,clock,h1,h2⟩:=ho;exact⟨D,⟨es,clock,hb.trans h1,h2⟩,ha⟩
theorem MapC.below {w w':World}{B n:Nat}{f:Int→Option (Int×ByteArray)}(h:MapC w B n f)(hb:Below w.heap.size w w'):MapC w' B n f:=h.block (hb.block _ h.lt)
theorem wfI {x:Int}(h0: -9223372036854775808≤x)(h1:x≤9223372036854775807):(Lit.int .i64 x).wf=true:=by
 have e1:IntKind.i64.min= -9223372036854775808:=by decide
 have e2:IntKind.i64.max=9223372036854775807:=by decide
 simp only[Lit.wf,e1,e2,Bool.and_eq_true,decide_eq_true_eq];exact⟨h0,h1⟩
def Few (t:Tx):Prop:=t.rev.length≤12∧t.info.length≤12∧(∀x∈t.rev,0≤x∧x≤11)∧∀x∈t.info,0≤x.1∧x.1≤11
def zvm (t:Tx)(b:Int):Bool:=zbm t.rev b||zbm (blksOf t.info) b
def lastK (l:List Tx):Nat→Int→Int
 |0=>fun _=>0
 |k+1=>fun b=>if zvm (l.getD k txz) b=true then(k:Int) else lastK l k b
def z3r (t:Tx)(k:Nat)(f:Int→Int)(q:Nat):Int→Int:=fun b=>if zbm (t.rev.take q) b=true then(k:Int) else f b
def zpt (t:Tx)(k:Nat)(f:Int→Int)(p:Nat):Int→Int:=fun b=>if(zbm t.rev b||zbm (blksOf (t.info.take p)) b)=true then(k:Int) else f b
theorem zyc {t:Tx}{q:Nat}{x:Int}(h:t.rev[q]?=some x)(k:Nat)(f:Int→Int):z3r t k f (q+1)=fun z=>if z=x then(k:Int) else z3r t k f q z:=by
 funext z
 unfold z3r;rw[List.take_add_one,h,zbm,zbm,List.any_append];by_cases e:z=x
 ·simp[e]
 ·have:¬x=z:=fun y=>e y.symm
  simp[e,this]
theorem zvn {t:Tx}{p:Nat}{x:Int×ByteArray}(h:t.info[p]?=some x)(k:Nat)(f:Int→Int):zpt t k f (p+1)=fun z=>if z=x.1 then(k:Int) else zpt t k f p z:=by
 funext z
 unfold zpt blksOf;rw[List.take_add_one,h,List.map_append,zbm,zbm,zbm,List.any_append];by_cases e:z=x.1
 ·simp[e]
 ·have:¬x.1=z:=fun y=>e y.symm
  simp[e,this]
theorem zvo (t:Tx)(k:Nat)(f:Int→Int):z3r t k f t.rev.length=zpt t k f 0:=by
 funext z
 unfold z3r zpt;rw[List.take_length];simp[blksOf,zbm]
theorem zyd {l:List Tx}{k:Nat}{t:Tx}(h:t=l.getD k txz):zpt t k (lastK l k) t.info.length=lastK l (k+1):=by
 funext z
 rw[lastK,←h];unfold zpt zvm;rw[List.take_length]
theorem MapI.look {w:World}{B n:Nat}{f:Int→Int}(h:MapI w B n f)(x:Int)(hx:(Lit.int .i64 x).wf=true):
  (Instr.lookup 213 (.map (some B)) (.int .i64 x) false).run Tryz.prog w=.ok (.int .i64 (f x)) w:=by
 obtain⟨D,ho,ha⟩:=h;obtain⟨c,hrun,hat,_⟩:=ho.lookup_int z39 Tryz.underlying213 Tryz.underlying3 (z45 w) (Maps.keyOf_int_mk Tryz.underlying3 hx)
 rw[ha x hx] at hat
 simp only[DataW.lit.injEq,Lit.int.injEq,true_and] at hat
 rw[hrun,hat]
theorem MapI.store {w:World}{B n:Nat}{f:Int→Int}(h:MapI w B n f)(x y:Int)(hx:(Lit.int .i64 x).wf=true)(hy:(Lit.int .i64 y).wf=true)(hn:n<maxLen):
  ∃w',(Instr.mapUpdate 213 (.map (some B)) (.int .i64 x) (.int .i64 y)).run Tryz.prog w=.ok () w'∧MapI w' B (n+1) (fun z=>if z=x then y else f z)∧w.grownBy w' (some B):=by
 obtain⟨D,ho,ha⟩:=h;have him:=ho.isMap;obtain⟨w',hrun,ho',hg⟩:=ho.update z39 Tryz.underlying213 hn (Maps.keyOf_int_mk Tryz.underlying3 hx) (plainElem_int Tryz.underlying3 hy);refine⟨w',hrun,⟨_,ho',fun z hz=>?_⟩,hg⟩;by_cases e:z=x
 ·subst e
  rw[Maps.atKey_put_same him (by simp[WideAt.IsKeyLit])];simp
 ·rw[Maps.atKey_put_other (by simp[e]),ha z hz]
  simp[e]
theorem MapC.lookNone {w:World}{B n:Nat}{f:Int→Option (Int×ByteArray)}(h:MapC w B n f)(x:Int)(hx:(Lit.int .i64 x).wf=true)(hf:f x=none):
  (Instr.lookup 175 (.map (some B)) (.int .i64 x) true).run Tryz.prog w=.ok (.tuple #[.agg #[.int .i64 0,.string ⟨#[]⟩],.bool false]) w:=by
 obtain⟨D,ho,ha⟩:=h;obtain⟨v,ps,hrun,hv⟩:=ho.look_ok z39 Tryz.underlying175 (z2q w) (zh6 0 ⟨#[]⟩) (Maps.keyOf_int_mk Tryz.underlying3 hx);have h1:=(ha x hx).1;rw[hf] at h1;have h1':Maps.has D (.int .i64 x)=false:=h1;rw[Maps.atKey_of_not_has h1'] at hv;rw[hrun,h1',zjx hv]
theorem MapC.lookSome {w:World}{B n:Nat}{f:Int→Option (Int×ByteArray)}(h:MapC w B n f)(x:Int)(hx:(Lit.int .i64 x).wf=true){a:Int}{s:ByteArray}(hf:f x=some (a,s)):
  (Instr.lookup 175 (.map (some B)) (.int .i64 x) true).run Tryz.prog w=.ok (.tuple #[.agg #[.int .i64 a,.string s],.bool true]) w:=by
 obtain⟨D,ho,ha⟩:=h;obtain⟨v,ps,hrun,hv⟩:=ho.look_ok z39 Tryz.underlying175 (z2q w) (zh6 0 ⟨#[]⟩) (Maps.keyOf_int_mk Tryz.underlying3 hx);have h1:=(ha x hx).1;rw[hf] at h1;have h1':Maps.has D (.int .i64 x)=true:=h1;rw[(ha x hx).2 _ hf] at hv;rw[hrun,h1',zjx hv]
theorem MapC.store {w:World}{B n:Nat}{f:Int→Option (Int×ByteArray)}(h:MapC w B n f)(x a:Int)(s:ByteArray)(hx:(Lit.int .i64 x).wf=true)(hn:n<maxLen):
  ∃w',(Instr.mapUpdate 175 (.map (some B)) (.int .i64 x) (.agg #[.int .i64 a,.string s])).run Tryz.prog w=.ok () w'∧MapC w' B (n+1) (fun z=>if z=x then some (a,s) else f z)∧w.grownBy w' (some B):=by
 obtain⟨D,ho,ha⟩:=h;have him:=ho.isMap;obtain⟨w',hrun,ho',hg⟩:=ho.update z39 Tryz.underlying175 hn (Maps.keyOf_int_mk Tryz.underlying3 hx) (zh6 a s);refine⟨w',hrun,⟨_,ho',fun z hz=>?_⟩,hg⟩;by_cases e:z=x
 ·subst e
  refine⟨?_,fun c hc z'=>?_⟩
  ·rw[Maps.has_put_same him (by simp[WideAt.IsKeyLit])];simp
  ·rw[Maps.atKey_put_same him (by simp[WideAt.IsKeyLit])]
   simp at hc;rw[hc]
 ·refine⟨?_,fun c hc z'=>?_⟩
  ·rw[Maps.has_put_other (by simp[e]),(ha z hz).1];simp[e]
  ·rw[Maps.atKey_put_other (by simp[e])]
   simp only[if_neg e] at hc;exact(ha z hz).2 c hc z'
theorem zmj (a:Option Addr)(c:Nat)(l:List Tx)(w:World)(h:SegTx w a l)(hn:l.length*128≤140737488355328)(hf:∀t∈l,Few t):
  Calls Tryz.prog 150 #[.slice a l.length c] w fun e w'=>∃B n,e=.returned (.map (some B))∧MapI w' B n (lastK l l.length)∧w.heap.size≤B∧Below w.heap.size w w':=by
 have HS:=zaa h;have HW:=zaa hf;clear h hf;have hmk:=fun w:World=>run_makeMap (P:=Tryz.prog) 213 w;go_enter Tryz.func150,Tryz.ntmps150;go_wp2;clear hmk
 go_loopw [13] (fun i wr=>∃k n:Nat,k≤l.length∧i=.int .i64 k∧n≤24*k∧Hid (MapI wr w.heap.size n (lastK l k))∧Hid (Below w.heap.size w wr)) (fun i _=>l.length - (intOf i).toNat)
 case atStart=>exact⟨0,0,Nat.zero_le _,rfl,Nat.zero_le _,MapI.made w,zab _ _⟩
 case round=>
  obtain⟨wo,hwo⟩:∃wo,wo=wr:=⟨_,rfl⟩;subst hwo;obtain⟨k,n,hk,rfl,hnk,hMap,hbr⟩:=hrel;have hwm:=MapI.lt hMap.o;by_cases hlt:k<l.length
  ·obtain⟨b2,off,rfl,hb,hc⟩:=HS.o.resolve_left (by intro e;rw[e] at hlt;simp at hlt)
   obtain⟨t,ht⟩:∃t,t=l.getD k txz:=⟨_,rfl⟩;have HX:Hid (l[k]?=some t):=by rw[ht];exact z0s hlt
   have hcj:=hc k hlt;rw[←ht] at hcj;obtain⟨a0,c0,a1,c1,r,d,⟨x0,x1,x2,x3,x4,x5,x6,x7,x8,x9⟩,hT⟩:=hcj;obtain⟨s1,_,s3,_,_,_⟩:=hT.rows
   replace x0:=zac hbr.o hb x0
   replace x1:=zac hbr.o hb x1
   replace x2:=zac hbr.o hb x2
   replace x3:=zac hbr.o hb x3
   replace x4:=zac hbr.o hb x4
   replace x5:=zac hbr.o hb x5
   replace x6:=zac hbr.o hb x6
   replace x7:=zac hbr.o hb x7
   replace x8:=zac hbr.o hb x8
   replace x9:=zac hbr.o hb x9
   obtain⟨w1,w2,w3,w4⟩:=HW.o t (List.mem_of_getElem? HX.o);have HM:=zaa s1;have HR:=zaa s3;have W3:=zaa w3;have W4:=zaa w4;have HD:=zaa (zyd ht);have hlt':(k:Int)<(l.length:Int):=by omega
   have hkw:(Lit.int .i64 (k:Int)).wf=true:=wfI (by omega) (by omega);have HKW:=zaa hkw;clear ht hc hT s1 s3 w3 w4 hkw;generalize lastK l k=f at *;go_wp2;clear x0 x1 x2 x3 x4 x5 x6 x7 x8 x9
   go_loopw [21] (fun i wr=>∃q n:Nat,q≤t.rev.length∧i=.int .i64 q∧n≤24*k+q∧Hid (MapI wr w.heap.size n (z3r t k f q))∧Hid (wr.heap[wo.heap.size]?=some (.cells #[.int .i64 t.seq,.slice a0 t.info.length c0,.slice a1 t.data.length c1,.slice r t.rev.length d,.bool t.h0.on,.int .i64 t.h0.left,.bool t.h1.on,.int .i64 t.h1.left,.bool t.h2.on,.int .i64 t.h2.left] 40 (0,0)))∧wo.heap.size<wr.heap.size∧Hid (Below w.heap.size w wr)) (fun i _=>t.rev.length - (intOf i).toNat)
   case atStart=>exact⟨0,n,Nat.zero_le _,rfl,by omega,hMap.o.below (zab _ _),heap_alloc_new wo _,by simp,zae hbr.o (zab _ _)⟩
   case round=>
    obtain⟨q,n2,hq,rfl,hn2,hM1,K1,hs1,hb1⟩:=hrel;by_cases hq2:q<t.rev.length
    ·obtain⟨b3,off3,rfl,hb3,hc3⟩:=HR.o.resolve_left (by intro e;rw[e] at hq2;simp at hq2)
     obtain⟨x,hx⟩:∃x,x=t.rev.getD q 0:=⟨_,rfl⟩;have g3:=zac hb1.o hb3 (hc3 q hq2);rw[←hx] at g3;have HX3:Hid (t.rev[q]?=some x):=by rw[hx];exact zcb _ _ _ hq2
     have hxr:=W3.o x (List.mem_of_getElem? HX3.o);have HF:=zaa (zyc HX3.o k f);have hq':(q:Int)<(t.rev.length:Int):=by omega
     obtain⟨w2',hrun,hM2,hg2⟩:=hM1.o.store x (k:Int) (wfI (by omega) (by omega)) HKW.o (by unfold maxLen;omega);clear hx hc3 HX3;go_wp2;have HM2:=zaa hM2;have HB2:Hid (Below w.heap.size w w2'):=hb1.o.grown hg2 hb1.o.size (fun j hj=>by cases hj;exact Nat.le_refl _);have K2:Hid (w2'.heap[wo.heap.size]?=_):=(hg2.block _ hs1 (by intro e;have:=Option.some.inj e;omega)).trans K1.o;have hs2:=Nat.lt_of_lt_of_le hs1 hg2.size
     go_roundw
     case rel=>exact⟨q+1,n2+1,by omega,by go_num,by omega,by rw[HF.o];exact HM2,K2,hs2,HB2⟩
     case measure=>simp[intOf];omega
    ·have e:q=t.rev.length:=by omega
     subst e;rw[zvo] at hM1;have hq':¬((t.rev.length:Int)<(t.rev.length:Int)):=by omega
     obtain⟨⟨y0,y1,y2,y3,y4,y5,y6,y7,y8,y9⟩,_⟩:=zai K1.o;go_wp2;clear y0 y1 y2 y3 y4 y5 y6 y7 y8 y9 K1 hs1
     go_loopw [32] (fun i wr=>∃p n:Nat,p≤t.info.length∧i=.int .i64 p∧n≤24*k+12+p∧Hid (MapI wr w.heap.size n (zpt t k f p))∧Hid (Below w.heap.size w wr)) (fun i _=>t.info.length - (intOf i).toNat)
     case atStart=>exact⟨0,n2,Nat.zero_le _,rfl,by omega,hM1,hb1⟩
     case round=>
      clear hM1 hb1;obtain⟨p,n3,hp,rfl,hn3,hM1,hb1⟩:=hrel;by_cases hp2:p<t.info.length
      ·obtain⟨b3,off3,rfl,hb3,hc3⟩:=HM.o.resolve_left (by intro e;rw[e] at hp2;simp at hp2)
       obtain⟨x,hx⟩:∃x,x=t.info.getD p (0,ByteArray.empty):=⟨_,rfl⟩;obtain⟨g1,g2⟩:=hc3 p hp2
       replace g1:=zac hb1.o hb3 g1
       replace g2:=zac hb1.o hb3 g2
       rw[←hx] at g1 g2;have HX3:Hid (t.info[p]?=some x):=by rw[hx];exact zcb _ _ _ hp2
       have hxr:=W4.o x (List.mem_of_getElem? HX3.o);have HF:=zaa (zvn HX3.o k f);have hp':(p:Int)<(t.info.length:Int):=by omega
       clear hx hc3 HX3;obtain⟨nn,s⟩:=x;obtain⟨w2',hrun,hM2,hg2⟩:=(hM1.o.below (zab wr (.cells #[.int .i64 nn,.string s] 84 (0,0)))).store nn (k:Int) (wfI (by have:=hxr.1;simp at this;omega) (by have:=hxr.2;simp at this;omega)) HKW.o (by unfold maxLen;omega);go_wp2;have HM2:=zaa hM2;have HB2:Hid (Below w.heap.size w w2'):=(zae hb1.o (zab _ _)).grown hg2 (zae hb1.o (zab _ _)).size (fun j hj=>by cases hj;exact Nat.le_refl _)
       go_roundw
       case rel=>exact⟨p+1,n3+1,by omega,by go_num,by omega,by rw[HF.o];exact HM2,HB2⟩
       case measure=>simp[intOf];omega
      ·have e:p=t.info.length:=by omega
       subst e;have hp':¬((t.info.length:Int)<(t.info.length:Int)):=by omega
       go_wp2
       go_roundw
       case rel=>exact⟨k+1,n3,by omega,by go_num,by omega,by rw[←HD.o];exact hM1,hb1⟩
       case measure=>simp[intOf];omega
  ·have e:k=l.length:=by omega
   subst e;go_wp2;go_ret;exact⟨_,_,rfl,hMap.o,Nat.le_refl _,hbr.o⟩
end Go.Proofs.YtjnpndfpajjihacGreat

