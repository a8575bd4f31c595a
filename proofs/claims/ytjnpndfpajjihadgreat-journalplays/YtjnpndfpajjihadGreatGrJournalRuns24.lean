import Derived.Test.YtjnpndfpajjihadGreatGrJournalRuns3
import Derived.Maps.Own
import Derived.Maps.OwnSet
set_option maxRecDepth 100000
set_option maxHeartbeats 40000000
namespace Go.Proofs.YtjnpndfpajjihadGreat
open Go.Proofs.Tryz
open Go.RowKit
open Value renaming int -> H,string -> A,agg -> F
open IntKind renaming i64 -> G
open Option renaming none -> Z,some -> J
open Bool renaming false -> O,true -> I
open Go renaming World -> K,Value -> E
open Obj renaming cells -> T
open Ending renaming returned -> N
open _root_.ByteArray renaming empty -> U
variable{B n:Nat}{a x:Int}{f:Int->Option (Int×ByteArray)}{s:ByteArray}{t:Tx}{w w':World}
theorem QH:Maps.Keyed prog 3:=Maps.int_keyed underlying3
theorem dU(w:K):(zeroValue 3).run prog w=.ok (H G 0) w:=by kernel_rfl
theorem jN(w:K):(zeroValue 99).run prog w=.ok (F #[H G 0,A ⟨#[]⟩]) w:=by kernel_rfl
def MapI (w:K)(B n:Nat)(f:Int->Int):Prop:=
 ∃D:DataW Unit,w.ownsMap prog 3 (plainElem prog 3) B n D/\∀x:Int,(Lit.int G x).wf=I->D.atKey (.int G x) (.lit (.int G 0))=.lit (.int G (f x))
theorem MapI.made(w:K):MapI (w.alloc (.map #[] 0)) w.heap.size 0 (λ_=>0):=
 ⟨.map [],World.ownsMap_made w _ _ _,λx _=>by simp[DataW.atKey]⟩
theorem MapI.lt{f:Int->Int}(h:MapI w B n f):B<w.heap.size:=by
 obtain⟨D,A,_⟩:=h;exact A.lt
theorem MapI.block{f:Int->Int}(h:MapI w B n f)(hb:w'.heap[B]?=w.heap[B]?):MapI w' B n f:=by
 obtain⟨D,C,E⟩:=h;obtain⟨es,clock,A,F⟩:=C;exact⟨D,⟨es,clock,hb.trans A,F⟩,E⟩
theorem MapI.below{f:Int->Int}(h:MapI w B n f)(hb:Below w.heap.size w w'):MapI w' B n f:=h.block (hb.block _ h.lt)
def SI (v:E):Option (DataW Unit×List MemPlace):=
 match v with
 |.agg c=>match c.toList with
  |[.int G a,.string s]=>J (.agg [.lit (.int G a),.lit (.string s.data.toList)],[])
  |_=>Z
 |_=>Z
def bJ (c:Int×ByteArray):DataW Unit:=.agg [.lit (.int G c.1),.lit (.string c.2.data.toList)]
theorem JK(a:Int)(s:ByteArray):SI (F #[H G a,A s])=J (bJ (a,s),[]):=rfl
theorem wN{v:E}{ps:List MemPlace}(h:SI v=J (bJ (a,s),ps)):v=.agg #[.int G a,.string s]:=by
 unfold SI at h;split at h
 .rename_i c;split at h
  .rename_i D A C;simp only[bJ,Option.some.injEq,Prod.mk.injEq,DataW.agg.injEq,List.cons.injEq,DataW.lit.injEq,Lit.int.injEq,Lit.string.injEq,and_true,true_and]at h;obtain⟨⟨rfl,B⟩,_⟩:=h
   have e:A=s:=by
    cases A with|mk d=>cases s with|mk d2=>
    simp only at B
    congr 1
    exact Ce B
   subst e
   have:c=#[.int G D,.string A]:=by
    apply Ce;rw[C]
   rw[this]
  .cases h
 .cases h
def MapC (w:K)(B n:Nat)(f:Int->Option (Int×ByteArray)):Prop:=
 ∃D:DataW Unit,w.ownsMap prog 3 SI B n D/\∀x:Int,(Lit.int G x).wf=I->Maps.has D (.int G x)=(f x).isSome/\∀c,f x=J c->∀z,D.atKey (.int G x) z=bJ c
theorem MapC.made(w:K):MapC (w.alloc (.map #[] 0)) w.heap.size 0 (λ_=>Z):=
 ⟨.map [],World.ownsMap_made w _ _ _,λx _=>⟨rfl,λc h=>by cases h⟩⟩
theorem MapC.lt(h:MapC w B n f):B<w.heap.size:=by
 obtain⟨D,A,_⟩:=h;exact A.lt
theorem MapC.block(h:MapC w B n f)(hb:w'.heap[B]?=w.heap[B]?):MapC w' B n f:=by
 obtain⟨D,C,E⟩:=h;obtain⟨es,clock,A,F⟩:=C;exact⟨D,⟨es,clock,hb.trans A,F⟩,E⟩
theorem MapC.below(h:MapC w B n f)(hb:Below w.heap.size w w'):MapC w' B n f:=h.block (hb.block _ h.lt)
theorem wfI(h0: -9223372036854775808<=x)(h1:x<=9223372036854775807):(Lit.int G x).wf=I:=by
 have B:IntKind.i64.min= -9223372036854775808:=by decide
 have A:IntKind.i64.max=9223372036854775807:=by decide
 simp only[Lit.wf,B,A,Bool.and_eq_true,decide_eq_true_eq];exact⟨h0,h1⟩
def Few (t:Tx):Prop:=t.rev.length<=12/\t.info.length<=12/\(∀x∈t.rev,0<=x/\x<=11)/\∀x∈t.info,0<=x.1/\x.1<=11
def pG (t:Tx)(b:Int):Bool:=tA t.rev b||tA (blksOf t.info) b
def lastK (l:List Tx):Nat->Int->Int
 |0=>λ_=>0
 |k+1=>λb=>if pG (l.getD k txz) b=I then(k:Int) else lastK l k b
def yG (t:Tx)(k:Nat)(f:Int->Int)(q:Nat):Int->Int:=λb=>if tA (t.rev.take q) b=I then(k:Int) else f b
def kF (t:Tx)(k:Nat)(f:Int->Int)(p:Nat):Int->Int:=λb=>if(tA t.rev b||tA (blksOf (t.info.take p)) b)=I then(k:Int) else f b
theorem rT{q:Nat}(h:t.rev[q]?=J x)(k:Nat)(f:Int->Int):yG t k f (q+1)=λz=>if z=x then(k:Int) else yG t k f q z:=by
 funext z
 unfold yG;rw[Oc,h,tA,tA,zg];by_cases e:z=x
 .simp[e]
 .have:¬x=z:=λy=>e y.symm;simp[e,this]
theorem ZR{p:Nat}{x:Int×ByteArray}(h:t.info[p]?=J x)(k:Nat)(f:Int->Int):kF t k f (p+1)=λz=>if z=x.1 then(k:Int) else kF t k f p z:=by
 funext z
 unfold kF blksOf;rw[Oc,h,Ed,tA,tA,tA,zg];by_cases e:z=x.1
 .simp[e]
 .have:¬x.1=z:=λy=>e y.symm;simp[e,this]
theorem vX(t:Tx)(k:Nat)(f:Int->Int):yG t k f t.rev.length=kF t k f 0:=by
 funext z
 unfold yG kF;rw[Lc];simp[blksOf,tA]
theorem OY{l:List Tx}{k:Nat}(h:t=l.getD k txz):kF t k (lastK l k) t.info.length=lastK l (k+1):=by
 funext z
 rw[lastK,<-h];unfold kF pG;rw[Lc]
open Go.Proofs.Tryz
theorem MapI.look{f:Int->Int}(h:MapI w B n f)(x:Int)(L:(Lit.int G x).wf=I):
  (Instr.lookup 199 (.map (J B)) (.int G x) O).run prog w=.ok (.int G (f x)) w:=by
 obtain⟨D,C,E⟩:=h;obtain⟨c,hrun,A,_⟩:=C.lookup_int QH underlying199 underlying3 (dU w) (Kf underlying3 L)
 rw[E x L]at A
 simp only[DataW.lit.injEq,Lit.int.injEq,true_and]at A
 rw[hrun,A]
theorem MapI.store{f:Int->Int}(h:MapI w B n f)(x y:Int)(Q:(Lit.int G x).wf=I)(L:(Lit.int G y).wf=I)(R:n<maxLen):
  ∃w',(Instr.mapUpdate 199 (.map (J B)) (.int G x) (.int G y)).run prog w=.ok () w'/\MapI w' B (n+1) (λz=>if z=x then y else f z)/\w.grownBy w' (J B):=by
 obtain⟨D,C,F⟩:=h;have A:=C.isMap;obtain⟨w',hrun,E,b⟩:=C.update QH underlying199 R (Kf underlying3 Q) (plainElem_int underlying3 L);refine⟨w',hrun,⟨_,E,λz X=>?_⟩,b⟩;by_cases e:z=x
 .subst e;rw[Maps.atKey_put_same A (by simp[WideAt.IsKeyLit])];simp
 .rw[Maps.atKey_put_other (by simp[e]),F z X];simp[e]
theorem MapC.lookNone(h:MapC w B n f)(x:Int)(L:(Lit.int G x).wf=I)(Q:f x=Z):
  (Instr.lookup 147 (.map (J B)) (.int G x) I).run prog w=.ok (.tuple #[.agg #[.int G 0,.string ⟨#[]⟩],.bool O]) w:=by
 obtain⟨D,F,R⟩:=h;obtain⟨v,ps,hrun,C⟩:=F.look_ok QH underlying147 (jN w) (JK 0 ⟨#[]⟩) (Kf underlying3 L);have E:=(R x L).1;rw[Q]at E;have A:Maps.has D (.int G x)=O:=E;rw[Maps.atKey_of_not_has A]at C;rw[hrun,A,wN C]
theorem MapC.lookSome(h:MapC w B n f)(x:Int)(L:(Lit.int G x).wf=I)(Q:f x=J (a,s)):
  (Instr.lookup 147 (.map (J B)) (.int G x) I).run prog w=.ok (.tuple #[.agg #[.int G a,.string s],.bool I]) w:=by
 obtain⟨D,R,C⟩:=h;obtain⟨v,ps,hrun,A⟩:=R.look_ok QH underlying147 (jN w) (JK 0 ⟨#[]⟩) (Kf underlying3 L);have E:=(C x L).1;rw[Q]at E;have F:Maps.has D (.int G x)=I:=E;rw[(C x L).2 _ Q]at A;rw[hrun,F,wN A]
theorem MapC.store(h:MapC w B n f)(x a:Int)(s:ByteArray)(X:(Lit.int G x).wf=I)(b:n<maxLen):
  ∃w',(Instr.mapUpdate 147 (.map (J B)) (.int G x) (.agg #[.int G a,.string s])).run prog w=.ok () w'/\MapC w' B (n+1) (λz=>if z=x then J (a,s) else f z)/\w.grownBy w' (J B):=by
 obtain⟨D,C,E⟩:=h;have A:=C.isMap;obtain⟨w',hrun,F,d⟩:=C.update QH underlying147 b (Kf underlying3 X) (JK a s);refine⟨w',hrun,⟨_,F,λz R=>?_⟩,d⟩;by_cases e:z=x
 .subst e;refine⟨?_,λc L Q=>?_⟩
  .rw[Maps.has_put_same A (by simp[WideAt.IsKeyLit])];simp
  .rw[Maps.atKey_put_same A (by simp[WideAt.IsKeyLit])];simp at L;rw[L]
 .refine⟨?_,λc L Q=>?_⟩
  .rw[Maps.has_put_other (by simp[e]),(E z R).1];simp[e]
  .rw[Maps.atKey_put_other (by simp[e])];simp only[if_neg e]at L;exact(E z R).2 c L Q
theorem Ya(a:Option Addr)(c:Nat)(l:List Tx)(w:K)(h:SegTx w a l)(hn:l.length*128<=140737488355328)(hf:∀t∈l,Few t):
  Calls Tryz.prog 152 #[.slice a l.length c] w λe w'=>∃B n,e=N (.map (J B))/\MapI w' B n (lastK l l.length)/\w.heap.size<=B/\Below w.heap.size w w':=by
 have HS:=zA h;have HW:=zA hf;clear h hf;have A5:=λw:K=>run_makeMap (P:=Tryz.prog) 199 w;go_enter Tryz.func152,Tryz.ntmps152;go_wp2;clear A5
 go_loopw [13] (λi wr=>∃k n:Nat,k<=l.length/\i=.int G k/\n<=24*k/\Hid (MapI wr w.heap.size n (lastK l k))/\Hid (Below w.heap.size w wr)) (λi _=>l.length - (intOf i).toNat)
 case atStart=>exact⟨0,0,Vb _,rfl,Vb _,MapI.made w,qA _ _⟩
 case round=>
  obtain⟨B3,A4⟩:∃B3,B3=wr:=⟨_,rfl⟩;subst A4;obtain⟨k,n,hk,rfl,A7,B5,A⟩:=hrel;have A8:=MapI.lt B5.o;by_cases hlt:k<l.length
  .obtain⟨b2,B0,rfl,hb,hc⟩:=HS.o.resolve_left (by intro e;rw[e]at hlt;simp at hlt);obtain⟨t,X⟩:∃t,t=l.getD k txz:=⟨_,rfl⟩;have HX:Hid (l[k]?=J t):=by rw[X];exact PH hlt
   have Y:=hc k hlt;rw[<-X]at Y;obtain⟨a0,c0,a1,c1,r,d,⟨x0,x1,z,m,x4,x5,x6,x7,x8,y⟩,hT⟩:=Y;obtain⟨s1,_,s3,_,_,_⟩:=hT.rows
   replace x0:=xA A.o hb x0
   replace x1:=xA A.o hb x1
   replace z:=xA A.o hb z
   replace m:=xA A.o hb m
   replace x4:=xA A.o hb x4
   replace x5:=xA A.o hb x5
   replace x6:=xA A.o hb x6
   replace x7:=xA A.o hb x7
   replace x8:=xA A.o hb x8
   replace y:=xA A.o hb y
   obtain⟨w1,w2,w3,w4⟩:=HW.o t (Yc HX.o);have HM:=zA s1;have HR:=zA s3;have W3:=zA w3;have W4:=zA w4;have HD:=zA (OY X);have A6:(k:Int)<(l.length:Int):=by omega
   have b:(Lit.int G (k:Int)).wf=I:=wfI (by omega) (by omega);have Z:=zA b;clear X hc hT s1 s3 w3 w4 b;generalize lastK l k=f at *;go_wp2;clear x0 x1 z m x4 x5 x6 x7 x8 y
   go_loopw [21] (λi wr=>∃q n:Nat,q<=t.rev.length/\i=.int G q/\n<=24*k+q/\Hid (MapI wr w.heap.size n (yG t k f q))/\Hid (wr.heap[B3.heap.size]?=J (T #[.int G t.seq,.slice a0 t.info.length c0,.slice a1 t.data.length c1,.slice r t.rev.length d,.bool t.h0.on,.int G t.h0.left,.bool t.h1.on,.int G t.h1.left,.bool t.h2.on,.int G t.h2.left] 52 (0,0)))/\B3.heap.size<wr.heap.size/\Hid (Below w.heap.size w wr)) (λi _=>t.rev.length - (intOf i).toNat)
   case atStart=>exact⟨0,n,Vb _,rfl,by omega,B5.o.below (qA _ _),Cc B3 _,by simp,vA A.o (qA _ _)⟩
   case round=>
    obtain⟨q,n2,hq,rfl,B1,E,u,O,C⟩:=hrel;by_cases hq2:q<t.rev.length
    .obtain⟨b3,A0,rfl,M,B4⟩:=HR.o.resolve_left (by intro e;rw[e]at hq2;simp at hq2);obtain⟨x,B2⟩:∃x,x=t.rev.getD q 0:=⟨_,rfl⟩;have g3:=xA C.o M (B4 q hq2);rw[<-B2]at g3;have D:Hid (t.rev[q]?=J x):=by rw[B2];exact YA _ _ _ hq2
     have R:=W3.o x (Yc D.o);have HF:=zA (rT D.o k f);have A3:(q:Int)<(t.rev.length:Int):=by omega
     obtain⟨L,hrun,S,F⟩:=E.o.store x (k:Int) (wfI (by omega) (by omega)) Z.o (by unfold maxLen;omega);clear B2 B4 D;go_wp2;have Q:=zA S;have B6:Hid (Below w.heap.size w L):=C.o.grown F C.o.size (λj hj=>by cases hj;exact Sb _);have K2:Hid (L.heap[B3.heap.size]?=_):=(F.block _ O (by intro e;have:=Option.some.inj e;omega)).trans u.o;have A2:=Xb O F.size
     go_roundw
     case rel=>exact⟨q+1,n2+1,by omega,by go_num,by omega,by rw[HF.o];exact Q,K2,A2,B6⟩
     case measure=>simp[intOf];omega
    .have e:q=t.rev.length:=by omega
     subst e;rw[vX]at E;have A3:¬((t.rev.length:Int)<(t.rev.length:Int)):=by omega
     obtain⟨⟨y0,y1,y2,y3,y4,y5,y6,y7,y8,y9⟩,_⟩:=BA u.o;go_wp2;clear y0 y1 y2 y3 y4 y5 y6 y7 y8 y9 u O
     go_loopw [32] (λi wr=>∃p n:Nat,p<=t.info.length/\i=.int G p/\n<=24*k+12+p/\Hid (MapI wr w.heap.size n (kF t k f p))/\Hid (Below w.heap.size w wr)) (λi _=>t.info.length - (intOf i).toNat)
     case atStart=>exact⟨0,n2,Vb _,rfl,by omega,E,C⟩
     case round=>
      clear E C;obtain⟨p,n3,hp,rfl,A9,E,C⟩:=hrel;by_cases hp2:p<t.info.length
      .obtain⟨b3,A0,rfl,M,B4⟩:=HM.o.resolve_left (by intro e;rw[e]at hp2;simp at hp2);obtain⟨x,B2⟩:∃x,x=t.info.getD p (0,U):=⟨_,rfl⟩;obtain⟨g1,g2⟩:=B4 p hp2
       replace g1:=xA C.o M g1
       replace g2:=xA C.o M g2
       rw[<-B2]at g1 g2;have D:Hid (t.info[p]?=J x):=by rw[B2];exact YA _ _ _ hp2
       have R:=W4.o x (Yc D.o);have HF:=zA (ZR D.o k f);have A1:(p:Int)<(t.info.length:Int):=by omega
       clear B2 B4 D;obtain⟨nn,s⟩:=x;obtain⟨L,hrun,S,F⟩:=(E.o.below (qA wr (T #[.int G nn,.string s] 99 (0,0)))).store nn (k:Int) (wfI (by have:=R.1;simp at this;omega) (by have:=R.2;simp at this;omega)) Z.o (by unfold maxLen;omega);go_wp2;have Q:=zA S;have B6:Hid (Below w.heap.size w L):=(vA C.o (qA _ _)).grown F (vA C.o (qA _ _)).size (λj hj=>by cases hj;exact Sb _)
       go_roundw
       case rel=>exact⟨p+1,n3+1,by omega,by go_num,by omega,by rw[HF.o];exact Q,B6⟩
       case measure=>simp[intOf];omega
      .have e:p=t.info.length:=by omega
       subst e;have A1:¬((t.info.length:Int)<(t.info.length:Int)):=by omega
       go_wp2
       go_roundw
       case rel=>exact⟨k+1,n3,by omega,by go_num,by omega,by rw[<-HD.o];exact E,C⟩
       case measure=>simp[intOf];omega
  .have e:k=l.length:=by omega
   subst e;go_wp2;go_ret;exact⟨_,_,rfl,B5.o,Sb _,A.o⟩
