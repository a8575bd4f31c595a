import Derived.Test.YtjnpndfpajjihadGreatGrJournalRuns24
import Derived.Test.YtjnpndfpajjihadGreatGrJournalRuns26
set_option maxRecDepth 100000
set_option maxHeartbeats 40000000
namespace Go.Proofs.YtjnpndfpajjihadGreat
open Go.RowKit Go.Shelf
open IntKind renaming i64 -> G
open Option renaming none -> Z,some -> J
open Bool renaming false -> O,true -> I
open Go renaming World -> K,Value -> E
open Obj renaming cells -> T
open Ending renaming returned -> N
open _root_.ByteArray renaming empty -> U
variable{L:Int->Int}{base j k n:Nat}{w:World}{x:Int×ByteArray}
attribute [local go_sem] Oper.semAt_some
def AE (b:Int):List (Int×ByteArray)->Option (Int×ByteArray)
 |[]=>Z
 |x::r=>if x.1=b then J x else AE b r
def DC (L:Int->Int)(k:Nat)(f:Int->Option (Int×ByteArray))(m:List (Int×ByteArray)):Int->Option (Int×ByteArray):=λz=>match AE z m with
 |some c=>if L z=(k:Int) then J c else f z
 |none=>f z
def jC (l:List Tx)(L:Int->Int):Nat->Int->Option (Int×ByteArray)
 |0=>λ_=>Z
 |k+1=>DC L k (jC l L k) (l.getD k txz).info
theorem XU(h:L x.1=(k:Int))(f:Int->Option (Int×ByteArray))(r:List (Int×ByteArray)):DC L k f (x::r)=λz=>if z=x.1 then J (x.1,x.2) else DC L k f r z:=by
 funext z
 by_cases e:z=x.1
 .subst e;simp[DC,AE,h]
 .have:¬x.1=z:=λy=>e y.symm;simp[DC,AE,e,this]
theorem fW(h:¬L x.1=(k:Int))(f:Int->Option (Int×ByteArray))(r:List (Int×ByteArray)):DC L k f (x::r)=DC L k f r:=by
 funext z
 by_cases e:x.1=z
 .subst e;simp only[DC,AE,if_true];cases AE x.1 r<;>simp[h]
 .simp[DC,AE,e]
theorem BU{α:Type}{m:List α}{z:α}(h:j<m.length):m.drop j=m.getD j z::m.drop (j+1):=by
 rw[me h,List.getD,Ic h];rfl
theorem But.grownR{R:Nat}{A B:K}{row:Option Nat}(h:But R base w A)(X:A.grownBy B row)(D:∀r,row=J r->base<=r)(Q:base<=w.heap.size:=by omega):But R base w B:=
 h.trans (But.of_below ((Ub base A).grown X (ac Q h.size) D)) (Sb _)
theorem MapC.notCells{B:Nat}{f:Int->Option (Int×ByteArray)}(h:MapC w B n f){o:Obj}(Q:w.heap[B]?=J o):o.isCells=O:=by
 obtain⟨D,⟨es,clock,A,_⟩,_⟩:=h;rw[A]at Q;cases Q;rfl
theorem ZY{m:List (Int×ByteArray)}(h:j<m.length):m.getD j (0,U)∈m:=by
 rw[List.getD,Ic h];exact xe h
def uM (B:List Nat):List Deferred:=B.map λr=>{target:=.collected r,args:=#[]}
def BF (B:List Nat)(w:K):K:=B.foldl (λw r=>w.putObj r (.deferred Z)) w
theorem vO(B:List Nat)(w:K)(j:Nat)(h:∀r∈B,r≠j):(BF B w).heap[j]?=w.heap[j]?:=by
 induction B generalizing w with
 |nil=>rfl
 |cons r B ih=>
  rw[BF,Af];refine(ih _ (λQ D=>h Q (by simp[D]))).trans ?_;exact World.putObj_heap_other (qe (h r (by simp)))
theorem WN:∀(D:List Nat) (w:K),(∀r∈D,base<=r)->D.Nodup->(∀r∈D,w.heap[r]?=J (.deferred (J [])))->Below base w (BF D w):=by
 intro D
 induction D with
 |nil=>intro w _ _ _;exact Ub _ _
 |cons r D ih=>
  intro w hb C hd;have A:=Xe.1 C;have B:Below base w (w.putObj r (.deferred Z)):=⟨rfl,rfl,rfl,by simp[World.putObj],λj hj=>World.putObj_heap_other (by have:=hb r (by simp);omega)⟩;exact B.trans (ih _ (λq Q=>hb q (by simp[Q])) A.2 (λq Q=>(World.putObj_heap_other (by intro e;subst e;exact A.1 Q)).trans (hd q (by simp[Q]))))
theorem mP{F:Fence}{P:Program}{X:Func}{tmps:Array E}{R:Ending->K->Prop}:∀(D:List Nat) (w:K),D.Nodup->(∀r∈D,w.heap[r]?=J (.deferred (J [])))->LeavesIn F n P X tmps R [] .returning (BF D w)->LeavesInM F n P X tmps R (uM D) .returning w:=by
 intro D
 induction D with
 |nil=>intro w _ _ h;exact h
 |cons r D ih=>
  intro w B hd h;have A:=Xe.1 B;refine⟨by simp,.inl ⟨r,_,rfl,run_takeDeferred (hd r (by simp)),ih _ A.2 (λq Q=>?_) h⟩⟩;exact(World.putObj_heap_other (by intro e;subst e;exact A.1 Q)).trans (hd q (by simp[Q]))
open Go.Proofs.Tryz
open Go.RowKit Go.Shelf
attribute [local go_sem] Oper.semAt_some
theorem ob(a:Option Addr)(c:Nat)(l:List Tx)(w:K)(h:SegTx w a l)(hn:l.length*128<=140737488355328)(hf:∀t∈l,Few t):
  Calls prog 101 #[.slice a l.length c] w λe w'=>∃B n,e=N (.map (J B))/\MapC w' B n (jC l (lastK l l.length) l.length)/\w.heap.size<=B/\Below w.heap.size w w':=by
 have HS:=zA h;have HW:=zA hf;clear h hf;have X:=λw:K=>run_makeMap (P:=prog) 147 w;refine(Dd (n:=9)).1 ?_;refine callsIn_of_wp_marks func101 rfl trivial ?_ rfl;simp only[ntmps101,List.size_toArray,List.length_cons,List.length_nil,Nat.reduceAdd,Nat.reduceSub,Array.replicate_succ,Array.replicate_zero,List.push_toArray,List.append_toArray,List.nil_append,List.cons_append]
 gi_wp2_with fail
 refine⟨trivial,(Dd.2 (Ya a c l _ HS.o hn HW.o)).mono ?_⟩;rintro e C ⟨y,n1,rfl,C8,H5,A2⟩;have E6:=zA C8;have A9:=zA A2;clear C8 A2
 gi_wp2
 obtain⟨W0,A7⟩:∃W0,W0=((C.alloc (.map #[] 0)).alloc (T #[.map (J y)] 199)).alloc (T #[.map (J C.heap.size)] 147):=⟨_,rfl⟩;have E2:Below C.heap.size C W0:=by rw[A7];exact vA (vA (qA _ _) (qA _ _)) (qA _ _)
 have A1:W0.heap[C.heap.size]?=J (.map #[] 0)/\W0.heap[C.heap.size+1]?=J (T #[.map (J y)] 199 (0,0))/\W0.heap[C.heap.size+1+1]?=J (T #[.map (J C.heap.size)] 147 (0,0))/\C.heap.size+1+1<W0.heap.size:=by rw[A7];exact dF (Ub _ _)
 have C2:Hid (MapC W0 C.heap.size 0 (λ_=>Z)):=(MapC.made C).block (A1.1.trans (Cc C (.map #[] 0)).symm);have B9:=zA A1.2.1;have B5:=zA A1.2.2.1;have D2:=A1.2.2.2;have E4:=zA E2;rw[<-A7];clear A7 E2 A1 X
 refine wpIn_loop (λa' w'=>∃(k n:Nat) (I3:List Nat) (u5 u6 u8 u15 u16 u17 u18 u19 u20 u21 u22 u23 u24 u25 u26 u27 u28 u29 u30 u31 u32 u33 u34:E),a'=⟨#[.slice a l.length c,undef,.map Z,.pointer (J ⟨C.heap.size+1,0,Z⟩),.pointer (J ⟨C.heap.size+1+1,0,Z⟩),u5,u6,undef,u8,.slice a l.length c,.map (J y),.map (J C.heap.size),.slice a l.length c,.int G (l.length:Int),.int G (k:Int),u15,u16,u17,u18,u19,u20,u21,u22,u23,u24,u25,u26,u27,u28,u29,u30,u31,u32,u33,u34,undef],uM I3⟩/\k<=l.length/\n<=12*k/\Hid (MapC w' C.heap.size n (jC l (lastK l l.length) k))/\Hid (Below C.heap.size C w')/\C.heap.size+1+1<w'.heap.size/\Hid (w'.heap[C.heap.size+1]?=J (T #[.map (J y)] 199 (0,0)))/\Hid (w'.heap[C.heap.size+1+1]?=J (T #[.map (J C.heap.size)] 147 (0,0)))/\Hid (I3.Nodup/\∀r∈I3,C.heap.size+1+1<r/\w'.heap[r]?=J (.deferred (J []))))
  (λa' _=>l.length - (intOf (a'.tmps.getD 14 undef)).toNat) ?start ?round
 case start=>exact⟨0,0,[],undef,undef,undef,undef,undef,undef,undef,undef,undef,undef,undef,undef,undef,undef,undef,undef,undef,undef,undef,undef,undef,undef,undef,rfl,Vb _,Vb _,C2,E4,D2,B9,B5,List.nodup_nil,λr L=>by cases L⟩
 case round=>
  rintro _ wr ⟨k,n,I3,u5,u6,u8,u15,u16,u17,u18,u19,u20,u21,u22,u23,u24,u25,u26,u27,u28,u29,u30,u31,u32,u33,u34,rfl,hk,H0,C3,HB,F4,D3,B7,I4⟩;clear C2 E4 D2 B9 B5;by_cases hlt:k<l.length
  .obtain⟨b,A5,rfl,hb,hc⟩:=HS.o.resolve_left (λe=>absurd hlt (by rw[e];exact cg _));obtain⟨t,ht⟩:∃t,t=l.getD k txz:=⟨_,rfl⟩;have F3:b<C.heap.size:=Xb hb A9.o.size;have C7:=((hc k hlt).below A9.o hb).below HB.o F3;rw[<-ht]at C7;have D5:=zA ht;obtain⟨s,c0,a1,c1,r,d,⟨x0,x1,x2,x3,x4,x5,x6,x7,x8,x9⟩,hT⟩:=C7;have HT:=zA hT;have H3:(k:Int)<(l.length:Int):=by omega
   clear hc ht hT
   gi_wp2_with fail
   obtain⟨M,A0⟩:∃M,M=(wr.alloc (T #[.int G (k:Int)] 3)).alloc (T #[.int G t.seq,.slice s t.info.length c0,.slice a1 t.data.length c1,.slice r t.rev.length d,.bool t.h0.on,.int G t.h0.left,.bool t.h1.on,.int G t.h1.left,.bool t.h2.on,.int G t.h2.left] 52):=⟨_,rfl⟩;have A2:Below wr.heap.size wr M:=by rw[A0];exact vA (qA _ _) (qA _ _)
   have C5:Hid (M.heap[wr.heap.size]?=J (T #[.int G (k:Int)] 3 (0,0))):=by rw[A0];exact sB (Ub _ _)
   have B4:M.heap.size=wr.heap.size+1+1:=by rw[A0];simp
   rw[<-A0];clear A0 x0 x1 x2 x3 x4 x5 x6 x7 x8 x9;refine⟨trivial,(qa Fence.wide 8 trivial rfl s t.info.length c0 M).mono ?_⟩;rintro e I1 ⟨rfl,A6⟩;have B6:Below M.heap.size M I1:=by rw[A6];exact qA _ _
   have cS:I1.cell? ⟨M.heap.size,0,Z⟩=J (.slice s t.info.length c0):=by rw[A6];simp[go_sem]
   have C0:I1.heap.size=M.heap.size+1:=by rw[A6];simp
   have I5:Below wr.heap.size wr I1:=vA A2 B6;have E7:=zA I5;have F9:=zA cS;have E9:=zA (yA B6 (show wr.heap.size<M.heap.size by omega) C5.o);have C4:=zA (yA I5 (show C.heap.size+1<wr.heap.size by omega) D3.o);have C1:=zA (yA I5 F4 B7.o);have F2:=zA (C3.o.below I5);have G2:=zA ((E6.o.below HB.o).below I5);have A3:Hid (I3.Nodup/\∀r∈I3,C.heap.size+1+1<r/\r<wr.heap.size/\I1.heap[r]?=J (.deferred (J []))):=⟨I4.o.1,λr L=>⟨(I4.o.2 r L).1,(Wb.1 (I4.o.2 r L).2).1,yA I5 (Wb.1 (I4.o.2 r L).2).1 (I4.o.2 r L).2⟩⟩;have u:=HW.o t (by rw[D5.o];exact Yc (PH hlt));have H4:M.heap.size<I1.heap.size:=by omega
   have H2:wr.heap.size<M.heap.size:=by omega
   have G9:=zA B4;have H1:=zA C0;clear A6 A2 B6 C5 D3 B7 C3 I4 cS I5 B4 C0
   gi_wp2_with fail
   have A8:=HT.o.rows;have B2:SegW I1 s t.info:=A8.1.below E7.o;have F1:=zA B2;clear A8 B2
   refine NU (F:=Fence.wide) (n:=9) rfl (by decide) (gf:=196) (lb:=#[.pointer (J ⟨M.heap.size,0,Z⟩)]) rfl trivial (enters_of func196 (by kernel_rfl) rfl)
    (GU Fence.wide 8 trivial rfl (by decide) M.heap.size c0 s t.info (by have:=u.2.1;unfold maxLen;omega) I1 (by omega) F9.o F1.o) (Ub _ _) KeepsR.trans KeepsR.put (λ_=>rfl)
    (λj V=>∃I0,I0<=n+j/\MapC V C.heap.size I0 (DC (lastK l l.length) k (jC l (lastK l l.length) k) (t.info.drop (t.info.length - j)))/\But C.heap.size I1.heap.size I1 V)
    ?own ?drew ?start
    (λj a' V=>∃B8 I0,a'=⟨#[.slice (J ⟨b,A5,Z⟩) l.length c,undef,.map Z,.pointer (J ⟨C.heap.size+1,0,Z⟩),.pointer (J ⟨C.heap.size+1+1,0,Z⟩),.pointer (J ⟨wr.heap.size,0,Z⟩),.pointer (J ⟨wr.heap.size+1,0,Z⟩),undef,.pointer (J ⟨B8,0,Z⟩),.slice (J ⟨b,A5,Z⟩) l.length c,.map (J y),.map (J C.heap.size),.slice (J ⟨b,A5,Z⟩) l.length c,.int G (l.length:Int),.int G (k:Int),.bool I,.int G (k:Int),.pointer (J ⟨b,A5+k*10,Z⟩),.agg #[.int G t.seq,.slice s t.info.length c0,.slice a1 t.data.length c1,.slice r t.rev.length d,.bool t.h0.on,.int G t.h0.left,.bool t.h1.on,.int G t.h1.left,.bool t.h2.on,.int G t.h2.left],.pointer (J ⟨wr.heap.size+1,1,Z⟩),.slice s t.info.length c0,.func (.func 196) #[] #[.pointer (J ⟨M.heap.size,0,Z⟩)],.int G ((t.info.length - 1 - j:Nat):Int),.agg #[.int G (t.info.getD (t.info.length - 1 - j) (0,U)).1,.string (t.info.getD (t.info.length - 1 - j) (0,U)).2],u24,u25,u26,u27,u28,u29,u30,u31,u32,u33,u34,undef],[]⟩/\I0<=n+j/\MapC V C.heap.size I0 (DC (lastK l l.length) k (jC l (lastK l l.length) k) (t.info.drop (t.info.length - j)))/\But C.heap.size I1.heap.size I1 V/\I1.heap.size<=B8/\V.heap[B8]?=J (T #[.int G (t.info.getD (t.info.length - 1 - j) (0,U)).1,.string (t.info.getD (t.info.length - 1 - j) (0,U)).2] 99 (0,0)))
    ?ownJ ?assign ?body ?done
   case own=>
    rintro j A B row ⟨I0,Q,I2,B1⟩ i L;exact⟨I0,Q,I2.block (i.block _ I2.lt (λe=>by have:=(L _ e.symm).1;omega)),B1.grownR i (λr e=>(L r e).1)⟩
   case drew=>
    rintro j V ⟨I0,Q,I2,B1⟩;exact⟨I0,Q,I2.block rfl,B1.trans (But.of_below ((Ub I1.heap.size _).drew)) (Sb _)⟩
   case start=>
    refine⟨n,Sb _,?_,But.of_below (Ub _ _)⟩;rw[Nat.sub_zero,List.drop_length];exact F2.o
   case ownJ=>
    rintro j a' A B row ⟨B8,I0,rfl,Q,I2,B1,E0,Y⟩ i L;refine⟨B8,I0,rfl,Q,I2.block (i.block _ I2.lt (λe=>by have:=(L _ e.symm).1;omega)),B1.grownR i (λr e=>(L r e).1),E0,?_⟩;refine(i.block _ (Wb.1 Y).1 (λe=>?_)).trans Y;obtain⟨_,o,m,hc⟩:=L _ e.symm;rw[Y]at m;cases m;cases hc
   case assign=>
    rintro lp j V I7 G6 ⟨I0,Q,I2,B1⟩ E8 hK;unfold CQ;obtain⟨x,p⟩:∃x,x=(t.info.getD (t.info.length - 1 - j) (0,U)):=⟨_,rfl⟩;rw[<-p];have D1:=λq (hq:q<V.heap.size)=>kd V (T #[.int G x.1,.string x.2] 99) q hq;have B0:=zA D1;have HK:=zA hK;have HM:=zA I2;have HX:=zA p;clear D1 hK I2 p
    gi_wp2
    refine HK.o _ _ (B0.o _ (by omega)) (B0.o _ (by omega)) (λq _ o m _=>(B0.o q (Wb.1 m).1).trans m) ⟨V.heap.size,I0,?_,Q,HM.o.block (B0.o _ HM.o.lt),B1.trans (But.of_below ((Ub I1.heap.size V).alloc B1.size _)) (Sb _),B1.size,?_⟩
    .rw[<-HX.o]
    .rw[<-HX.o];exact Cc V _
   case body=>
    rintro lp j _ V G6 ⟨B8,I0,rfl,Q,I2,B1,E0,Y⟩ E8;obtain⟨x,p⟩:∃x,x=(t.info.getD (t.info.length - 1 - j) (0,U)):=⟨_,rfl⟩;rw[<-p]at Y|-;have D4:x∈t.info:=by rw[p];exact ZY (by omega)
    have E1:=u.2.2.2 x D4;have C9:=zA E1;have F0:=u.2.1
    have B3:t.info.drop (t.info.length - (j+1))=x::t.info.drop (t.info.length - j):=by
     rw[BU (z:=(0,U)) (show t.info.length - (j+1)<t.info.length by omega),show t.info.length - (j+1)+1=t.info.length - j from by omega,p,show t.info.length - 1 - j=t.info.length - (j+1) from by omega]
    have D6:(Lit.int G x.1).wf=I:=wfI (by omega) (by omega);have G8:y<C.heap.size:=E6.o.lt;have C6:MapI V y n1 (lastK l l.length):=G2.o.block (B1.block y (by omega) (by omega));have H6:=C6.look x.1 D6;have g3:=Hc V _ 0 _ _ _ ((B1.block (C.heap.size+1) (by omega) (by omega)).trans C4.o);have g4:=Hc V _ 0 _ _ _ ((B1.block (C.heap.size+1+1) (by omega) (by omega)).trans C1.o);have g5:=Hc V _ 0 _ _ _ ((B1.block wr.heap.size (by omega) (by omega)).trans E9.o);obtain⟨⟨H9,H8⟩,_⟩:=XA Y;have HM:=zA I2;have D9:=zA B1;have D8:=zA B3;have HX:=zA p;have F5:=B1.size;clear I2 B1 B3 p C6 Y D4 E1 D6;by_cases hL:lastK l l.length x.1=(k:Int)
    .obtain⟨V2,H7,E5,S⟩:=HM.o.store x.1 x.1 x.2 (wfI (by have:=C9.o;omega) (by have:=C9.o;omega)) (by unfold maxLen;omega);have G1:(lastK l l.length x.1==(k:Int))=I:=by simpa using hL
     have A4:Hid ((V2.heap[I1.heap.size]?=V.heap[I1.heap.size]?/\V2.heap[I1.heap.size+1]?=V.heap[I1.heap.size+1]?)/\KeepsR M.heap.size (TH s) V V2/\∃I0,I0<=n+(j+1)/\MapC V2 C.heap.size I0 (DC (lastK l l.length) k (jC l (lastK l l.length) k) (t.info.drop (t.info.length - (j+1))))/\But C.heap.size I1.heap.size I1 V2):=by
      refine⟨⟨S.block _ (by omega) (λe=>by simp at e;omega),S.block _ (by omega) (λe=>by simp at e;omega)⟩,?_,I0+1,by omega,?_,D9.o.trans ⟨(But.of_below (R:=0) ((Ub 0 V).grown S (Vb _) (λ_ _=>Vb _))).os,(But.of_below (R:=0) ((Ub 0 V).grown S (Vb _) (λ_ _=>Vb _))).tape,(But.of_below (R:=0) ((Ub 0 V).grown S (Vb _) (λ_ _=>Vb _))).output,S.size,λq hq I6=>S.block q (by omega) (λe=>I6 (by simpa using e))⟩ (Sb _)⟩
      .intro q _ o m hc;refine(S.block q (Wb.1 m).1 (λe=>?_)).trans m;have e':q=C.heap.size:=by simpa using e
       subst e';rw[HM.o.notCells m]at hc;cases hc
      .rw[D8.o,XU hL];exact E5
     clear E5 S hL
     gi_wp2
     exact A4.o
    .have G1:(lastK l l.length x.1==(k:Int))=O:=by simpa using hL
     have A4:Hid (KeepsR M.heap.size (TH s) V V/\∃I0,I0<=n+(j+1)/\MapC V C.heap.size I0 (DC (lastK l l.length) k (jC l (lastK l l.length) k) (t.info.drop (t.info.length - (j+1))))/\But C.heap.size I1.heap.size I1 V):=by
      refine⟨KeepsR.refl _ _ _,I0,by omega,?_,D9.o⟩;rw[D8.o,fW hL];exact HM.o
     clear hL
     gi_wp2
     exact⟨⟨rfl,rfl⟩,A4.o⟩
   case done=>
    rintro D V hD ⟨I0,Q,I2,B1⟩ hK;have F5:=B1.size
    have G5:Hid (MapC V C.heap.size I0 (jC l (lastK l l.length) (k+1))):=by
     rw[Fe,List.drop_zero]at I2;rw[Hid,jC,<-D5.o];exact I2
    have F7:Hid (Below C.heap.size C V):=(vA HB.o E7.o).trans ⟨B1.os,B1.tape,B1.output,B1.size,λq hq=>B1.block q (by omega) (by omega)⟩;have F6:=zA ((B1.block (C.heap.size+1) (by omega) (by omega)).trans C4.o);have F8:=zA ((B1.block (C.heap.size+1+1) (by omega) (by omega)).trans C1.o)
    have G4:Hid ((D::I3).Nodup/\∀r∈D::I3,C.heap.size+1+1<r/\V.heap[r]?=J (.deferred (J []))):=by
     refine⟨Xe.2 ⟨λh=>?_,A3.o.1⟩,λr L=>?_⟩
     .have:=(A3.o.2 D h).2.1;omega
     .rcases Xc.1 L with rfl|h
      .exact⟨by omega,hK⟩
      .have h3:=A3.o.2 r h;exact⟨h3.1,(B1.block r (by omega) (by omega)).trans h3.2.2⟩
    have F0:=u.2.1;have G7:C.heap.size+1+1<V.heap.size:=by omega
    clear I2 B1 hK
    gi_wp2
    have ek:((k+1:Nat):Int)=(k:Int)+1:=by simp
    rw[<-ek];refine⟨⟨k+1,I0,D::I3,_,_,_,_,_,_,_,_,_,_,_,_,_,_,_,_,_,_,_,_,_,_,_,rfl,by omega,by omega,G5,F7,G7,F6,F8,G4⟩,?_⟩;simp[intOf];omega
  .have e:k=l.length:=by omega
   subst e;have X:=I4.o;obtain⟨V,hV⟩:∃V,V=BF I3 wr:=⟨_,rfl⟩;have E3:∀j,j<=C.heap.size+1+1->V.heap[j]?=wr.heap[j]?:=λj hj=>by rw[hV];exact vO I3 wr j (λr L=>by have:=(X.2 r L).1;omega)
   have G0:Hid (MapC V C.heap.size n (jC l (lastK l l.length) l.length)):=C3.o.block (E3 _ (by omega))
   have G3:Hid (Below w.heap.size w V):=by
    have h1:Below C.heap.size C V:=HB.o.trans (by rw[hV];exact WN I3 wr (λr L=>by have:=(X.2 r L).1;omega) X.1 (λr L=>(X.2 r L).2));exact vA A9.o h1
   have g4:=Hc wr _ 0 _ _ _ B7.o;have HV:=zA hV;have D7:=zA X;clear E3 hV X
   gi_wp2
   refine mP I3 _ D7.o.1 (λr L=>(D7.o.2 r L).2) ?_;rw[<-HV.o];refine⟨.map (J C.heap.size),by simp[results,results101,go_sem],C.heap.size,n,rfl,G0.o,A9.o.size,G3.o⟩
