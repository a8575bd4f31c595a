import Derived.Test.YtjnpndfpajjihadGreatGrJournalRuns23
import Derived.Test.YtjnpndfpajjihadGreatGrJournalRuns43
import Derived.Deep.CutRange
set_option maxRecDepth 100000
set_option maxHeartbeats 40000000
namespace Go.Proofs.YtjnpndfpajjihadGreat
open Go.RowKit
open Value renaming int -> H,slice -> M,string -> A,bool -> Y,agg -> F,tuple -> S
open IntKind renaming i64 -> G
open Option renaming none -> Z,some -> J
open Bool renaming false -> O,true -> I
open Go renaming World -> K,Value -> E
open Obj renaming cells -> T
open Ending renaming returned -> N
open _root_.ByteArray renaming empty -> U
variable{b:Nat}{v:Value}{w:World}
theorem IT{off:Nat}{l:List (Int×ByteArray)}(h:SegW w (J ⟨b,off,Z⟩) l)(k:Nat):SegW w (J ⟨b,off+10*k*2,Z⟩) (partOf l k):=by
 rcases h with e|⟨b',A0,e,D,L⟩
 .left;rw[e,partOf];simp
 .cases e;refine .inr ⟨b,off+10*k*2,rfl,D,λi Q=>?_⟩;have A:i<10/\10*k+i<l.length:=by rw[partOf,Nc,Uc]at Q;omega
  have B:(partOf l k).getD i (0,U)=l.getD (10*k+i) (0,U):=by
   rw[List.getD,List.getD,partOf,Ig,Rb A.1,ze]
  have:=L (10*k+i) A.2;rw[B,show off+10*k*2+i*2=off+(10*k+i)*2 from by omega];exact this
theorem OwnT.base{B:Nat}{l:List ByteArray}(h:OwnT w b v l)(hb:B<=b):OwnT w B v l:=qB h hb
theorem tX(t:Tx)(a0 a2 a4:Option Addr)(a1 a3 a5:Nat)(w:K)(hT:IsTx w (F #[H G t.seq,M a0 t.info.length a1,M a2 t.data.length a3,M a4 t.rev.length a5,Y t.h0.on,H G t.h0.left,Y t.h1.on,H G t.h1.left,Y t.h2.on,H G t.h2.left]) t)(hg:nA t=I)(I4:t.info.length<=a1):
  Calls Tryz.prog 128 #[F #[H G t.seq,M a0 t.info.length a1,M a2 t.data.length a3,M a4 t.rev.length a5,Y t.h0.on,H G t.h0.left,Y t.h1.on,H G t.h1.left,Y t.h2.on,H G t.h2.left]] w λe w'=>∃v',e=N v'/\OwnT w' w.heap.size v' (logB t++[lastB t])/\Below w.heap.size w w':=by
 have z:=iB hg;have HG:=zA hg;obtain⟨b0,b1,b2,b3,b4,b5,e,hM,hD,hR,n1,n2,n3⟩:=hT;simp only[Value.agg.injEq]at e
 injection e with e
 simp only[List.cons.injEq,Value.slice.injEq,true_and,and_true]at e;obtain⟨⟨rfl,rfl⟩,⟨rfl,rfl⟩,rfl,rfl⟩:=e
 have B4:(logB t).length<=20:=by
  have:=IF t z.1 z.2.2;have h2:needN (t.info.length:Int) (t.rev.length:Int)<=20:=by unfold needN;split<;>(try split)<;>(try split)<;>(try split)<;>omega
  omega
 have C3:=zA B4;have HM:=zA hM;have HR:=zA hR;clear hM hD hR n1 n2 n3 hg B4;go_enter Tryz.func128,Tryz.ntmps128
 go_upto_if 24 with fail
 obtain⟨A,H8⟩:∃A,A=w.alloc (T #[H G t.seq,M a0 t.info.length a1,M a2 t.data.length a3,M a4 t.rev.length a5,Y t.h0.on,H G t.h0.left,Y t.h1.on,H G t.h1.left,Y t.h2.on,H G t.h2.left] 52):=⟨_,rfl⟩;have K0:Hid (A.heap[w.heap.size]?=J (T #[H G t.seq,M a0 t.info.length a1,M a2 t.data.length a3,M a4 t.rev.length a5,Y t.h0.on,H G t.h0.left,Y t.h1.on,H G t.h1.left,Y t.h2.on,H G t.h2.left] 52 (0,0))):=by rw[H8];exact Cc w _
 have p:Hid (Below w.heap.size w A):=by rw[H8];exact qA _ _
 have E2:w.heap.size<A.heap.size:=by rw[H8];simp
 have HZ:Hid (A.heap.size=w.heap.size+1):=by rw[H8];simp[Hid]
 rw[<-H8];clear H8
 go_cut [3] from 21 to 37 (λs wx=>Hid (OwnT wx A.heap.size s (revB t))/\Hid (Below A.heap.size A wx))
 case first=>
  obtain⟨⟨x0,x1,x2,x3,x4,x5,x6,x7,x8,x9⟩,_⟩:=BA K0.o;by_cases h0:t.rev.length=0
  .have B1:revB t=[]:=by rw[revB,Rb h0]
   have F5:¬((0:Int)<(t.rev.length:Int)):=by omega
   have y:=zA B1;clear B1 h0;go_wp2_with fail
   go_meet
   exact⟨by rw[y.o];exact Kc _ _ _ _,Ub _ _⟩
  .have F5:(0:Int)<(t.rev.length:Int):=by omega
   have C9:revB t=[encT ⟨3,t.seq,0,[],t.rev⟩]:=by rw[revB,Qb h0]
   have y:=zA C9;clear C9;go_wp2_with fail;refine(kH _ ⟨3,t.seq,0,[],t.rev⟩ _ ⟨Z,0,a4,a5,rfl,.inl rfl,HR.o.below p.o,Vb _,by show t.rev.length<=maxLen;unfold maxLen;omega⟩ (by show 0*8<=_;omega)).mono ?_;rintro e w1 ⟨rfl,D1⟩;have u:=zA D1;clear D1 x0 x1 x2 x3 x4 x5 x6 x7 x8 x9;generalize encT ⟨3,t.seq,0,[],t.rev⟩=s1 at *;go_wp2_with (at_builtin;refine YH rfl _ _ rfl A.heap.size _ [] rfl (Kc _ _ _ _) w1.heap.size s1 rfl (by simp[go_sem]) (by simp) (ac u.o.size (by simp)) ?_);intro v' w2 B6 d;have E5:Below A.heap.size A w2:=(u.o.alloc u.o.size _).grown d (ac u.o.size (by simp)) (λj X=>by simp[Value.ownBlock]at X);go_wp2_with fail
   go_meet
   exact⟨by rw[y.o];exact B6,E5⟩
 case rest=>
  obtain⟨HO,HB⟩:=hcut;obtain⟨w1,rfl⟩:∃w1,w1=wc:=⟨_,rfl⟩;go_wp2
  go_loopw [3,6] (λs i wr=>∃k:Nat,k<=WA t.info.length 10/\i=H G ((10*k:Nat):Int)/\Hid (OwnT wr A.heap.size s (revB t++metaB t.seq t.info k))/\Hid (Below A.heap.size A wr)) (λ_ i _=>t.info.length+10 - (intOf i).toNat)
  case atStart=>exact⟨0,Vb _,rfl,by rw[show metaB t.seq t.info 0=[] from rfl,yd];exact HO,HB⟩
  case round=>
   obtain⟨k,hk,rfl,hO,R⟩:=hrel;obtain⟨B,rfl⟩:∃B,B=wr:=⟨_,rfl⟩;have hN:WA t.info.length 10=(t.info.length+9)/10:=rfl;have G4:=R.o.size;obtain⟨⟨x0,x1,x2,x3,x4,x5,x6,x7,x8,x9⟩,_⟩:=BA (yA R.o E2 K0.o);by_cases hlt:10*k<t.info.length
   .have B2:((10*k:Nat):Int)<(t.info.length:Int):=by omega
    obtain⟨b,E6,rfl,G9,_⟩:=HM.o.resolve_left (by intro e;rw[e]at hlt;simp at hlt);have A0:SegW w (J ⟨b,E6+10*k*2,Z⟩) (partOf t.info k):=IT HM.o k;have A1:=zA (A0.below (p.o));have m:=LI t.info k;have F6:k+1<=WA t.info.length 10:=by omega
    have G1:(partOf t.info k).length<=10:=by rw[partOf,Nc];omega
    have B8:∀x∈partOf t.info k,x.2.size<=maxLen:=by
     intro x L;have d:=((VA t).1 HG.o).2.1.1;unfold NB at d;have:=Zc.1 d x (Jg (bd L));simp[oA]at this;unfold maxLen;omega
    have C6:=zA B8;have A7:(partOf t.info k).length=if 10<=t.info.length - 10*k then 10 else t.info.length - 10*k:=by rw[m,UB,Zf]
    have D6:Hid (revB t++metaB t.seq t.info (k+1)=revB t++metaB t.seq t.info k++[encT ⟨2,t.seq,0,tagsOf (partOf t.info k),[]⟩]++textsOf (partOf t.info k)):=by
     rw[Hid,GF,<-od,ME];simp
    have G2:(revB t++metaB t.seq t.info k).length<=100:=by
     have:=wO t.seq t.info z.1
     have h3:(metaB t.seq t.info k).length<=(metaB t.seq t.info (WA t.info.length 10)).length:=by
      have F8:∀j,k<=j->(metaB t.seq t.info k).length<=(metaB t.seq t.info j).length:=by
       intro j X
       induction X with
       |refl=>exact Sb _
       |step h ih=>rw[GF,Yb];omega
      exact F8 _ hk
     have h4:=C3.o;rw[logB,Yb]at h4;rw[Yb];omega
    clear A0 B8 m hN;generalize revB t++metaB t.seq t.info k=dd at *;obtain⟨j,X⟩:∃j,j=10*k:=⟨_,rfl⟩;rw[<-X]at hlt B2 A7 A1|-;have HJ:=zA X;clear X;generalize partOf t.info k=part at *;have G7:¬a1=j:=by omega
    have H0:j<=1000:=by omega
    have E7:(min ((j:Int)+10) (t.info.length:Int)).toNat - j=part.length:=by rw[A7];split<;>omega
    have D7:(j:Int)<=min ((j:Int)+10) (t.info.length:Int):=by omega
    have E4:min ((j:Int)+10) (t.info.length:Int)<=(a1:Int):=by omega
    have F2:(0:Int)<=min ((j:Int)+10) (t.info.length:Int):=by omega
    have G0:=zA hO.o;clear A7 hO;go_wp2;clear E7 D7 E4 F2 x0 x1 x2 x3 x4 x5 x6 x7 x8 x9
    go_loopw [60] (λi wr=>∃(q:Nat) (tv:E),q<=part.length/\i=H G q/\Hid (wr.heap[B.heap.size]?=J (T #[H G 2,H G t.seq,H G 0,tv,M Z 0 0] 81 (0,0)))/\Hid (IH wr (B.heap.size+1) tv (tagsOf (part.take q)))/\Hid (Below B.heap.size B wr)) (λi _=>part.length - (intOf i).toNat)
    case atStart=>exact⟨0,_,Vb _,rfl,Cc B _,Kc _ _ _ _,qA _ _⟩
    case round=>
     obtain⟨q,tv,hq,rfl,hK,H5,H6⟩:=hrel;have H2:=H6.o.size;have E0:=(Wb.1 hK.o).1;obtain⟨ga,gc,rfl,A2,_⟩:=SegG.of_owns H5.o;obtain⟨⟨m0,m1,m2,m3,m4⟩,A6,A5,B0,A3,A8⟩:=LA hK.o;by_cases hql:q<part.length
     .have D2:(q:Int)<(part.length:Int):=by omega
      obtain⟨b',D3,e',D,S⟩:=A1.o.resolve_left (by intro e;rw[e]at hql;simp at hql);cases e';obtain⟨Q,O⟩:=S q hql;obtain⟨x,L⟩:∃x,x=part.getD q (0,U):=⟨_,rfl⟩;rw[<-L]at Q O;have a:part[q]?=J x:=by rw[L];exact YA _ _ _ hql
      have I3:=C6.o x (Yc a);have F4:=zA (XM a);have B3:Below A.heap.size A wr:=R.o.trans (H6.o.mono R.o.size)
      replace Q:=xA B3 D Q
      replace O:=xA B3 D O
      have H1:(tagsOf (part.take q)).length<=100:=by rw[tagsOf,xd,Nc];omega
      clear L a S B3;obtain⟨n,s⟩:=x;generalize tagsOf (part.take q)=qt at *;go_wp2_with fail;refine(LM s _ I3).mono ?_;rintro e w3 ⟨rfl,rfl⟩;generalize escT s=es at *;generalize isMagic s=im at *;go_wp2_with (at_builtin;refine IP rfl _ _ rfl (B.heap.size+1) _ qt rfl (dA (dA H5.o (qA _ _)) (qA _ _)) (wr.heap.size+1) (n,im) rfl (by simp[go_sem]) (by simp[go_sem]) (by omega) (by simp;omega) ?_);intro v1 w4 I2 A4
      have B7:J B.heap.size≠(M ga qt.length gc).ownBlock:=by
       intro e;have:=(Od H5.o _ e.symm).1;omega
      have B9:Hid (w4.heap[B.heap.size]?=J (T #[H G 2,H G t.seq,H G 0,M ga qt.length gc,M Z 0 0] 81 (0,0))):=
       (A4.block _ (by simp;omega) B7).trans (yA (vA (qA _ _) (qA _ _)) E0 hK.o)
      have E3:Hid (Below B.heap.size B w4):=((H6.o.alloc H6.o.size _).alloc (by simp;omega) _).grown A4 (by simp;omega) (λj' H3=>by have:=(Od H5.o j' H3).1;omega);have E9:=zA I2;obtain⟨C4,C7,C1,_,_⟩:=SegG.of_owns I2;have D4:v1=M C4 (qt.length+1) C7:=by rw[C1,Yb];rfl
      clear C1 I2 A4 H5 hK m0 m1 m2 m3 m4 A6 A5 B0 A3 A8 Q O B7;subst D4;obtain⟨⟨m0,m1,m2,m3,m4⟩,A6,A5,B0,A3,A8⟩:=LA B9.o;go_wp2
      go_roundw
      case rel=>exact⟨q+1,_,by omega,by go_num,zc _ _ 3 _ _ (M C4 (qt.length+1) C7) B9.o,by rw[F4.o];exact Jc E9.o (by simp) _,E3.o.setCell (by simp) _⟩
      case measure=>simp[intOf];omega
     .have D2:¬((q:Int)<(part.length:Int)):=by omega
      have e:q=part.length:=by omega
      subst e;rw[Lc]at H5 A2;have C2:=zA A2;have F9:(tagsOf part).length<=10:=by rw[tagsOf,xd];omega
      clear A2;go_wp2_with fail;refine(kH _ ⟨2,t.seq,0,tagsOf part,[]⟩ _ ⟨ga,gc,Z,0,rfl,C2.o,.inl rfl,by show(tagsOf part).length<=maxLen;unfold maxLen;omega,Vb _⟩ (by show(tagsOf part).length*8<=_;omega)).mono ?_;rintro e H4 ⟨rfl,H7⟩;have I1:Hid (Below A.heap.size A H4):=(R.o.trans (H6.o.mono R.o.size)).trans (H7.mono (by omega));have H9:Hid (OwnT H4 A.heap.size _ dd):=dA (dA G0.o H6.o) H7;clear H7 m0 m1 m2 m3 m4 A6 A5 B0 A3 A8 C2 H5 hK F9;generalize encT ⟨2,t.seq,0,tagsOf part,[]⟩=em at *;have F1:=I1.o.size;go_wp2_with (at_builtin;refine YH rfl _ _ rfl A.heap.size _ dd rfl (dA H9.o (qA _ _)) H4.heap.size em rfl (by simp[go_sem]) (by omega) (by simp;omega) ?_);intro v6 w6 C r;have l:Below A.heap.size A w6:=(I1.o.alloc I1.o.size _).grown r (by simp;omega) (λj' H3=>(Od H9.o j' H3).1);have F3:=zA C;have E1:=zA l;have G3:(dd++[em]).length<=101:=by rw[Yb];show _+1<=101;omega
      clear C r l H9 I1 H6;generalize dd++[em]=d6 at *;have G6:Hid ((textsOf part).length=part.length):=by rw[Hid,textsOf,xd]
      go_wp2
      go_loopw [3,91] (λsv i wr=>∃q:Nat,q<=part.length/\i=H G q/\Hid (OwnT wr A.heap.size sv (d6++textsOf (part.take q)))/\Hid (Below A.heap.size A wr)) (λ_ i _=>part.length - (intOf i).toNat)
      case atStart=>exact⟨0,Vb _,rfl,by rw[Ee,show textsOf []=[] from rfl,yd];exact F3,E1⟩
      case round=>
       obtain⟨q,hq,rfl,c,I0⟩:=hrel;have G5:=I0.o.size;by_cases hql:q<part.length
       .have D5:(q:Int)<(part.length:Int):=by omega
        obtain⟨b',D3,e',D,S⟩:=A1.o.resolve_left (by intro e;rw[e]at hql;simp at hql);cases e';obtain⟨Q,O⟩:=S q hql;obtain⟨x,L⟩:∃x,x=part.getD q (0,U):=⟨_,rfl⟩;rw[<-L]at Q O;have a:part[q]?=J x:=by rw[L];exact YA _ _ _ hql
        have I3:=C6.o x (Yc a);have D9:=zA (kN a)
        replace Q:=xA I0.o D Q
        replace O:=xA I0.o D O
        have G8:(d6++textsOf (part.take q)).length<=300:=by rw[Yb,textsOf,xd,Nc];omega
        clear L a S;obtain⟨n,s⟩:=x;have E8:Hid (d6++textsOf (part.take (q+1))=d6++textsOf (part.take q)++[escT s]):=by rw[Hid,D9.o,od]
        generalize d6++textsOf (part.take q)=q7 at *;go_wp2_with fail;refine(LM s _ I3).mono ?_;rintro e w3 ⟨rfl,rfl⟩;generalize escT s=es at *;generalize isMagic s=im at *;go_wp2_with (at_builtin;refine YH rfl _ _ rfl A.heap.size _ q7 rfl (dA (dA c.o (qA _ _)) (qA _ _)) (wr.heap.size+1) es rfl (by simp[go_sem]) (by omega) (by simp;omega) ?_);intro v8 w8 B5 C5;have F7:Below A.heap.size A w8:=((I0.o.alloc I0.o.size _).alloc (by simp;omega) _).grown C5 (by simp;omega) (λj' H3=>(Od c.o j' H3).1);clear C5 Q O;go_wp2
        go_roundw
        case rel=>exact⟨q+1,by omega,by go_num,by rw[E8.o];exact B5,F7⟩
        case measure=>simp[intOf];omega
       .have D5:¬((q:Int)<(part.length:Int)):=by omega
        have e:q=part.length:=by omega
        subst e;rw[Lc]at c;go_wp2
        go_roundw
        case rel=>exact⟨k+1,F6,by rw[HJ.o];go_num,by rw[D6.o];exact c,I0⟩
        case measure=>simp[intOf];omega
   .have B2:¬(((10*k:Nat):Int)<(t.info.length:Int)):=by omega
    have e:k=WA t.info.length 10:=by omega
    subst e;have C0:Hid (OwnT B A.heap.size _ (logB t)):=hO;have F0:=R.o.size;have C8:=p.o.size;go_wp2_with fail;refine(kH _ ⟨4,t.seq,0,[],[]⟩ _ ⟨Z,0,Z,0,rfl,.inl rfl,.inl rfl,Vb _,Vb _⟩ (by show 0*8<=_;omega)).mono ?_;rintro e H4 ⟨rfl,H7⟩;have A9:Hid (Below A.heap.size A H4):=R.o.trans (H7.mono F0);have H9:Hid (OwnT H4 A.heap.size _ (logB t)):=dA C0.o H7;have B4:=C3.o;have F1:=A9.o.size;have D8:Hid (lastB t=encT ⟨4,t.seq,0,[],[]⟩):=rfl;clear H7 hO C0 x0 x1 x2 x3 x4 x5 x6 x7 x8 x9;generalize encT ⟨4,t.seq,0,[],[]⟩=em at *;go_wp2_with (at_builtin;refine YH rfl _ _ rfl A.heap.size _ (logB t) rfl (dA H9.o (qA _ _)) H4.heap.size em rfl (by simp[go_sem]) (by omega) (by simp;omega) ?_);intro v6 w6 C r;have l:Below A.heap.size A w6:=(A9.o.alloc A9.o.size _).grown r (by simp;omega) (λj' H3=>(Od H9.o j' H3).1);go_wp2;go_ret;exact⟨v6,rfl,by rw[D8.o];exact OwnT.base C C8,p.o.trans (l.mono C8)⟩
theorem oS{B wr R:K}{D:Obj}{l:List St}(L:Below B.heap.size B wr)(a:LD wr B.heap.size v l)(c:((wr.alloc D).drew).grownBy R v.ownBlock):Below B.heap.size B R:=by
 have A0:=L.size;exact((L.alloc L.size D).drew).grown c (by simp;omega) (λX Q=>(Od a X Q).1)
def logStQ (t:Tx)(ps:List Int)(k:Nat):List St:=
 if k<=(logB t).length then homeS t.data++putS ps ((logB t).take k)
 else homeS t.data++putS ps ((logB t).take (logB t).length)++(if 0<(logB t).length then[flushS] else[])++[AA (1+ps.getD (logB t).length 0) (lastB t)]
theorem LR(t:Tx)(ps:List Int):logStQ t ps 0=homeS t.data:=by
 rw[logStQ,Rb (Vb _),Ee,putS,List.zipWith_nil_right,yd]
theorem vY(t:Tx)(ps:List Int)(k:Nat)(B:k<(logB t).length)(hp:k<ps.length):logStQ t ps (k+1)=logStQ t ps k++[AA (1+ps.getD k 0) ((logB t).getD k U)]:=by
 rw[logStQ,logStQ,Rb (show k+1<=_ from B),Rb (Me B),Oc,od];have A:((logB t).take k).length=k:=by rw[Nc];omega
 have e:((logB t)[k]?).toList=[(logB t).getD k U]:=by rw[List.getD,Ic B];rfl
 have:=qR (ps:=ps) (d:=(logB t).take k) (by omega) ((logB t).getD k U);rw[A]at this;rw[e,this]
theorem VZ(t:Tx)(ps:List Int):logStQ t ps ((logB t).length+1)=logStQ t ps (logB t).length++(if 0<(logB t).length then[flushS] else[])++[AA (1+ps.getD (logB t).length 0) (lastB t)]:=by
 rw[logStQ,logStQ,Qb (by omega),Rb (Sb _)]
theorem bZ(t:Tx)(ps:List Int)(k:Nat)(hl:(logB t).length<=20)(hp:(logB t).length<=ps.length)(h8:(homeS t.data).length<=301):(logStQ t ps k).length<=400:=by
 have A:∀j,j<=(logB t).length->(putS ps ((logB t).take j)).length<=20:=by
  intro j hj;rw[MF (by rw[Nc];omega),Nc];omega
 unfold logStQ;split
 .rename_i h;have:=A k h;rw[Yb];omega
 .have:=A _ (Sb _);rw[Yb,Yb,Yb];split<;>simp only[List.length_cons,List.length_nil]<;>omega
theorem eR(rh ru:Int)(t:Tx)(a0 a2 a4:Option Addr)(a1 a3 a5:Nat)(w:K)(hT:IsTx w (F #[H G t.seq,M a0 t.info.length a1,M a2 t.data.length a3,M a4 t.rev.length a5,Y t.h0.on,H G t.h0.left,Y t.h1.on,H G t.h1.left,Y t.h2.on,H G t.h2.left]) t)(M5:t.info.length<=a1)(he:NA rh ru t=0):
  Calls Tryz.prog 86 #[F #[H G rh,H G ru],F #[H G t.seq,M a0 t.info.length a1,M a2 t.data.length a3,M a4 t.rev.length a5,Y t.h0.on,H G t.h0.left,Y t.h1.on,H G t.h1.left,Y t.h2.on,H G t.h2.left]] w λe w'=>∃a c,e=N (S #[F #[H G (lB rh ru t),H G (cB rh ru t)],M a (commitS rh ru t).length c,H G 0])/\SegSt w' a (commitS rh ru t)/\Below w.heap.size w w'/\From w.heap.size a/\(commitS rh ru t).length<=c:=by
 have G9:mB rh ru=I/\nA t=I/\uC t=O:=by
  by_cases h:mB rh ru=O\/nA t=O\/uC t=I
  .rw[NA,Rb h]at he;cases he
  .simp only[not_or,Bool.not_eq_false,Bool.not_eq_true]at h;exact h
 obtain⟨hg,hx,ho⟩:=G9;have HT:=zA hT;clear hT;go_enter Tryz.func86,Tryz.ntmps86;go_wp2_with fail;refine(VM rh ru _).mono ?_;rintro e w1 ⟨rfl,C8⟩;obtain⟨K1,K2,K3,E9⟩:=dF C8;have L:=zA K1;have L4:=zA K2;have L3:=zA K3;have F9:w.heap.size<w1.heap.size:=by omega
 have D3:w.heap.size+1<w1.heap.size:=by omega
 have C3:=zA (vA (vA (vA (qA _ _) (qA _ _)) (qA _ _)) C8);clear K1 K2 K3 C8;obtain⟨⟨r0,M2⟩,_⟩:=XA L.o;obtain⟨⟨m,L8⟩,r,f1⟩:=XA L3.o;obtain⟨⟨X,q,M1,j,L9,d,u,b,M0,R⟩,_⟩:=BA L4.o;rw[hg];have HG:=zA hg;clear hg;go_wp2_with fail;refine(pF t a0 a1 a2 a3 a4 a5 _ (HT.o.below C3.o) hx).mono ?_;rintro e w2 ⟨rfl,A0⟩
 replace L:=zA (yA A0 F9 L.o)
 replace L4:=zA (yA A0 D3 L4.o)
 replace L3:=zA (yA A0 E9 L3.o)
 have A6:=zA (vA C3.o A0);have D8:=Xb E9 A0.size;have G4:w.heap.size<w2.heap.size:=by omega
 have C9:w.heap.size+1<w2.heap.size:=by omega
 clear A0 r0 M2 m L8 r f1 X q M1 j L9 d u b M0 R;obtain⟨⟨r0,M2⟩,_⟩:=XA L.o;obtain⟨⟨m,L8⟩,r,f1⟩:=XA L3.o;obtain⟨⟨X,q,M1,j,L9,d,u,b,M0,R⟩,_⟩:=BA L4.o;have B1:=zA hx;clear hx;go_wp2_with fail;refine(pQ _ t _ (HT.o.below A6.o)).mono ?_;rintro e w3 ⟨rfl,A1⟩
 replace L:=zA (yA A1 G4 L.o)
 replace L4:=zA (yA A1 C9 L4.o)
 replace L3:=zA (yA A1 D8 L3.o)
 have C1:=zA (vA A6.o A1);have D6:=Xb D8 A1.size;have F6:w.heap.size<w3.heap.size:=by omega
 have D4:w.heap.size+1<w3.heap.size:=by omega
 clear A1 r0 M2 m L8 r f1 X q M1 j L9 d u b M0 R;obtain⟨⟨r0,M2⟩,_⟩:=XA L.o;obtain⟨⟨m,L8⟩,r,f1⟩:=XA L3.o;obtain⟨⟨X,q,M1,j,L9,d,u,b,M0,R⟩,_⟩:=BA L4.o;rw[ho];have D7:=iB B1.o;have F4:=IF t D7.1 D7.2.2
 have HE:Hid (NA rh ru t=takeE rh ru (needN t.info.length t.rev.length)):=by
  rw[Hid,NA,Qb];rw[HG.o,B1.o,ho];simp
 have A9:Hid (((logB t).length:Int)+1=needN t.info.length t.rev.length):=F4
 have K9:(logB t).length<=20:=by
  have h2:needN (t.info.length:Int) (t.rev.length:Int)<=20:=by unfold needN;split<;>(try split)<;>(try split)<;>(try split)<;>omega
  omega
 clear F4 ho;go_wp2_with fail;refine(tX t a0 a2 a4 a1 a3 a5 _ (HT.o.below C1.o) B1.o M5).mono ?_;rintro e w4 ⟨bv,rfl,C0,A3⟩
 replace L:=zA (yA A3 F6 L.o)
 replace L4:=zA (yA A3 D4 L4.o)
 replace L3:=zA (yA A3 D6 L3.o)
 have H8:=zA (vA C1.o A3);have E8:=Xb D6 A3.size;have G0:w.heap.size<w4.heap.size:=by omega
 have D5:w.heap.size+1<w4.heap.size:=by omega
 clear A3 r0 M2 m L8 r f1 X q M1 j L9 d u b M0 R;obtain⟨⟨r0,M2⟩,_⟩:=XA L.o;obtain⟨⟨m,L8⟩,r,f1⟩:=XA L3.o;obtain⟨⟨X,q,M1,j,L9,d,u,b,M0,R⟩,_⟩:=BA L4.o;have J7:=zA C0;obtain⟨ba,bc,rfl,E6,_⟩:=SegX.of_owns C0;have B3:=zA E6;have H6:(logB t++[lastB t]).length=(logB t).length+1:=by rw[Yb];rfl
 rw[H6];clear C0 E6;have C2:Hid (NA rh ru t=takeE rh ru (((logB t).length:Int)+1)):=by rw[Hid,HE.o,<-A9.o]
 have B0:Hid (NA rh ru t=0->lB rh ru t=takeH rh ru (((logB t).length:Int)+1)/\cB rh ru t=takeU rh ru (((logB t).length:Int)+1)/\sealP rh ru t=takeL rh ru (((logB t).length:Int)+1)):=by
  intro e0;rw[lB,cB,sealP,Rb e0,Rb e0,Rb e0,<-A9.o];exact⟨rfl,rfl,rfl⟩
 go_wp2_with fail;refine(Gb rh ru (((logB t).length:Int)+1) _).mono ?_;rintro e y ⟨pa,pc,rfl,C6,Q⟩
 replace B3:=zA (B3.o.below Q)
 replace L:=zA (yA Q G0 L.o)
 replace L4:=zA (yA Q D5 L4.o)
 replace L3:=zA (yA Q E8 L3.o)
 have I0:=zA (vA H8.o Q);have E0:=Xb E8 Q.size;have G3:w.heap.size<y.heap.size:=by omega
 have D2:w.heap.size+1<y.heap.size:=by omega
 clear Q r0 M2 m L8 r f1 X q M1 j L9 d u b M0 R;obtain⟨⟨r0,M2⟩,_⟩:=XA L.o;obtain⟨⟨m,L8⟩,r,f1⟩:=XA L3.o;obtain⟨⟨X,q,M1,j,L9,d,u,b,M0,R⟩,_⟩:=BA L4.o;have E7:takeE rh ru (((logB t).length:Int)+1)=0:=by rw[<-C2.o];exact he
 obtain⟨e1,e2,e3⟩:=B0.o he;have B6:=cK he;rw[E7,<-e1,<-e2,<-e3];rw[<-e3]at C6;have E4:=zA C6.1;have HC:Hid (commitS rh ru t=(homeS t.data++putS (sealP rh ru t) (logB t)++(if 0<t.rev.length+t.info.length then[flushS] else[]))++[AA (1+(sealP rh ru t).getD (logB t).length 0) (lastB t)]++[flushS]):=by rw[Hid,commitS,Rb he]
 have z:=zA B6.2.2.1;have G5:=zA B6.2.2.2;have J4:=zA he
 have F3:(0<t.rev.length+t.info.length)↔0<(logB t).length:=by
  have h9:=A9.o;unfold needN at h9;split at h9<;>(try split at h9)<;>(try split at h9)<;>(try split at h9)<;>omega
 have HZ:=zA F3
 have H7:Hid (SegW w a2 t.data):=by
  obtain⟨b0,b1,b2,b3,b4,b5,e,hM,hD,hR,n1,n2,n3⟩:=HT.o;simp only[Value.agg.injEq]at e
  injection e with e
  simp only[List.cons.injEq,Value.slice.injEq,true_and,and_true]at e;obtain⟨⟨rfl,rfl⟩,⟨rfl,rfl⟩,rfl,rfl⟩:=e;exact hD
 clear C6 B6 he e1 e2 e3 E7 F3 B0 C2 HE A9 M5 HG HT C3 A6 C1;generalize sealP rh ru t=PS at *;generalize hsH:lB rh ru t=sH at *;generalize hsU:cB rh ru t=sU at *;have B0:=zA hsH;have H5:=zA hsU;clear hsH hsU;go_wp2;obtain⟨L1,A7⟩:∃L1,L1=y.alloc (T #[H G sH,H G sU] 39):=⟨_,rfl⟩;have KN:Hid (L1.heap[y.heap.size]?=J (T #[H G sH,H G sU] 39 (0,0))):=by rw[A7];exact Cc y _
 have M4:Below y.heap.size y L1:=by rw[A7];exact qA _ _
 have B7:y.heap.size<L1.heap.size:=by rw[A7];simp
 have B9:=zA (vA I0.o M4);have G8:=zA (E4.o.below M4);have G7:=zA (B3.o.below M4);rw[<-A7]
 replace L:=zA (yA M4 G3 L.o)
 replace L4:=zA (yA M4 D2 L4.o)
 replace L3:=zA (yA M4 E0 L3.o)
 clear A7 M4 E4 B3 X q M1 j L9 d u b M0 R m L8 r f1 r0 M2
 go_loopw [11,46] (λs i wr=>∃k:Nat,k<=t.data.length/\i=H G k/\Hid (LD wr L1.heap.size s (homeM (t.data.take k)))/\Hid (Below L1.heap.size L1 wr)) (λ_ i _=>t.data.length - (intOf i).toNat)
 case atStart=>exact⟨0,Vb _,rfl,Kc _ _ _ _,Ub _ _⟩
 case round=>
  obtain⟨k,hk,rfl,E,C⟩:=hrel;have H1:=C.o.size;by_cases hql:k<t.data.length
  .have A5:(k:Int)<(t.data.length:Int):=by omega
   obtain⟨b',I4,e',B8,F0⟩:=(H7.o.below B9.o).resolve_left (by intro e;rw[e]at hql;simp at hql);subst e';obtain⟨L5,g2⟩:=F0 k hql;obtain⟨x,hx⟩:∃x,x=t.data.getD k (0,U):=⟨_,rfl⟩;rw[<-hx]at L5 g2;have HX:t.data[k]?=J x:=by rw[hx];exact YA _ _ _ hql
   have H0:=zA (oL HX);have H9:0<=x.1/\x.1<=11:=((zB _).1 ((VA t).1 B1.o).2.2.1.2.1).1 x.1 (Wc.2 ⟨x,Yc HX,rfl⟩)
   replace L5:=xA C.o B8 L5
   replace g2:=xA C.o B8 g2
   have J8:(homeM (t.data.take k)).length<=300:=by rw[yD,Nc];omega
   clear hx HX F0;obtain⟨n,s⟩:=x;obtain⟨K8,J1⟩:0<=n/\n<=11:=H9;generalize homeM (t.data.take k)=q7 at *;obtain⟨sa,sc,rfl,_,_⟩:=SegSt.of_owns E.o;go_wp2_with (at_builtin;refine dE rfl _ _ rfl L1.heap.size _ q7 rfl (dA (dA E.o (qA _ _)) (qA _ _)) (wr.heap.size+1) (AA (25+n) s) rfl (by simp[go_sem,AA]) (by simp[go_sem,AA]) (by simp[go_sem,AA]) (by omega) (by simp;omega) ?_);intro v8 p B D;have L6:Below L1.heap.size L1 p:=((C.o.alloc C.o.size _).alloc (by simp;omega) _).grown D (by simp;omega) (λj' L2=>(Od E.o j' L2).1);clear D L5 g2;go_wp2
   go_roundw
   case rel=>exact⟨k+1,by omega,by go_num,by rw[H0.o];exact B,L6⟩
   case measure=>simp[intOf];omega
  .have A5:¬((k:Int)<(t.data.length:Int)):=by omega
   have e:k=t.data.length:=by omega
   subst e;rw[Lc]at E;obtain⟨⟨X,q,M1,j,L9,d,u,b,M0,R⟩,_⟩:=BA (yA C.o (by omega) L4.o);obtain⟨sa,sc,rfl,_,_⟩:=SegSt.of_owns E.o
   go_upto_if 63 with fail
   go_cut [11] from 43 to 67 (λs wx=>Hid (LD wx L1.heap.size s (homeS t.data))/\Hid (Below L1.heap.size L1 wx))
   case first=>
    have K6:(homeM t.data).length<=300:=by rw[yD];omega
    by_cases h0:t.data.length=0
    .have C5:¬((0:Int)<(t.data.length:Int)):=by omega
     have B4:Hid (homeS t.data=homeM t.data):=by rw[Hid,homeS,Rb h0,yd]
     clear h0;generalize homeM t.data=q7 at *;go_wp2_with fail
     go_meet
     exact⟨by rw[B4.o];exact E.o,C.o⟩
    .have C5:(0:Int)<(t.data.length:Int):=by omega
     have B4:Hid (homeS t.data=homeM t.data++[flushS]):=by rw[Hid,homeS,Qb h0]
     clear h0;generalize homeM t.data=q7 at *;go_wp2_with (at_builtin;refine dE rfl _ _ rfl L1.heap.size _ q7 rfl (dA E.o (qA _ _)) wr.heap.size flushS rfl (by simp[go_sem,flushS]) (by simp[go_sem,flushS]) (by simp[go_sem,flushS]) (by omega) (by simp;omega) ?_);intro v8 p B D;have L6:Below L1.heap.size L1 p:=(C.o.alloc C.o.size _).grown D (by simp;omega) (λj' L2=>(Od E.o j' L2).1);clear D;go_wp2_with fail
     go_meet
     exact⟨by rw[B4.o];exact B,L6⟩
   case rest=>
    obtain⟨H3,A6⟩:=hcut;have G6:(homeS t.data).length<=301:=by rw[homeS,Yb,yD];split<;>simp<;>omega
    have I2:Hid (∀k,k<(logB t).length->logStQ t PS (k+1)=logStQ t PS k++[AA (1+PS.getD k 0) ((logB t).getD k U)]):=λk hk=>vY t PS k hk (by rw[z.o];omega);have F1:Hid (logStQ t PS ((logB t).length+1)=logStQ t PS (logB t).length++(if 0<(logB t).length then[flushS] else[])++[AA (1+PS.getD (logB t).length 0) (lastB t)]):=VZ t PS
    have G1:Hid (commitS rh ru t=logStQ t PS ((logB t).length+1)++[flushS]):=by
     rw[Hid,HC.o,F1.o,logStQ,Rb (Sb _),Lc];by_cases hz:0<(logB t).length
     .rw[Rb hz,Rb (HZ.o.2 hz)]
     .rw[Qb hz,Qb (λh=>hz (HZ.o.1 h))]
    have E3:Hid (∀k,k<=(logB t).length+1->(logStQ t PS k).length<=400):=λk _=>bZ t PS k (by omega) (by rw[z.o];omega) G6;clear HC HZ;go_wp2
    go_loopw [11,70] (λs i wr=>∃k:Nat,k<=(logB t).length+1/\i=H G k/\Hid (LD wr L1.heap.size s (logStQ t PS k))/\Hid (Below L1.heap.size L1 wr)) (λ_ i _=>(logB t).length+1 - (intOf i).toNat)
    case atStart=>exact⟨0,Vb _,rfl,by rw[LR];exact H3,A6⟩
    case round=>
     obtain⟨k,hk,rfl,E,C⟩:=hrel;have H1:=C.o.size;by_cases hql:k<(logB t).length+1
     .have A5:(k:Int)<((logB t).length:Int)+1:=by omega
      obtain⟨b1,I3,e',F8,A8⟩:=G7.o.resolve_left (by simp);subst e';obtain⟨b2,I6,e',C4,A4⟩:=G8.o.resolve_left (by intro e;have:=z.o;rw[e]at this;simp at this);subst e';have L5:=xA C.o F8 (A8 k (by rw[Yb];exact hql));have H2:=A4 k (by rw[z.o];exact hql);have g2:=xA C.o C4 (A4 k (by rw[z.o];exact hql));have J9:k<PS.length:=by rw[z.o];exact hql
      have I7:(k:Int)<(PS.length:Int):=by omega
      obtain⟨K7,K4⟩:=G5.o k;have I1:=E3.o k hk;obtain⟨sa,sc,rfl,_,_⟩:=SegSt.of_owns E.o;by_cases hkl:k<(logB t).length
      .have I9:¬(k:Int)=((logB t).length:Int):=by omega
       have I8:¬k=(logB t).length:=by omega
       have E2:=I2.o k hkl;rw[List.getD,ve hkl]at L5
       change _=J (A ((logB t).getD k U)) at L5
       have M3:=zA E2;clear E2 A8 A4;generalize (logB t).getD k U=sk at *;generalize PS.getD k 0=pk at *;generalize logStQ t PS k=q7 at *;go_wp2_with (at_builtin;refine dE rfl _ _ rfl L1.heap.size _ q7 rfl (dA E.o (qA _ _)) wr.heap.size (AA (1+pk) sk) rfl (by simp[go_sem,AA]) (by simp[go_sem,AA]) (by simp[go_sem,AA]) (by omega) (by simp;omega) ?_);intro v8 p B D;have L6:Below L1.heap.size L1 p:=(C.o.alloc C.o.size _).grown D (by simp;omega) (λj' L2=>(Od E.o j' L2).1);clear D L5 g2;go_wp2
       go_roundw
       case rel=>exact⟨k+1,by omega,by go_num,by rw[M3.o];exact B,L6⟩
       case measure=>simp[intOf];omega
      .have H4:k=(logB t).length:=by omega
       rw[List.getD,ke (by omega),show k - (logB t).length=0 from by omega]at L5
       change _=J (A (lastB t)) at L5
       have M3:=F1;clear A8 A4 hkl hql A5 hk;subst H4;generalize lastB t=sk at *;generalize PS.getD (logB t).length 0=pk at *;by_cases h0:0<(logB t).length
       .have C5:(0:Int)<((logB t).length:Int):=by omega
        replace M3:Hid (logStQ t PS ((logB t).length+1)=logStQ t PS (logB t).length++[flushS]++[AA (1+pk) sk]):=by rw[Hid,M3.o,Rb h0]
        generalize logStQ t PS (logB t).length=q7 at *;go_wp2_with (at_builtin;refine dE rfl _ _ rfl L1.heap.size _ q7 rfl (dA E.o (qA _ _)) wr.heap.size (flushS) rfl (by simp[go_sem,flushS]) (by simp[go_sem,flushS]) (by simp[go_sem,flushS]) (by omega) (by simp;omega) ?_);intro v8 p B D;have L6:Below L1.heap.size L1 p:=(C.o.alloc C.o.size _).grown D (by simp;omega) (λj' L2=>(Od E.o j' L2).1);have B5:=zA B;have E5:=zA L6;have J0:=L6.size;have g3:=xA L6 C4 H2;have I5:(q7++[flushS]).length<=401:=by rw[Yb];simp only[List.length_cons,List.length_nil];omega
        clear D L5 g2 B L6;obtain⟨J2,J5,rfl,_,_⟩:=SegSt.of_owns B5.o;generalize q7++[flushS]=q8 at *;go_wp2_with (at_builtin;refine dE rfl _ _ rfl L1.heap.size _ q8 rfl (dA B5.o (qA _ _)) p.heap.size (AA (1+pk) sk) rfl (by simp[go_sem,AA]) (by simp[go_sem,AA]) (by simp[go_sem,AA]) (by omega) (by simp;omega) ?_);intro v9 w9 D1 F2;have A2:Below L1.heap.size L1 w9:=(E5.o.alloc E5.o.size _).grown F2 (by simp;omega) (λj' L2=>(Od B5.o j' L2).1);clear F2 g3;go_wp2
        go_roundw
        case rel=>exact⟨(logB t).length+1,by omega,by go_num,by rw[M3.o];exact D1,A2⟩
        case measure=>simp[intOf]
       .have C5:¬(0:Int)<((logB t).length:Int):=by omega
        replace M3:Hid (logStQ t PS ((logB t).length+1)=logStQ t PS (logB t).length++[AA (1+pk) sk]):=by rw[Hid,M3.o,Qb h0,yd]
        generalize logStQ t PS (logB t).length=q7 at *;go_wp2_with (at_builtin;refine dE rfl _ _ rfl L1.heap.size _ q7 rfl (dA E.o (qA _ _)) wr.heap.size (AA (1+pk) sk) rfl (by simp[go_sem,AA]) (by simp[go_sem,AA]) (by simp[go_sem,AA]) (by omega) (by simp;omega) ?_);intro v8 p B D;have L6:Below L1.heap.size L1 p:=(C.o.alloc C.o.size _).grown D (by simp;omega) (λj' L2=>(Od E.o j' L2).1);clear D L5 g2;go_wp2
        go_roundw
        case rel=>exact⟨(logB t).length+1,by omega,by go_num,by rw[M3.o];exact B,L6⟩
        case measure=>simp[intOf]
     .have A5:¬((k:Int)<((logB t).length:Int)+1):=by omega
      have e:k=(logB t).length+1:=by omega
      subst e;obtain⟨sa,sc,rfl,_,_⟩:=SegSt.of_owns E.o;obtain⟨⟨n0,n1⟩,_⟩:=XA (yA C.o B7 KN.o);obtain⟨⟨m,L8⟩,r,f1⟩:=XA (yA C.o (by omega) L3.o);have I1:=E3.o _ (Sb _);have C7:Hid (commitS rh ru t=logStQ t PS ((logB t).length+1)++[flushS]):=G1;generalize logStQ t PS ((logB t).length+1)=q7 at *;have L0:y.heap.size<wr.heap.size:=by omega
      have K5:w.heap.size+1+1<wr.heap.size:=by omega
      go_wp2
      go_region_law (refine WK rfl (.tmp 100) (.tmp 102) rfl L1.heap.size (M sa q7.length sc) q7 (by simp[Act.eval]) (by first|exact dA E.o ((qA _ _).drew)|exact dA (dA E.o ((Ub _ _).drew)) (qA _ _)) wr.heap.size flushS (by first|(simp[Act.eval];done)) (by first|(simp[go_sem,flushS];done)|(show(wr.alloc _).cell? _=_;simp[go_sem,flushS];done)|(show wr.drew.cell? _=_;simp[go_sem,flushS];done)) (by first|(simp[go_sem,flushS];done)|(show(wr.alloc _).cell? _=_;simp[go_sem,flushS];done)|(show wr.drew.cell? _=_;simp[go_sem,flushS];done)) (by first|(simp[go_sem,flushS];done)|(show(wr.alloc _).cell? _=_;simp[go_sem,flushS];done)|(show wr.drew.cell? _=_;simp[go_sem,flushS];done)) (by omega) (by first|(simp;omega)|(show _<=(wr.alloc _).heap.size;simp;omega)) ?_;intro v' w9 B2 E1;have A2:Below L1.heap.size L1 w9:=(by first|exact oS C.o E.o E1|exact grownDrew2Q C.o E.o E1);(obtain⟨⟨z0,z1⟩,e0,e1⟩:=XA (yA A2 (Nat.lt_trans E0 B7) L3.o));have J6:=A2.size;(obtain⟨⟨q0,q1⟩,_⟩:=XA (yA A2 B7 KN.o));have J3:y.heap.size<w9.heap.size:=(by omega);have K0:w.heap.size+1+1<w9.heap.size:=(by omega);(obtain⟨a5,c5,rfl,_,_⟩:=SegSt.of_owns B2))
      all_goals
       have D9:=Jc (Jc B2 (a:=⟨w.heap.size+1+1,0,Z⟩) (by simp;omega) (H G sH)) (a:=⟨w.heap.size+1+1,1,Z⟩) (by simp;omega) (H G sU);obtain⟨a6,c6,e6,G2,F7⟩:=SegSt.of_owns (l:=q7++[flushS]) D9;cases e6;have F5:=OG D9 rfl;go_wp2;refine Tb (v:=S #[F #[H G sH,H G sU],M a5 (q7.length+1) c5,H G 0]) (by simp[results,Tryz.results86,go_sem,z0,z1]) rfl ⟨a5,c5,by rw[B0.o,H5.o,C7.o,Yb];rfl,by rw[C7.o];exact G2,?_,(λx o e=>ac B9.o.size (F7 x o e)),by rw[C7.o];simpa using F5⟩
       repeat refine Zb ?_ (by simp;try omega) _
       exact vA B9.o A2
