import Derived.Test.YtjnpndfpajjihadGreatGrJournalRuns17
import Derived.Test.YtjnpndfpajjihadGreatGrJournalRuns22
import Derived.Deep.RegionHeld3
import Derived.Test.YtjnpndfpajjihadGreatGrJournalRuns3
set_option maxRecDepth 100000
set_option maxHeartbeats 40000000
namespace Go.Proofs.YtjnpndfpajjihadGreat
open Go.Proofs.Tryz
open Go.RowKit
open Value renaming int -> H,slice -> M,string -> A,bool -> Y,agg -> F,tuple -> S
open IntKind renaming i64 -> G
open Option renaming none -> Z,some -> J
open Bool renaming false -> O,true -> I
open Go renaming World -> K,Value -> E
open Obj renaming cells -> T
open Ending renaming returned -> N
open _root_.ByteArray renaming empty -> U
theorem gF(t:Tx):nA t=(sA t.seq 1 2147483647&&(NB t.info&&NB t.data)&&(iA (blksOf t.info)&&iA (blksOf t.data)&&iA t.rev)&&decide (YC t).Nodup&&(hdB t.h0&&hdB t.h1&&hdB t.h2)):=rfl
theorem yJ(v:E)(t:Tx)(w:K)(hT:IsTx w v t)(r1:t.info.length*24<=140737488355328)(r2:t.data.length*24<=140737488355328):
  Calls prog 102 #[v] w λe w'=>e=N (Y (nA t))/\Below w.heap.size w w':=by
 obtain⟨a,c,j,q,r,d,rfl,hM,hD,hR,n1,n2,n3⟩:=hT;have HM:=zA hM;have HD:=zA hD;have HR:=zA hR;have N1:=zA n1;have N2:=zA n2;have N3:=zA n3;clear hM hD hR n1 n2 n3
 cases h0:sA t.seq 1 2147483647 with
 |false=>
  have C:Hid (nA t=O):=by rw[Hid,gF,h0];rfl
  go_enter func102,ntmps102;go_wp2_with (go_at_call 104;refine(bC _ _ _ _).mono ?_;rintro e w' ⟨rfl,rfl⟩);go_ret;exact⟨by rw[C.o];rfl,qA _ _⟩
 |true=>
  have H0:=zA h0;go_enter func102,ntmps102;go_wp2_with (go_at_call 104;refine(bC _ _ _ _).mono ?_;rintro e w' ⟨rfl,rfl⟩);clear h0;refine(IQ a c t.info _ (HM.o.below (qA _ _)) N1.o).mono ?_;rintro e w1 ⟨rfl,B7⟩;have A7:w.heap.size<w1.heap.size:=by have:=B7.size;simp at this;omega
  have K1:=zA (TG B7);obtain⟨⟨_,p,l,U,_⟩,_⟩:=BA K1.o;have L:=zA (vA (qA _ _) B7);clear B7
  cases h1:NB t.info with
  |false=>
   have C:Hid (nA t=O):=by rw[Hid,gF,h1];simp
   go_wp2;go_ret;exact⟨by rw[C.o];rfl,L.o⟩
  |true=>
   have H1:=zA h1;clear h1;go_wp2_with fail;refine(IQ j q t.data _ (HD.o.below L.o) N2.o).mono ?_;rintro e F ⟨rfl,B8⟩;have B9:w.heap.size<F.heap.size:=by have:=B8.size;omega
   have K2:=zA (yA B8 A7 K1.o);have B6:=zA (vA L.o B8);clear B8 K1 p l U L;obtain⟨⟨x0,p,l,U,s,y,z,u,m,k⟩,_⟩:=BA K2.o
   cases h2:NB t.data with
   |false=>
    have C:Hid (nA t=O):=by rw[Hid,gF,h2];simp
    go_wp2;go_ret;exact⟨by rw[C.o];rfl,B6.o⟩
   |true=>
    have H2:=zA h2;clear h2;go_wp2
    have C0:Hid (∀w',Below F.heap.size F w'->Hid (Below F.heap.size F w')/\w'.cell? ⟨w.heap.size,1,Z⟩=J (M a t.info.length c)/\w'.cell? ⟨w.heap.size,2,Z⟩=J (M j t.data.length q)):=
     λw' hb=>⟨hb,xA hb B9 p,xA hb B9 l⟩
    clear x0 p l U s y z u m k
    go_region_held3 (λw'=>Hid (Below F.heap.size F w')/\w'.cell? ⟨w.heap.size,1,Z⟩=J (M a t.info.length c)/\w'.cell? ⟨w.heap.size,2,Z⟩=J (M j t.data.length q))
     (first|exact C0.o _ ((Ub _ _).drew)|(refine C0.o _ ?_;assumption))
     (first
      |(go_at_call_of 155 (t.info);(have A:=(‹Hid (Below F.heap.size F _)/\_›).1);have I:=zA A.o;refine(MO a c t.info _ ?_ r1).mono ?_;exact HM.o.below (vA B6.o A.o);clear A;rintro e B2 ⟨R,X,rfl,A1,D⟩;have A9:=vA I.o D;have A6:=zA A1;clear D I A1)
      |(go_at_call_of 155 (t.data);(have A:=(‹Hid (Below F.heap.size F _)/\_›).1);have I:=zA A.o;refine(MO j q t.data _ ?_ r2).mono ?_;exact HD.o.below (vA B6.o A.o);clear A;rintro e B ⟨B5,h,rfl,A4,D⟩;have A9:=vA I.o D;have A3:=zA A4;have b:=zA (A6.o.below D);clear D I A4))
    have A:=(‹Hid (Below F.heap.size F B)/\_›).1;have B4:=zA (vA B6.o A.o);have A5:w.heap.size<B.heap.size:=by have:=A.o.size;omega
    have K3:=zA (yA A.o B9 K2.o);have A0:=zA (HR.o.below B4.o);obtain⟨⟨_,_,_,U,s,y,z,u,m,k⟩,_⟩:=BA K3.o;have rM:=oJ R X (blksOf t.info) B b.o (by rw[QE];exact N1.o);have rD:=oJ B5 h (blksOf t.data) B A3.o (by rw[QE];exact N2.o);have rR:=oJ r d t.rev B A0.o N3.o;rw[QE]at rM rD;clear A C0 HM HD HR;go_wp2_with fail;refine rM.mono ?_;rintro e Q ⟨rfl,rfl⟩
    cases h3:iA (blksOf t.info) with
    |false=>
     have C:Hid (nA t=O):=by rw[Hid,gF,h3];simp
     go_wp2;go_ret;exact⟨by rw[C.o];rfl,B4.o⟩
    |true=>
     go_wp2_with fail;refine rD.mono ?_;rintro e Q ⟨rfl,rfl⟩
     cases h4:iA (blksOf t.data) with
     |false=>
      have C:Hid (nA t=O):=by rw[Hid,gF,h4];simp
      go_wp2;go_ret;exact⟨by rw[C.o];rfl,B4.o⟩
     |true=>
      go_wp2_with fail;refine rR.mono ?_;rintro e Q ⟨rfl,rfl⟩
      cases h5:iA t.rev with
      |false=>
       have C:Hid (nA t=O):=by rw[Hid,gF,h5];simp
       go_wp2;go_ret;exact⟨by rw[C.o];rfl,B4.o⟩
      |true=>
       have q3:=zG h3;have q4:=zG h4;have q5:=zG h5;have HN:=zA (rX t h3 h4 h5);have HF:Hid (flatI [(R,X,blksOf t.info),(B5,h,blksOf t.data),(r,d,t.rev)]=YC t):=by simp[Hid,flatI,YC]
       have HL:Hid (∀w',Below B.heap.size B w'->w'.cell? ⟨B.heap.size,0,Z⟩=J (M R (blksOf t.info).length X)->w'.cell? ⟨B.heap.size,1,Z⟩=J (M B5 (blksOf t.data).length h)->w'.cell? ⟨B.heap.size,2,Z⟩=J (M r t.rev.length d)->B.heap.size<w'.heap.size->jH w' B.heap.size [(R,X,blksOf t.info),(B5,h,blksOf t.data),(r,d,t.rev)]):=by
        intro w' hb c0 c1 c2 A8;refine⟨A8,λi x hx=>?_⟩
        match i,hx with
        |0,hx=>cases hx;exact⟨c0,b.o.below hb⟩
        |1,hx=>cases hx;exact⟨c1,A3.o.below hb⟩
        |2,hx=>cases hx;exact⟨c2,A0.o.below hb⟩
        |n+3,hx=>simp at hx
       go_wp2_with fail;refine(DT B.heap.size 3 3 [(R,X,blksOf t.info),(B5,h,blksOf t.data),(r,d,t.rev)] _ rfl (by omega) (HL.o _ (qA _ _) (by rw[QE];simp[go_sem]) (by rw[QE];simp[go_sem]) (by simp[go_sem]) (by simp)) (by rw[HF.o,YC,Yb,Yb];omega)).mono ?_;rintro e Q ⟨rfl,S⟩;rw[HF.o,HN.o];have B3:=vA (qA _ _) S;have A2:=zA (vA B4.o B3);have B0:w.heap.size<Q.heap.size:=by have:=B3.size;omega
       have K4:=zA (yA B3 A5 K3.o);clear U s y z u m k S B3;obtain⟨⟨_,_,_,_,s,y,z,u,m,k⟩,_⟩:=BA K4.o
       cases h6:decide (YC t).Nodup with
       |false=>
        have C:Hid (nA t=O):=by rw[Hid,gF,h6];simp
        go_wp2;go_ret;exact⟨by rw[C.o];rfl,A2.o⟩
       |true=>
        have C:Hid (nA t=(hdB t.h0&&hdB t.h1&&hdB t.h2)):=by rw[Hid,gF,H0.o,H1.o,H2.o,h3,h4,h5,h6];simp
        go_wp2_with fail;refine(BY t.h0 t.h1 t.h2 _).mono ?_;rintro e B1 ⟨rfl,B3⟩;go_wp2;go_ret;exact⟨by rw[C.o];rfl,vA A2.o B3⟩
theorem iB{t:Tx}(h:nA t=I):t.info.length<=12/\t.data.length<=12/\t.rev.length<=12:=by
 have:=(VA t).1 h;have A:=zG this.2.2.1.1;have B:=zG this.2.2.1.2.1;have C:=zG this.2.2.1.2.2;rw[QE]at A B;exact⟨A,B,C⟩
open Go.Proofs.Tryz
def NA (h u:Int)(t:Tx):Int:=if mB h u=O\/nA t=O\/uC t=I then 2 else takeE h u (needN t.info.length t.rev.length)
def lB (h u:Int)(t:Tx):Int:=if NA h u t=0 then takeH h u (needN t.info.length t.rev.length) else h
def cB (h u:Int)(t:Tx):Int:=if NA h u t=0 then takeU h u (needN t.info.length t.rev.length) else u
def sealP (h u:Int)(t:Tx):List Int:=if NA h u t=0 then takeL h u (needN t.info.length t.rev.length) else[]
theorem KY(h u:Int)(v:E)(t:Tx)(w:K)(hT:IsTx w v t)(r1:t.info.length*24<=140737488355328)(r2:t.data.length*24<=140737488355328):
  Calls prog 173 #[F #[H G h,H G u],v] w λe w'=>∃a c,e=N (S #[F #[H G (lB h u t),H G (cB h u t)],M a (sealP h u t).length c,H G (NA h u t)])/\(SegI w' a (sealP h u t)/\(∀b A8,a=J ⟨b,A8,Z⟩->w.heap.size<=b)/\(sealP h u t).length<=c)/\Below w.heap.size w w':=by
 have HT:=zA hT;obtain⟨a0,a1,a2,a3,a4,a5,rfl,_,_,_,n1,n2,n3⟩:=hT;go_enter func173,ntmps173;go_wp2_with fail;refine(ZP h u _).mono ?_;rintro e w1 ⟨rfl,k⟩;obtain⟨K1,K2,K3,y⟩:=dF k;have A9:=zA K1;have L:=zA K2;have I:=zA K3;have A1:w.heap.size<w1.heap.size:=by omega
 have p:w.heap.size+1<w1.heap.size:=by omega
 have O:=zA (vA (vA (vA (qA _ _) (qA _ _)) (qA _ _)) k);clear K1 K2 K3 k;obtain⟨⟨B2,B4⟩,_⟩:=XA A9.o;obtain⟨⟨D,C⟩,R,f1⟩:=XA I.o;obtain⟨⟨B5,n,i,X,U,j,m,Y,l,d⟩,_⟩:=BA L.o
 cases hg:mB h u with
 |false=>
  have B:Hid (NA h u t=2):=by rw[Hid,NA,Rb (.inl hg)]
  have A:Hid (lB h u t=h/\cB h u t=u/\sealP h u t=[]):=by simp[Hid,lB,cB,sealP,B.o]
  go_wp2;refine Tb (v:=S #[F #[H G h,H G u],M Z 0 0,H G 2]) (by simp[results,results173,go_sem,D,C]) rfl ⟨Z,0,by rw[B.o,A.o.1,A.o.2.1,A.o.2.2];rfl,⟨.inl A.o.2.2,λ_ _ e=>(by cases e),(by rw[A.o.2.2];exact Sb _)⟩,?_⟩
  repeat refine Zb ?_ (by simp;try omega) _
  exact O.o
 |true=>
  have HG:=zA hg;clear hg;go_wp2_with fail;refine(yJ _ t _ (HT.o.below O.o) r1 r2).mono ?_;rintro e w2 ⟨rfl,B0⟩
  replace A9:=zA (yA B0 A1 A9.o)
  replace L:=zA (yA B0 p L.o)
  replace I:=zA (yA B0 y I.o)
  have Q:=zA (vA O.o B0);have z:=Xb y B0.size;have A2:w.heap.size<w2.heap.size:=by omega
  have q:w.heap.size+1<w2.heap.size:=by omega
  clear B0 B2 B4 D C R f1 B5 n i X U j m Y l d O;obtain⟨⟨B2,B4⟩,_⟩:=XA A9.o;obtain⟨⟨D,C⟩,R,f1⟩:=XA I.o;obtain⟨⟨B5,n,i,X,U,j,m,Y,l,d⟩,_⟩:=BA L.o
  cases hx:nA t with
  |false=>
   have B:Hid (NA h u t=2):=by rw[Hid,NA,Rb (.inr (.inl hx))]
   have A:Hid (lB h u t=h/\cB h u t=u/\sealP h u t=[]):=by simp[Hid,lB,cB,sealP,B.o]
   go_wp2;refine Tb (v:=S #[F #[H G h,H G u],M Z 0 0,H G 2]) (by simp[results,results173,go_sem,D,C]) rfl ⟨Z,0,by rw[B.o,A.o.1,A.o.2.1,A.o.2.2];rfl,⟨.inl A.o.2.2,λ_ _ e=>(by cases e),(by rw[A.o.2.2];exact Sb _)⟩,?_⟩
   repeat refine Zb ?_ (by simp;try omega) _
   exact Q.o
  |true=>
   have x:=zA hx;clear hx;go_wp2_with fail;refine(cO _ t _ (HT.o.below Q.o)).mono ?_;rintro e w3 ⟨rfl,B1⟩
   replace A9:=zA (yA B1 A2 A9.o)
   replace L:=zA (yA B1 q L.o)
   replace I:=zA (yA B1 z I.o)
   have s:=zA (vA Q.o B1);have r:=Xb z B1.size;have A5:w.heap.size<w3.heap.size:=by omega
   clear B1 B2 B4 D C R f1 B5 n i X U j m Y l d Q;obtain⟨⟨B2,B4⟩,_⟩:=XA A9.o;obtain⟨⟨D,C⟩,R,f1⟩:=XA I.o;obtain⟨⟨B5,n,i,X,U,j,m,Y,l,d⟩,_⟩:=BA L.o
   cases ho:uC t with
   |true=>
    have B:Hid (NA h u t=2):=by rw[Hid,NA,Rb (.inr (.inr ho))]
    have A:Hid (lB h u t=h/\cB h u t=u/\sealP h u t=[]):=by simp[Hid,lB,cB,sealP,B.o]
    go_wp2;refine Tb (v:=S #[F #[H G h,H G u],M Z 0 0,H G 2]) (by simp[results,results173,go_sem,D,C]) rfl ⟨Z,0,by rw[B.o,A.o.1,A.o.2.1,A.o.2.2];rfl,⟨.inl A.o.2.2,λ_ _ e=>(by cases e),(by rw[A.o.2.2];exact Sb _)⟩,?_⟩
    repeat refine Zb ?_ (by simp;try omega) _
    exact s.o
   |false=>
    have A7:=iB x.o;have HN:Hid (LC (t.info.length:Int) (t.rev.length:Int)=0):=by rw[Hid,LC,Qb];omega
    have B:Hid (NA h u t=takeE h u (needN t.info.length t.rev.length)):=by
     rw[Hid,NA,Qb];rw[HG.o,x.o,ho];simp
    have HS:Hid (lB h u t=takeH h u (needN t.info.length t.rev.length)/\cB h u t=takeU h u (needN t.info.length t.rev.length)/\sealP h u t=takeL h u (needN t.info.length t.rev.length)):=by
     by_cases e:takeE h u (needN t.info.length t.rev.length)=0
     .simp[Hid,lB,cB,sealP,B.o,e]
     .simp[Hid,lB,cB,sealP,B.o,takeH,takeU,takeL,e]
    go_wp2_with fail;refine(rb (t.info.length:Int) (t.rev.length:Int) _).mono ?_;rintro e w4 ⟨rfl,rfl⟩;rw[HN.o];generalize needN (t.info.length:Int) (t.rev.length:Int)=nn at *;go_wp2_with fail;refine(lT h u nn _).mono ?_;rintro e w5 ⟨a,c,rfl,A0,B6⟩;have B3:=zA A0;have A3:=zA (vA s.o B6);have A4:=zA (yA B6 r I.o);have A6:=Xb r B6.size;clear A0 B6 B2 B4 D C R f1 B5 n i X U j m Y l d;obtain⟨⟨D,C⟩,R,f1⟩:=XA A4.o;generalize takeE h u nn=te at *;generalize takeH h u nn=th at *;generalize takeU h u nn=tu at *;generalize takeL h u nn=tl at *;go_wp2;refine Tb (v:=S #[F #[H G th,H G tu],M a tl.length c,H G te]) (by simp[results,results173,go_sem,D,C]) rfl ?_;rw[B.o,HS.o.1,HS.o.2.1,HS.o.2.2];refine⟨a,c,rfl,⟨?_,λb A8 e=>(by have:=B3.o.2.1 b A8 e;omega),B3.o.2.2⟩,?_⟩
    .refine(B3.o.1.setNe (λb A8 e=>?_) _).setNe (λb A8 e=>?_) _
     .have:=B3.o.2.1 b A8 e;simp;omega
     .have:=B3.o.2.1 b A8 e;simp;omega
    .repeat refine Zb ?_ (by simp;try omega) _
     exact A3.o
def txc (t:Tx)(a:Option Addr)(c:Nat)(b:Option Addr)(d:Nat)(e:Option Addr)(f:Nat):Array E:=#[H G t.seq,M a t.info.length c,M b t.data.length d,M e t.rev.length f,Y t.h0.on,H G t.h0.left,Y t.h1.on,H G t.h1.left,Y t.h2.on,H G t.h2.left]
def txv (t:Tx)(a:Option Addr)(c:Nat)(b:Option Addr)(d:Nat)(e:Option Addr)(f:Nat):E:=F (txc t a c b d e f)
def tD (f:Nat->E):Array E:=((List.range 12).map f).toArray
theorem mL(f:Nat->E):tD f=#[f 0,f 1,f 2,f 3,f 4,f 5,f 6,f 7,f 8,f 9,f 10,f 11]:=rfl
theorem BK(f:Nat->E){b:Nat}(hb:b<12):(tD f)[b]?=J (f b):=by simp[tD,hb]
def OD (l:List Int):Nat->E:=λi=>H G ((l.count (i:Int):Nat):Int)
theorem Nb(l:List Int)(m:Nat):(tD (OD l)).setIfInBounds m (H G (((l.count (m:Int):Nat):Int)+1))=tD (OD (l++[(m:Int)])):=by
 apply Array.ext
 .simp[tD]
 .intro i h1 B;by_cases e:m=i
  .subst e;simp[tD,OD]
  .rw[Array.getElem_setIfInBounds_ne (by simpa[tD] using B) e];have A:¬(m:Int)=(i:Int):=by omega
   simp[tD,OD,List.count_append,A]
theorem JR(f:Nat->E){m:Nat}(hm:m<12)(w:K):(Instr.index 54 (F (tD f)) (H G (m:Int))).run Tryz.prog w=.ok (f m) w:=by
 rw[mL];have h:m=0\/m=1\/m=2\/m=3\/m=4\/m=5\/m=6\/m=7\/m=8\/m=9\/m=10\/m=11:=by omega
 rcases h with rfl|rfl|rfl|rfl|rfl|rfl|rfl|rfl|rfl|rfl|rfl|rfl
 all_goals first|rfl|simp[Instr.index,go_sem,asAgg]
theorem count_le_len(l:List Int)(x:Int)(n:Nat)(h:l.length<=n):l.count x<=n:=ac List.count_le_length h
theorem RO{l:List (Int×ByteArray)}(h:iA (blksOf l)=I)(Q:NB l=I){k:Nat}{n:Int}{s:ByteArray}(L:l[k]?=J (n,s)):¬n<=lastNum (-1) (blksOf (l.take k))/\0<=n/\¬11<n/\(s.size:Int)=32:=by
 have B:=Yc L;have D:=((zB _).1 h).1 n (Wc.2 ⟨_,B,rfl⟩)
 have C:iA (blksOf (l.take (k+1)))=I:=by
  cases h4:iA (blksOf (l.take (k+1))) with
  |true=>rfl
  |false=>
   have A:iA (blksOf l)=O:=MH (-1) (blksOf l) (k+1) (by rw[show(blksOf l).take (k+1)=blksOf (l.take (k+1)) by simp[blksOf]];exact h4);rw[h]at A;cases A
 rw[qJ L,iA,nF]at C;simp at C;refine⟨by omega,D.1,by omega,?_⟩;have:=Zc.1 Q _ B
 simpa[oA] using this
structure GdS (w:World)(V:Array Value)(l:List Int)(w':World):Prop where
 i:w'.heap[w.heap.size]?=some (.cells V 52 (0,0))
 c:w'.heap[w.heap.size+1]?=some (.cells (tD (OD l)) 54 (0,0))
 b:Below w.heap.size w w'
section
variable {w w' w2:World} {V:Array Value} {l:List Int}
theorem GdS.below(h:GdS w V l w')(hb:Below w'.heap.size w' w2):GdS w V l w2:=⟨yA hb (Wb.1 h.i).1 h.i,yA hb (Wb.1 h.c).1 h.c,vA h.b hb⟩
theorem GdS.put(h:GdS w V l w')(m:Nat):GdS w V (l++[(m:Int)]) (w'.setCell ⟨w.heap.size+1,m,Z⟩ (H G (((l.count (m:Int):Nat):Int)+1))):=
 ⟨(Sc _ _ _ _ (by simp)).trans h.i,by rw[zc _ _ m _ _ _ h.c,Nb],h.b.setCell (by simp) _⟩
theorem GdS.all(h:GdS w V l w'):(∀k,w'.cell? ⟨w.heap.size,k,Z⟩=V[k]?)/\(∀k,w'.cell? ⟨w.heap.size+1,k,Z⟩=(tD (OD l))[k]?)/\(∀k,w'.frozen? ⟨w.heap.size+1,k,Z⟩=O)/\w.heap.size<w'.heap.size/\w.heap.size+1<w'.heap.size:=
 ⟨λ_=>Hc _ _ _ _ _ _ h.i,λ_=>Hc _ _ _ _ _ _ h.c,λ_=>jd _ _ _ _ _ h.c,(Wb.1 h.i).1,(Wb.1 h.c).1⟩
end
theorem pF(t:Tx)(a:Option Addr)(c:Nat)(b:Option Addr)(d:Nat)(e:Option Addr)(f:Nat)(w:K)(hT:IsTx w (txv t a c b d e f) t)(hg:nA t=I):
  Calls Tryz.prog 127 #[txv t a c b d e f] w λx w'=>x=N (Y I)/\Below w.heap.size w w':=by
 unfold txv txc at *;obtain⟨hM,hD,hR,_⟩:=IsTx.rows hT;have HM:=zA hM;have HD:=zA hD;have HR:=zA hR;have A7:=iB hg;obtain⟨z,⟨A5,A4⟩,⟨r,j,A3⟩,A2,A0,l,p⟩:=(VA t).1 hg;have SQ:=zA z;have F1:=zA A5;have F2:=zA A4;have R1:=zA r;have R2:=zA j;have R3:=zA A3;have ND:=zA A2;have G0:=zA ((nC _).1 A0);have G1:=zA ((nC _).1 l);have G2:=zA ((nC _).1 p);clear hT hg hM hD hR z A5 A4 r j A3 A2 A0 l p;go_enter Tryz.func127,Tryz.ntmps127;go_wp2
 go_loopw [4,19] (λq i wr=>∃k:Nat,k<=t.info.length/\i=H G k/\q=H G (lastNum (-1) (blksOf (t.info.take k)))/\Hid (GdS w (txc t a c b d e f) (blksOf (t.info.take k)) wr)) (λ_ i _=>t.info.length - (intOf i).toNat)
 case atStart=>exact⟨0,Vb _,rfl,rfl,⟨sB (Ub _ _),JB (Ub _ _),vA (qA _ _) (qA _ _)⟩⟩
 case round=>
  obtain⟨k,B1,rfl,rfl,S⟩:=hrel;obtain⟨x,y,O,F,J⟩:=S.o.all;unfold txc at x;by_cases hlt:k<t.info.length
  .obtain⟨b2,A1,rfl,hb,B0⟩:=HM.o.resolve_left (by intro e;rw[e]at hlt;simp at hlt);obtain⟨A9,D⟩:=B0 k hlt;have E:=zA (YA t.info k (0,U) hlt);obtain⟨⟨n,s⟩,M⟩:∃x,x=t.info.getD k (0,U):=⟨_,rfl⟩;rw[<-M]at A9 D E;have X:=xA S.o.b hb A9;have g2:=xA S.o.b hb D;obtain⟨h1,h2,h3,h4⟩:=RO R1.o F1.o E.o;have C:Hid (blksOf (t.info.take (k+1))=blksOf (t.info.take k)++[n]):=qJ E.o;obtain⟨m,rfl⟩:=Jd h2;have B3:m<12:=by omega
   have Q:(k:Int)<(t.info.length:Int):=by omega
   have B4:=(y m).trans (BK _ B3);have u:=count_le_len (blksOf (t.info.take k)) (m:Int) 100 (by simp[blksOf];omega);have Z:=zA ((S.o.put m).below (qA _ (T #[H G (m:Int),A s] 99)));rw[OD]at B4;generalize lastNum (-1) (blksOf (t.info.take k))=q at *;generalize (blksOf (t.info.take k)).count (m:Int)=cq at *;clear M B0 A9 D y;go_wp2
   go_roundw
   case rel=>exact⟨k+1,by omega,by go_num,by rw[C.o,xG],by rw[C.o];exact Z⟩
   case measure=>simp[intOf];omega
  .have R:k=t.info.length:=by omega
   subst R;rw[Lc]at S;clear hlt B1;go_wp2
   go_loopw [4,50] (λq i wr=>∃k:Nat,k<=t.data.length/\i=H G k/\q=H G (lastNum (-1) (blksOf (t.data.take k)))/\Hid (GdS w (txc t a c b d e f) (blksOf t.info++blksOf (t.data.take k)) wr)) (λ_ i _=>t.data.length - (intOf i).toNat)
   case atStart=>exact⟨0,Vb _,rfl,rfl,by rw[show blksOf t.info++blksOf (t.data.take 0)=blksOf t.info from by simp[blksOf]];exact S⟩
   case round=>
    clear S x y O F J;obtain⟨k,B1,rfl,rfl,S⟩:=hrel;obtain⟨x,y,O,F,J⟩:=S.o.all;unfold txc at x;by_cases hlt:k<t.data.length
    .obtain⟨b2,A1,rfl,hb,B0⟩:=HD.o.resolve_left (by intro e;rw[e]at hlt;simp at hlt);obtain⟨A9,D⟩:=B0 k hlt;have E:=zA (YA t.data k (0,U) hlt);obtain⟨⟨n,s⟩,M⟩:∃x,x=t.data.getD k (0,U):=⟨_,rfl⟩;rw[<-M]at A9 D E;have X:=xA S.o.b hb A9;have g2:=xA S.o.b hb D;obtain⟨h1,h2,h3,h4⟩:=RO R2.o F2.o E.o;have C:Hid (blksOf (t.data.take (k+1))=blksOf (t.data.take k)++[n]):=qJ E.o;obtain⟨m,rfl⟩:=Jd h2;have B3:m<12:=by omega
     have Q:(k:Int)<(t.data.length:Int):=by omega
     have B4:=(y m).trans (BK _ B3);have u:=count_le_len (blksOf t.info++blksOf (t.data.take k)) (m:Int) 100 (by simp[blksOf];omega);have Z:=zA ((S.o.put m).below (qA _ (T #[H G (m:Int),A s] 99)));rw[OD]at B4;generalize lastNum (-1) (blksOf (t.data.take k))=q at *;generalize (blksOf t.info++blksOf (t.data.take k)).count (m:Int)=cq at *;clear M B0 A9 D y;go_wp2
     go_roundw
     case rel=>exact⟨k+1,by omega,by go_num,by rw[C.o,xG],by rw[C.o,<-od];exact Z⟩
     case measure=>simp[intOf];omega
    .have R:k=t.data.length:=by omega
     subst R;rw[Lc]at S;clear hlt B1;go_wp2_with fail;refine(mI e f t.rev _ (HR.o.below S.o.b) (by unfold maxLen;omega)).mono ?_;rintro _ w' ⟨rfl,rfl⟩;rw[R3.o];go_wp2
     go_loopw [85] (λi wr=>∃k:Nat,k<=t.rev.length/\i=H G k/\Hid (GdS w (txc t a c b d e f) (blksOf t.info++blksOf t.data++t.rev.take k) wr)) (λi _=>t.rev.length - (intOf i).toNat)
     case atStart=>exact⟨0,Vb _,rfl,by rw[Ee,yd];exact S⟩
     case round=>
      clear S x y O F J;obtain⟨k,B1,rfl,S⟩:=hrel;obtain⟨x,y,O,F,J⟩:=S.o.all;unfold txc at x;by_cases hlt:k<t.rev.length
      .obtain⟨b2,A1,rfl,hb,B0⟩:=HR.o.resolve_left (by intro e;rw[e]at hlt;simp at hlt);have A9:=B0 k hlt;have E:=zA (YA t.rev k 0 hlt);obtain⟨n,M⟩:∃x,x=t.rev.getD k 0:=⟨_,rfl⟩;rw[<-M]at A9 E;have X:=xA S.o.b hb A9;have A6:=((zB _).1 R3.o).1 n (Yc E.o);obtain⟨m,rfl⟩:=Jd A6.1;have B3:m<12:=by omega
       have Q:(k:Int)<(t.rev.length:Int):=by omega
       have B4:=(y m).trans (BK _ B3);have u:=count_le_len (blksOf t.info++blksOf t.data++t.rev.take k) (m:Int) 100 (by simp[blksOf];omega);have C:Hid (t.rev.take (k+1)=t.rev.take k++[(m:Int)]):=by rw[Hid,Oc,E.o];rfl
       have Z:=zA (S.o.put m);rw[OD]at B4;generalize (blksOf t.info++blksOf t.data++t.rev.take k).count (m:Int)=cq at *;clear M B0 A9 y;go_wp2
       go_roundw
       case rel=>exact⟨k+1,by omega,by go_num,by rw[C.o,<-od];exact Z⟩
       case measure=>simp[intOf];omega
      .have R:k=t.rev.length:=by omega
       subst R;rw[Lc]at S;clear hlt B1;obtain⟨L,hL⟩:∃L,L=(blksOf t.info++blksOf t.data++t.rev):=⟨_,rfl⟩;have NL:Hid (L.Nodup):=by rw[Hid,hL,od];exact ND.o
       rw[<-hL]at S;clear hL x y O F J;obtain⟨x,y,O,F,J⟩:=S.o.all;rw[mL]at y;go_wp2;clear x y O F J
       go_loop [96] (λi=>∃k:Nat,k<=12/\i=H G k) (λi=>12 - (intOf i).toNat)
       case atStart=>exact⟨0,by omega,rfl⟩
       case round=>
        obtain⟨k,B1,rfl⟩:=hrel;by_cases hlt:k<12
        .have B:=JR (OD L) hlt;rw[mL,show OD L k=H G ((L.count (k:Int):Nat):Int) from rfl]at B;have h1:L.count (k:Int)<=1:=List.nodup_iff_count.1 NL.o _;have Q:(k:Int)<12:=by omega
         have A8:¬1<((L.count (k:Int):Nat):Int):=by omega
         generalize L.count (k:Int)=cq at *;clear h1;go_wp2
         go_round
         case rel=>exact⟨k+1,by omega,by go_num⟩
         case measure=>simp[intOf];omega
        .have R:k=12:=by omega
         subst R;clear hlt B1;obtain⟨x,_,_,F,J⟩:=S.o.all;unfold txc at x;go_wp2
         go_loopw [104] (λi wr=>∃k:Nat,k<=3/\i=H G k/\Hid (GdS w (txc t a c b d e f) L wr)) (λi _=>3 - (intOf i).toNat)
         case atStart=>exact⟨0,by omega,rfl,S⟩
         case round=>
          clear S x F J;obtain⟨k,B1,rfl,S⟩:=hrel;obtain⟨x,_,_,F,J⟩:=S.o.all;unfold txc at x;have B0:k=0\/k=1\/k=2\/k=3:=by omega
          rcases B0 with rfl|rfl|rfl|rfl
          rotate_right
          .have s0:0<t.seq:=by have:=SQ.o.1;omega
           have s1:t.seq<2147483648:=by have:=SQ.o.2;omega
           go_wp2;go_ret;exact⟨rfl,S.o.b⟩
          .have B:=AK t.h0.on t.h1.on t.h2.on t.h0.left t.h1.left t.h2.left;have g0:¬t.h0.left<0:=by have:=G0.o.1;omega
           have X:¬24<t.h0.left:=by have:=G0.o.2.1;omega
           by_cases hp:0<t.h0.left
           .have B2:t.h0.on=I:=by
             cases h:t.h0.on with
             |true=>rfl
             |false=>have:=G0.o.2.2 h;omega
            rw[B2]at B;go_wp2
            go_roundw
            case rel=>exact⟨1,by omega,rfl,S.o.below (qA _ _)⟩
            case measure=>simp[intOf]
           .go_wp2
            go_roundw
            case rel=>exact⟨1,by omega,rfl,S.o.below (qA _ _)⟩
            case measure=>simp[intOf]
          .have B:=uL t.h0.on t.h1.on t.h2.on t.h0.left t.h1.left t.h2.left;have g0:¬t.h1.left<0:=by have:=G1.o.1;omega
           have X:¬24<t.h1.left:=by have:=G1.o.2.1;omega
           by_cases hp:0<t.h1.left
           .have B2:t.h1.on=I:=by
             cases h:t.h1.on with
             |true=>rfl
             |false=>have:=G1.o.2.2 h;omega
            rw[B2]at B;go_wp2
            go_roundw
            case rel=>exact⟨2,by omega,rfl,S.o.below (qA _ _)⟩
            case measure=>simp[intOf]
           .go_wp2
            go_roundw
            case rel=>exact⟨2,by omega,rfl,S.o.below (qA _ _)⟩
            case measure=>simp[intOf]
          .have B:=OJ t.h0.on t.h1.on t.h2.on t.h0.left t.h1.left t.h2.left;have g0:¬t.h2.left<0:=by have:=G2.o.1;omega
           have X:¬24<t.h2.left:=by have:=G2.o.2.1;omega
           by_cases hp:0<t.h2.left
           .have B2:t.h2.on=I:=by
             cases h:t.h2.on with
             |true=>rfl
             |false=>have:=G2.o.2.2 h;omega
            rw[B2]at B;go_wp2
            go_roundw
            case rel=>exact⟨3,by omega,rfl,S.o.below (qA _ _)⟩
            case measure=>simp[intOf]
           .go_wp2
            go_roundw
            case rel=>exact⟨3,by omega,rfl,S.o.below (qA _ _)⟩
            case measure=>simp[intOf]
