import Derived.Maps.AppendAt
import Derived.Test.YtjnpndfpajjihadGreatGrJournalRuns34
import Derived.Test.YtjnpndfpajjihadGreatGrJournalRuns20
set_option maxRecDepth 100000
set_option maxHeartbeats 40000000
namespace Go.Proofs.YtjnpndfpajjihadGreat
open Go.RowKit
open Value renaming int -> H,slice -> M,pointer -> C,string -> A,bool -> Y,agg -> F,tuple -> S
open IntKind renaming i64 -> G
open Option renaming none -> Z,some -> J
open Bool renaming false -> O,true -> I
open Go renaming World -> K,Value -> E
open Obj renaming cells -> T
open Ending renaming returned -> N
open _root_.ByteArray renaming empty -> U
variable{B base mc mn n rc rn:Nat}{L l:List ByteArray}{b s seq:Int}{d:Dk}{ma ra:Option Addr}{v v0 v1 v2 v3 v4 v5 v6 v7 v8 v9:Value}{w w':World}
theorem _root_.Go.Shut.o{p:Prop}(h:Shut p):p:=h
def AtPost (w w':K)(L:List ByteArray)(seq:Int)(v:E)(b:Int):Prop:=
 match FA L seq 0 (gA seq) with
 |none=>b=0/\v=F #[H G 0,M Z 0 0,M Z 0 0,M Z 0 0,Y O,H G 0,Y O,H G 0,Y O,H G 0]
 |some (n,t)=>b=(n:Int)/\∃m r,v=F #[H G seq,m,M Z 0 0,r,Y O,H G 0,Y O,H G 0,Y O,H G 0]/\OwnR w' w.heap.size ⟨m,M Z 0 0,r,t⟩/\t=txW seq t.info t.rev
def zF (w w':K)(L:List ByteArray)(seq:Int)(e:Ending):Prop:=∃v b,e=N (S #[v,H G b])/\Below w.heap.size w w'/\AtPost w w' L seq v b
theorem SegT.grown{a:Option Addr}{l:List (Int×Bool)}{row:Option Nat}(h:SegT w a l)(Q:w.grownBy w' row)(j:∀b D,a=J ⟨b,D,Z⟩->row≠J b):SegT w' a l:=by
 rcases h with h|⟨b,D,rfl,R,X⟩
 .exact .inl h
 .have:=j b D rfl;exact .inr ⟨b,D,rfl,Xb R Q.size,λi c=>⟨Q.cell (X i c).1 (λe=>this e.symm),Q.cell (X i c).2 (λe=>this e.symm)⟩⟩
theorem pX(a:TypeId)(base:Nat)(v:E)(l:List (Int×ByteArray))(w:K)(X:w.ownsRow base 99 2 v l.length (cellsC l))(b:Nat)(y:Int×ByteArray)(hb:w.heap[b]?=J (T #[H G y.1,A y.2] 99 (0,0)))(A0:l.length<=1000)(R:base<=w.heap.size):
  ∃Q w',(Builtin.append_ #[46,46] a #[v,M (J ⟨b,0,Z⟩) 1 1]).run Tryz.prog w=.ok Q w'/\w'.ownsRow base 99 2 Q (l++[y]).length (cellsC (l++[y]))/\w.grownBy w' v.ownBlock/\(Q.ownBlock=v.ownBlock\/Q.ownBlock=J w.heap.size):=by
 obtain⟨D,e,B,C,h⟩:=Gc fF
 obtain⟨Q,w',hrun,c,i,_,k⟩:=run_append_own_at (P:=Tryz.prog) w base 46 a 99 D (F #[H G 0,A ⟨#[]⟩]) 2 24 Tryz.underlying46 e B C h rfl (by decide) v l.length (cellsC l) X ⟨b,0,Z⟩ 1 1 (cellsC [y]) rfl (by
  intro j u I;rw[qd,Dc,Hc w _ _ _ _ _ hb,<-I]
  simp[cellsC]) (sG _) (by unfold maxLen;omega) (by omega) R
 exact⟨Q,w',hrun,by rw[FE,Yb];exact c,i,k⟩
open Go.Proofs.Tryz
theorem HU(la:Option Addr)(lc:Nat)(L:List ByteArray)(seq:Int)(w:K)(hS:SegS w la L)(hL:L.length<=24)(hz:∀i,(L.getD i U).size<=maxLen):
  Calls prog 81 #[M la L.length lc,H G seq] w λe w'=>zF w w' L seq e:=by
 have HS:=zA hS;have HZ:=zA hz;clear hS hz;go_enter func81,ntmps81;go_wp2
 go_loopw [7] (λiv wr=>∃(j:Nat) (info:List (Int×ByteArray)) (rev:List Int) (ma:Option Addr) (mc:Nat) (ra:Option Addr) (rc:Nat),iv=H G (j:Int)/\j<=L.length/\info.length<=j/\rev.length<=20*j/\Hid (FA L seq 0 (gA seq)=FA L seq j (txW seq info rev))/\Hid (Below w.heap.size w wr)/\w.heap.size+1<wr.heap.size/\
   Hid (wr.heap[w.heap.size]?=J (T #[H G 0,M Z 0 0,M Z 0 0,M Z 0 0,Y O,H G 0,Y O,H G 0,Y O,H G 0] 52 (0,0)))/\Hid (wr.heap[w.heap.size+1]?=J (T #[H G seq,M ma info.length mc,M Z 0 0,M ra rev.length rc,Y O,H G 0,Y O,H G 0,Y O,H G 0] 52 (0,0)))/\Hid (wr.ownsRow (w.heap.size+2) 99 2 (M ma info.length mc) info.length (cellsC info))/\Hid (wr.ownsRow (w.heap.size+2) 3 1 (M ra rev.length rc) rev.length (cellsI rev)))
  (λiv _=>L.length - (intOf iv).toNat)
 case atStart=>exact⟨0,[],[],Z,0,Z,0,rfl,Vb _,Vb _,Vb _,rfl,vA (qA _ _) (qA _ _),by simp,sB (Ub _ _),JB (Ub _ _),Kc _ _ _ _,Kc _ _ _ _⟩
 case round=>
  obtain⟨wo,L9⟩:∃wo,wo=wr:=⟨_,rfl⟩;subst L9;obtain⟨j,info,rev,ma,mc,ra,rc,rfl,hj,M2,N9,R,HB,A2,KB,KT,A1,B1⟩:=hrel;have K0:w.heap.size<wo.heap.size:=by omega
  by_cases hlt:j<L.length
  .obtain⟨lb,lo,rfl,F6,E4⟩:=HS.o.resolve_left (λe=>absurd hlt (by rw[e];exact cg _));have g:=xA HB.o F6 (E4 j hlt);obtain⟨s,hs⟩:∃s,s=L.getD j U:=⟨_,rfl⟩;rw[<-hs]at g;have I5:=zA hs;clear hs;have K1:(j:Int)<(L.length:Int):=by omega
   have K9:=zA E4;clear E4;go_wp2_with fail;refine(AO s _).mono ?_;rintro e w1 ⟨v2,rfl,hN,B6⟩;obtain⟨Q0,hM⟩:∃Q0,Q0=EA s:=⟨_,rfl⟩;rw[<-hM]at hN|-;obtain⟨mk,er⟩:=Q0;have P9:=zA (pP (log:=L) (j:=j) (mk:=mk) (er:=er) hlt seq (txW seq info rev) (by rw[<-I5.o];exact hM))
   have H2:er=0->goodM mk=0:=by
    intro he;have:=dG (s:=s) (by rw[<-hM];exact he);rw[<-hM]at this;exact this
   have E0:=zA H2;clear hM H2 I5 g;obtain⟨r,c2,a3,c3,rfl,hT,hI,n1,n2,t1,t2⟩:=hN;have O2:=B6.size;have HT:=zA hT;have HI:=zA hI;have C7:Hid (∀b O8,r=J ⟨b,O8,Z⟩->wo.heap.size<=b):=t1;have X:=zA (yA B6 K0 KB.o);have D1:=zA (yA B6 A2 KT.o);have B3:=zA (vA HB.o B6);have D9:=zA (dA A1.o B6);have B9:=zA (dA B1.o B6);have H3:Hid (∀k,(M ma info.length mc).ownBlock=J k->k<wo.heap.size):=λk O6=>(A1.o.lt k O6).2;have F2:Hid (∀k,(M ra rev.length rc).ownBlock=J k->k<wo.heap.size):=λk O6=>(B1.o.lt k O6).2;have J2:w.heap.size+1<w1.heap.size:=by omega
   have F7:w.heap.size<w1.heap.size:=by omega
   clear hT hI t1 t2 B6 KB KT HB A1 B1 n1 n2;dsimp only;by_cases hok:er=0/\mk.seq=seq/\mk.kind≠1
   .obtain⟨rfl,hq,F1⟩:=hok;obtain⟨M4,G2,H7,M0,L2⟩:=BM (E0.o rfl);have L3:=zA G2;have L8:=zA H7;have H8:(mk.seq !=seq)=O:=by simp[hq]
    have J9:(mk.kind==1)=O:=by simpa using F1
    clear G2 H7 E0;by_cases O6:mk.kind=4
    .have K2:Hid (FA L seq 0 (gA seq)=J (j+1,txW seq info rev)):=by rw[Hid,R.o,P9.o,Qb (by simp[hq,O6]),Rb O6]
     have E3:∀k,(M ra rev.length rc).ownBlock=J k->w.heap.size+2<=k:=λk O6=>(B9.o.lt k O6).1;have F5:∀k,(M ma info.length mc).ownBlock=J k->w.heap.size+2<=k:=λk O6=>(D9.o.lt k O6).1;have G8:=zA (And.intro F5 E3);clear P9 R E3 F5 HT HI C7 F1 J9;obtain⟨⟨P5,m,y,d,P6,c,P4,N,l,q⟩,Q⟩:=BA X.o;obtain⟨⟨y0,y1,y2,y3,y4,y5,y6,y7,y8,y9⟩,yf⟩:=BA D1.o;go_wp2;clear y0 y1 y2 y3 y4 y5 y6 y7 y8 y9 yf;obtain⟨W,O7⟩:∃W,W=(((((((((((w1.setCell ⟨w.heap.size,0,Z⟩ (H G seq)).setCell ⟨w.heap.size,1,Z⟩ (M ma info.length mc)).setCell ⟨w.heap.size,2,Z⟩ (M Z 0 0)).setCell ⟨w.heap.size,3,Z⟩ (M ra rev.length rc)).setCell ⟨w.heap.size,4,Z⟩ (Y O)).setCell ⟨w.heap.size,5,Z⟩ (H G 0)).setCell ⟨w.heap.size,6,Z⟩ (Y O)).setCell ⟨w.heap.size,7,Z⟩ (H G 0)).setCell ⟨w.heap.size,8,Z⟩ (Y O)).setCell ⟨w.heap.size,9,Z⟩ (H G 0)).alloc (T #[H G 4,H G seq,H G mk.pos,M r mk.tags.length c2,M a3 mk.blocks.length c3] 81)):=⟨_,rfl⟩;have B:=JE X.o (H G seq) (M ma info.length mc) (M Z 0 0) (M ra rev.length rc) (Y O) (H G 0) (Y O) (H G 0) (Y O) (H G 0) (T #[H G 4,H G seq,H G mk.pos,M r mk.tags.length c2,M a3 mk.blocks.length c3] 81);rw[<-O7]at B;obtain⟨⟨y0,y1,y2,y3,y4,y5,y6,y7,y8,y9⟩,_⟩:=BA B;have HW:=zA O7;rw[<-O7];clear O7 B P5 m y d P6 c P4 N l q Q;refine Tb (v:=S #[F #[H G seq,M ma info.length mc,M Z 0 0,M ra rev.length rc,Y O,H G 0,Y O,H G 0,Y O,H G 0],H G ((j:Int)+1)]) (by simp[results,results81,go_sem,y0,y1,y2,y3,y4,y5,y6,y7,y8,y9]) rfl ?_;unfold zF;refine⟨_,_,rfl,?_,?_⟩
     .rw[HW.o];exact(((((((((((B3.o.setCell (p:=⟨w.heap.size,0,Z⟩) (by simp) _).setCell (p:=⟨w.heap.size,1,Z⟩) (by simp) _).setCell (p:=⟨w.heap.size,2,Z⟩) (by simp) _).setCell (p:=⟨w.heap.size,3,Z⟩) (by simp) _).setCell (p:=⟨w.heap.size,4,Z⟩) (by simp) _).setCell (p:=⟨w.heap.size,5,Z⟩) (by simp) _).setCell (p:=⟨w.heap.size,6,Z⟩) (by simp) _).setCell (p:=⟨w.heap.size,7,Z⟩) (by simp) _).setCell (p:=⟨w.heap.size,8,Z⟩) (by simp) _).setCell (p:=⟨w.heap.size,9,Z⟩) (by simp) _).alloc (by simp[World.setCell];omega) _)
     .rw[AtPost,K2.o];refine⟨by simp,_,_,rfl,⟨?_,?_,?_⟩,rfl⟩
      .rw[HW.o];refine qB (dA ?_ (qA _ _)) (show w.heap.size<=w.heap.size+2 by omega)
       repeat refine gC ?_ (λk e=>by have:=G8.o.1 k e;simp;omega) _
       exact D9.o
      .exact Kc _ _ _ _
      .rw[HW.o];refine qB (dA ?_ (qA _ _)) (show w.heap.size<=w.heap.size+2 by omega)
       repeat refine gC ?_ (λk e=>by have:=G8.o.2 k e;simp;omega) _
       exact B9.o
    .have M6:(mk.kind==4)=O:=by simpa using O6
     have O4:mk.tags.length<=10:=by
      by_cases h2:mk.kind=2
      .exact M0 h2
      .rw[L3.o h2];exact Vb _
     have O0:mk.blocks.length<=20:=by
      by_cases h3:mk.kind=3
      .exact L2 h3
      .rw[L8.o h3];exact Vb _
     have C3:Hid (FA L seq 0 (gA seq)=if j+1+mk.tags.length<=L.length then FA L seq (j+1+mk.tags.length) (txW seq (info++copiesAt L (j+1) mk.tags) (rev++mk.blocks)) else Z):=by
      rw[Hid,R.o,P9.o,Qb (by simp[hq,F1]),Qb O6,LL]
     clear P9 R;obtain⟨⟨P5,m,y,d,P6,c,P4,N,l,q⟩,Q⟩:=BA D1.o;go_wp2_with (at_builtin;refine VO _ (w.heap.size+2) rfl _ _ rfl (M ra rev.length rc) rev rfl (dA B9.o (qA _ _)) a3 c3 mk.blocks rfl (HI.o.below (qA _ _)) (by omega) (by simp;omega) ?_);intro v3 w3 B5 A7;obtain⟨P1,C9⟩:∃P1,P1=rev++mk.blocks:=⟨_,rfl⟩;have M8:P1.length<=20*(j+1):=by rw[C9,Yb];omega
     replace B5:=zA (vG B5.o (show _=P1.length by simp[C9]))
     rw[<-C9]at B5 C3;clear C9;obtain⟨A3,A6,L4,_,_⟩:=SegI.of_owns B5.o;subst L4;have A9:Below w1.heap.size w1 (w1.alloc (T #[H G mk.kind,H G seq,H G mk.pos,M r mk.tags.length c2,M a3 mk.blocks.length c3] 81)):=qA _ _;have A8:∀k,(M ra rev.length rc).ownBlock=J k->w.heap.size+2<=k:=λk O6=>(B9.o.lt k O6).1;have N2:w1.heap.size+1<=w3.heap.size:=by have:=A7.size;simpa using this
     have I9:Hid (w3.heap[w.heap.size]?=_):=(A7.block _ (by simp;omega) (λe=>by have:=A8 _ e.symm;omega)).trans (yA A9 F7 X.o);have E1:Hid (w3.heap[w.heap.size+1]?=_):=(A7.block _ (by simp;omega) (λe=>by have:=A8 _ e.symm;omega)).trans (yA A9 J2 D1.o);have H1:Hid (w3.heap[w1.heap.size]?=_):=(A7.block _ (by simp) (λe=>by have:=F2.o _ e.symm;omega)).trans (Cc w1 (T #[H G mk.kind,H G seq,H G mk.pos,M r mk.tags.length c2,M a3 mk.blocks.length c3] 81));have H5:Hid (Below w.heap.size w w3):=(vA B3.o A9).grown A7 (vA B3.o A9).size (λk O6=>by have:=A8 k O6;omega);have F3:=zA (EF (dA D9.o A9) (dA B9.o A9) (by decide) A7);have J0:Hid (SegT w3 r mk.tags):=(HT.o.below A9).grown A7 (λb O8 e h=>by have:=C7.o b O8 e;have:=F2.o b h;omega);clear P5 m y d P6 c P4 N l q Q A8 A7 X D1 B3 D9 B9 HT HI A9 F2;obtain⟨⟨P5,m,y,d,P6,c,P4,N,l,q⟩,Q⟩:=BA E1.o;obtain⟨⟨x0,x1,x2,x3,x4⟩,_⟩:=LA H1.o;have M7:w.heap.size+1<w3.heap.size:=by omega
     have M5:w1.heap.size<w3.heap.size:=by omega
     have M9:w1.heap.size≠w.heap.size+1:=by omega
     go_wp2;clear P5 m y d P6 c P4 N l q Q x0 x1 x2 x3 x4;obtain⟨W4,A4⟩:∃W4,W4=w3.setCell ⟨w.heap.size+1,3,Z⟩ (M A3 P1.length A6):=⟨_,rfl⟩;have G4:Hid (W4.heap[w.heap.size]?=J (T #[H G 0,M Z 0 0,M Z 0 0,M Z 0 0,Y O,H G 0,Y O,H G 0,Y O,H G 0] 52 (0,0))):=by rw[A4];exact(tF (by simp) _).trans I9.o
     have H0:Hid (W4.heap[w.heap.size+1]?=J (T #[H G seq,M ma info.length mc,M Z 0 0,M A3 P1.length A6,Y O,H G 0,Y O,H G 0,Y O,H G 0] 52 (0,0))):=by rw[A4];exact zc _ _ 3 _ _ (M A3 P1.length A6) E1.o
     have H9:Hid (Below w.heap.size w W4):=by rw[A4];exact H5.o.setCell (by simp) _
     have H4:Hid (W4.ownsRow (w.heap.size+2) 99 2 (M ma info.length mc) info.length (cellsC info)):=by rw[A4];exact gC F3.o (λk O6=>by have:=(F3.o.lt k O6).1;simp;omega) _
     have H6:Hid (W4.ownsRow (w.heap.size+2) 3 1 (M A3 P1.length A6) P1.length (cellsI P1)):=by rw[A4];exact gC B5.o (λk O6=>by have:=(B5.o.lt k O6).1;simp;omega) _
     have I7:Hid (SegT W4 r mk.tags):=by rw[A4];exact SegT.setNe J0.o (λb O8 e=>by have:=C7.o b O8 e;simp;omega) _
     have O1:W4.heap.size=w3.heap.size:=by rw[A4];simp[World.setCell]
     rw[<-A4];clear A4 I9 E1 H5 F3 B5 J0 H1
     go_loopw [7,57] (λiv kv wr=>∃(k:Nat) (D:List (Int×ByteArray)) (na:Option Addr) (nc:Nat),k<=mk.tags.length/\j+k<L.length/\iv=H G ((j+k:Nat):Int)/\kv=H G (k:Int)/\D.length<=j+k/\Hid (D=info++copiesAt L (j+1) (mk.tags.take k))/\Hid (Below w.heap.size w wr)/\w3.heap.size<=wr.heap.size/\
       Hid (wr.heap[w.heap.size]?=J (T #[H G 0,M Z 0 0,M Z 0 0,M Z 0 0,Y O,H G 0,Y O,H G 0,Y O,H G 0] 52 (0,0)))/\Hid (wr.heap[w.heap.size+1]?=J (T #[H G seq,M na D.length nc,M Z 0 0,M A3 P1.length A6,Y O,H G 0,Y O,H G 0,Y O,H G 0] 52 (0,0)))/\Hid (wr.ownsRow (w.heap.size+2) 99 2 (M na D.length nc) D.length (cellsC D))/\Hid (wr.ownsRow (w.heap.size+2) 3 1 (M A3 P1.length A6) P1.length (cellsI P1))/\Hid (SegT wr r mk.tags)/\Hid (∀k,(M na D.length nc).ownBlock=J k->∀b O8,r=J ⟨b,O8,Z⟩->k≠b))
      (λ_ kv _=>mk.tags.length - (intOf kv).toNat)
     case atStart=>exact⟨0,info,ma,mc,Vb _,hlt,rfl,rfl,M2,by rw[Ee];simp[copiesAt,Hid],H9,by omega,G4,H0,H4,H6,I7,λk O6 b O8 e=>by have:=H3.o k O6;have:=C7.o b O8 e;omega⟩
     case round=>
      clear G4 H0 H9 H4 H6 I7 H3;obtain⟨k,D,na,nc,O5,K7,rfl,rfl,M1,C5,HB,O3,KB,KT,A1,B1,F4,E6⟩:=hrel;have F0:w.heap.size+1<wr.heap.size:=by omega
      have F9:w.heap.size<wr.heap.size:=by omega
      by_cases hkl:k<mk.tags.length
      .obtain⟨b2,C8,rfl,L0,G7⟩:=F4.o.resolve_left (λe=>absurd hkl (by rw[e];exact cg _));obtain⟨x,hx⟩:∃x,x=mk.tags.getD k (0,O):=⟨_,rfl⟩;obtain⟨g1,g2⟩:=G7 k hkl;rw[<-hx]at g1 g2;have HX:Hid (mk.tags[k]?=J x):=by rw[hx];exact YA _ _ _ hkl
       have HF:=zA (CM HX.o L (j+1));have J4:(k:Int)<(mk.tags.length:Int):=by omega
       clear hx G7 HX;obtain⟨n,f⟩:=x;have C1:Hid (j+k+1=L.length->FA L seq 0 (gA seq)=Z):=λh=>by rw[C3.o,Qb (by omega)]
       obtain⟨P2,C2⟩:∃P2,P2=j+k:=⟨_,rfl⟩;rw[<-C2]at K7 M1 C1|-;have D8:=zA C2;clear C2;have K6:IntKind.i64.wrap ((P2:Int)+1)=(P2:Int)+1:=by rw[Bc];omega
       by_cases hfull:P2+1=L.length
       .have B2:Hid (FA L seq 0 (gA seq)=Z):=C1.o hfull;have M3:(((P2:Int)+1)==(L.length:Int))=I:=je.2 (by omega);clear C1 C3 C5 HF;obtain⟨⟨P5,m,y,d,P6,c,P4,N,l,q⟩,Q⟩:=BA KB.o;go_wp2;obtain⟨W,O7⟩:∃W,W=(((((((((((wr.setCell ⟨w.heap.size,0,Z⟩ (H G 0)).setCell ⟨w.heap.size,1,Z⟩ (M Z 0 0)).setCell ⟨w.heap.size,2,Z⟩ (M Z 0 0)).setCell ⟨w.heap.size,3,Z⟩ (M Z 0 0)).setCell ⟨w.heap.size,4,Z⟩ (Y O)).setCell ⟨w.heap.size,5,Z⟩ (H G 0)).setCell ⟨w.heap.size,6,Z⟩ (Y O)).setCell ⟨w.heap.size,7,Z⟩ (H G 0)).setCell ⟨w.heap.size,8,Z⟩ (Y O)).setCell ⟨w.heap.size,9,Z⟩ (H G 0)).alloc (T #[H G n,Y f] 123)):=⟨_,rfl⟩;have B:=JE KB.o (H G 0) (M Z 0 0) (M Z 0 0) (M Z 0 0) (Y O) (H G 0) (Y O) (H G 0) (Y O) (H G 0) (T #[H G n,Y f] 123);rw[<-O7]at B;obtain⟨⟨y0,y1,y2,y3,y4,y5,y6,y7,y8,y9⟩,_⟩:=BA B;have HW:=zA O7;rw[<-O7];clear O7 B P5 m y d P6 c P4 N l q Q;refine Tb (v:=S #[F #[H G 0,M Z 0 0,M Z 0 0,M Z 0 0,Y O,H G 0,Y O,H G 0,Y O,H G 0],H G 0]) (by simp[results,results81,go_sem,y0,y1,y2,y3,y4,y5,y6,y7,y8,y9]) rfl ?_;unfold zF;refine⟨_,0,rfl,?_,?_⟩
        .rw[HW.o];exact(((((((((((HB.o.setCell (p:=⟨w.heap.size,0,Z⟩) (by simp) _).setCell (p:=⟨w.heap.size,1,Z⟩) (by simp) _).setCell (p:=⟨w.heap.size,2,Z⟩) (by simp) _).setCell (p:=⟨w.heap.size,3,Z⟩) (by simp) _).setCell (p:=⟨w.heap.size,4,Z⟩) (by simp) _).setCell (p:=⟨w.heap.size,5,Z⟩) (by simp) _).setCell (p:=⟨w.heap.size,6,Z⟩) (by simp) _).setCell (p:=⟨w.heap.size,7,Z⟩) (by simp) _).setCell (p:=⟨w.heap.size,8,Z⟩) (by simp) _).setCell (p:=⟨w.heap.size,9,Z⟩) (by simp) _).alloc (by simp[World.setCell];omega) _)
        .rw[AtPost,B2.o];exact⟨rfl,rfl⟩
       .have M3:(((P2:Int)+1)==(L.length:Int))=O:=Ec.2 (by omega);have N0:(P2:Int)+1<(L.length:Int):=by omega
        have N1:(0:Int)<=(P2:Int)+1:=by omega
        have N6:((P2:Int)+1).toNat=P2+1:=by omega
        obtain⟨O9,D2⟩:∃O9,O9=L.getD (P2+1) U:=⟨_,rfl⟩;have g5:=xA HB.o F6 (K9.o (P2+1) (by omega));rw[<-D2]at g5;have L5:Hid (O9.size<=maxLen):=by rw[D2];exact HZ.o _
        have E8:Hid (D++[(n,aB O9 f)]=info++copiesAt L (j+1) (mk.tags.take (k+1))):=by
         rw[Hid,HF.o,C5.o,od,D2,D8.o,show j+1+k=j+k+1 from by omega]
        clear D2 HF C5 C1;have J1:D.length<=1000:=by omega
        have J6:lb<wr.heap.size:=Xb F6 HB.o.size;go_wp2;rename_i KK I4;obtain⟨w5,B8⟩:∃w5,w5=wr.alloc (T #[H G n,Y f] 123):=⟨_,rfl⟩;have B0:Below wr.heap.size wr w5:=by rw[B8];exact qA _ _
        have K5:Hid (w5.heap[wr.heap.size]?=J (T #[H G n,Y f] 123 (0,0))):=by rw[B8];exact Cc wr _
        have N8:w5.heap.size=wr.heap.size+1:=by rw[B8];simp
        rw[<-B8];clear B8;have E5:=zA (yA B0 F0 KT.o);have G0:=zA (yA B0 F9 KB.o);have E2:=zA (dA A1.o B0);have I3:=zA (dA B1.o B0);have I2:=zA (vA HB.o B0);have G9:=zA (F4.o.below B0);have G5:=zA (xA B0 J6 g5);have G3:w.heap.size+1<w5.heap.size:=by omega
        have J3:wr.heap.size<w5.heap.size:=by omega
        have L1:lb<w5.heap.size:=by omega
        clear g1 g2 g5 B0;have A8:∀k,(M na D.length nc).ownBlock=J k->w.heap.size+2<=k/\k<wr.heap.size:=λk O6=>⟨(A1.o.lt k O6).1,(A1.o.lt k O6).2⟩
        obtain⟨PP,D4⟩:∃P:E->K->Prop,P=λv w6=>∃P7 P8,v=M P7 (D++[(n,aB O9 f)]).length P8/\w6.heap[w.heap.size]?=J (T #[H G 0,M Z 0 0,M Z 0 0,M Z 0 0,Y O,H G 0,Y O,H G 0,Y O,H G 0] 52 (0,0))/\w6.heap[w.heap.size+1]?=J (T #[H G seq,M na D.length nc,M Z 0 0,M A3 P1.length A6,Y O,H G 0,Y O,H G 0,Y O,H G 0] 52 (0,0))/\w6.ownsRow (w.heap.size+2) 99 2 (M P7 (D++[(n,aB O9 f)]).length P8) (D++[(n,aB O9 f)]).length (cellsC (D++[(n,aB O9 f)]))/\Below w.heap.size w w6/\w6.ownsRow (w.heap.size+2) 3 1 (M A3 P1.length A6) P1.length (cellsI P1)/\SegT w6 (J ⟨b2,C8,Z⟩) mk.tags/\(∀k,(M P7 (D++[(n,aB O9 f)]).length P8).ownBlock=J k->k≠b2)/\w5.heap.size<=w6.heap.size:=⟨_,rfl⟩;refine(show∀A0:Act,A0=_->Code.wp prog _ _ A0 _ from λA0 P3=>?_) _ rfl;have A2:A0.tmps.size=85:=by rw[P3];rfl
        have K8:A0.defers=[]:=by rw[P3]
        have v0:A0.eval (.tmp 0)=M (J ⟨lb,lo,Z⟩) L.length lc:=by rw[P3];rfl
        have v6:A0.eval (.tmp 6)=C (J ⟨w.heap.size+1,0,Z⟩):=by rw[P3];rfl
        have v7:A0.eval (.tmp 7)=H G ((P2:Int)+1):=by rw[P3];rfl
        have G1:A0.eval (.tmp 11)=C (J ⟨wr.heap.size,0,Z⟩):=by rw[P3];rfl
        have I1:A0.eval (.tmp 84)=undef:=by rw[P3];rfl
        have I0:=zA P3;clear P3;refine ON (W:=w5) 15 13 (λ_=>True) (λb=>[Is (C (J ⟨w.heap.size+1,1,Z⟩)),Is (M na D.length nc),Is (C (J ⟨wr.heap.size,0,Z⟩)),Is (H G n),Is (M (J ⟨lb,lo,Z⟩) L.length lc),Is (H G ((P2:Int)+1)),Is (C (J ⟨lb,lo+(P2+1),Z⟩)),Is (A O9),Is (C (J ⟨wr.heap.size,1,Z⟩)),Is (Y f),Is (A (aB O9 f)),Is (F #[H G n,A (aB O9 f)]),sw b (λ_ _=>True) (λv w'=>∃g,v=M (J ⟨g,0,Z⟩) 1 1/\w'.heap[g]?=J (T #[H G n,A (aB O9 f)] 99 (0,0))),sw b PP (λ_ _=>True),Is (C (J ⟨w.heap.size+1,1,Z⟩))]) (by decide) (by kernel_rfl) (by kernel_rfl) (by kernel_rfl) (by kernel_rfl) (Ub _ _).drew ⟨?_,?_,?_,?_,?_,?_,?_,?_,?_,?_,?_,?_,?_,?_,?_,trivial⟩ ?_
        iterate 10
         refine BB A2 (by decide) λb a w' hF hR P0=>⟨_,?_,rfl⟩
         replace hR:=hR (by kernel_rfl)
         have g5:=xA hR L1 G5.o;have P5:=(hF.other 0 rfl).trans v0;have P4:=(hF.other 6 rfl).trans v6;have N:=(hF.other 7 rfl).trans v7;have I8:=(hF.other 11 rfl).trans G1;have pc:=Act.eval_const a;have pf:=Act.eval_func a;obtain⟨c0,_⟩:=kA (yA hR G3 E5.o);obtain⟨c1,_⟩:=kA (yA hR J3 K5.o)
         revert P0 P5 P4 N I8 pc pf
         generalize a.eval=ρ;intro P0 P5 P4 N I8 pc pf;simp[Region.binds,lf,Is]at P0;simp only[execOp]
         go_simp
        .refine JG A2 (λw w' hb=>Holds.is (.is (.is (.is (.is (.is (.is (.is (.is (.is (.is (.is (.cons (.cons (.is .nil) (λ_ h=>h)) (λ_ ⟨g,h1,h2⟩=>⟨g,h1,yA hb (Wb.1 h2).1 h2⟩)))))))))))))) (by decide) (by kernel_rfl) λa w' hF hR P0=>?_;have h1:a.eval (.tmp 75)=A O9:=P0 ⟨7,.data⟩ (by simp) rfl;have h2:a.eval (.tmp 77)=Y f:=P0 ⟨9,.data⟩ (by simp) rfl;exact⟨125,#[A O9,Y f],(by have pf:=Act.eval_func a;revert h1 h2 pf;generalize a.eval=ρ;intro h1 h2 pf;simp only[execOp];go_simp),(VV O9 f w' L5.o).mono λ_ _ h=>⟨_,h.1,rfl,by rw[<-h.2];exact Ub _ _⟩⟩
        .refine BB A2 (by decide) λb a w' hF _ P0=>⟨_,?_,rfl⟩
         simp[Region.binds,lf,Is]at P0
         revert P0
         generalize a.eval=ρ;intro P0;simp only[execOp]
         go_simp
        .refine EL A2 (λw w' hb=>Holds.is (.is (.is (.is (.is (.is (.is (.is (.is (.is (.is (.is (.cons (.cons (.is .nil) (λ_ h=>h)) (λ_ ⟨g,h1,h2⟩=>⟨g,h1,yA hb (Wb.1 h2).1 h2⟩)))))))))))))) (by decide) (by kernel_rfl) λa w' hF hR P0=>?_;have h1:a.eval (.tmp 79)=F #[H G n,A (aB O9 f)]:=P0 ⟨11,.data⟩ (by simp) rfl;exact⟨M (J ⟨w'.heap.size,0,Z⟩) 1 1,w'.alloc (T #[H G n,A (aB O9 f)] 99),(by revert h1;generalize a.eval=ρ;intro h1;simp only[execOp];go_simp),⟨_,rfl,Cc _ _⟩,qA _ _⟩
        .refine YP A2 λa w' hF hR P0=>?_;have h1:a.eval (.tmp 69)=M na D.length nc:=P0 ⟨1,.data⟩ (by simp) rfl;obtain⟨g,h2,h3⟩:∃g,a.eval (.tmp 80)=M (J ⟨g,0,Z⟩) 1 1/\w'.heap[g]?=J (T #[H G n,A (aB O9 f)] 99 (0,0)):=P0 ⟨12,.data⟩ (by simp) rfl;obtain⟨v',w6,hrun,r1,r2,r3⟩:=pX 46 (w.heap.size+2) (M na D.length nc) D w' (dA E2.o hR) g (n,aB O9 f) h3 J1 (by have:=hR.size;omega);have N3:=r2.size;have B8:=hR.size;obtain⟨P7,P8,rfl,_,_⟩:=SegC.of_owns r1;refine⟨M P7 (D++[(n,aB O9 f)]).length P8,w6,(by generalize a.eval=ρ at h1 h2|-;simp[execOp,resolve,invoke,builtin,h1,h2,hrun,Result.andThen]),trivial,?_,λi u hi h=>?_⟩
         .show PP _ w6;rw[D4];have G6:=vA I2.o hR
          exact⟨P7,P8,rfl,(r2.block _ (by omega) (λe=>by have:=A8 _ e.symm;omega)).trans (yA hR (by omega) G0.o),(r2.block _ (by omega) (λe=>by have:=A8 _ e.symm;omega)).trans (yA hR G3 E5.o),r1,G6.grown r2 G6.size (λk O6=>by have:=A8 k O6;omega),EF (dA I3.o hR) (dA E2.o hR) (by decide) r2,(G9.o.below hR).grown r2 (λb O8 e h=>E6.o b h b O8 e rfl),λk O6=>by
           rcases r3 with h|h
           .exact E6.o k (h.symm.trans O6) b2 C8 rfl
           .have h5:=h.symm.trans O6;simp at h5;have:=L0
            omega,by omega⟩
         match i,hi,h with
         |0,_,h|1,_,h|2,_,h|3,_,h|4,_,h|5,_,h|6,_,h|7,_,h|8,_,h|9,_,h|10,_,h|11,_,h|14,_,h=>exact h
         |12,_,_=>exact trivial
         |13,hi,_=>exact absurd rfl hi
         |_+15,_,_=>exact trivial
        .exact BB A2 (by decide) λb a w' hF _ _=>⟨_,by have z:=(hF.other 6 rfl).trans v6;revert z;generalize a.eval=ρ;intro z;simp only[execOp];go_simp,rfl⟩
        intro a w6 hF _ P0;have I6:PP (a.eval (.tmp 81)) w6:=P0 13 (by decide);have E7:a.eval (.tmp 82)=C (J ⟨w.heap.size+1,1,Z⟩):=P0 14 (by decide);rw[D4]at I6;obtain⟨P7,P8,D3,D7,C6,B7,D5,C4,D6,B4,N7⟩:=I6;obtain⟨A5,C0⟩:∃A5,A5=(D++[(n,aB O9 f)]):=⟨_,rfl⟩;have J8:A5.length=D.length+1:=by rw[C0];simp
        rw[<-C0]at D3 B7 B4;obtain⟨z,Q⟩:=kA C6;refine⟨w6.setCell ⟨w.heap.size+1,1,Z⟩ (M P7 A5.length P8),?_,?_⟩
        .clear P0 D4;generalize A5.length=nn at *
         revert D3 E7
         generalize a.eval=ρ;intro D3 E7;simp only[execOp]
         go_simp
        have E9:=(hF.other 84 rfl).trans I1;obtain⟨gg,hg⟩:∃g:Nat->E,∀t,a.eval (.tmp t)=g t:=⟨λt=>a.eval (.tmp t),λ_=>rfl⟩;have hl:=TK hF 85 68 A2 K8 (by omega) (by kernel_rfl);rw[I0.o]at hl;rw[hg]at E9;simp only[List.take_succ_cons,List.take_zero,List.range',List.map_cons,List.map_nil,List.cons_append,List.nil_append,hg,E9,Nat.reduceAdd,Nat.reduceSub]at hl;rw[hl];show KK _ _;apply I4;have J7:Hid (A5=info++copiesAt L (j+1) (mk.tags.take (k+1))):=by rw[Hid,C0];exact E8.o
        have J5:j+(k+1)<L.length:=by have:=D8.o;omega
        have K4:Hid (((P2:Int)+1)=((j+(k+1):Nat):Int)):=by have:=D8.o;rw[Hid];omega
        have K3:A5.length<=j+(k+1):=by have:=D8.o;omega
        have L6:=zA (And.intro D7 (And.intro C6 (And.intro B7 (And.intro D5 (And.intro C4 (And.intro D6 B4))))));clear C0 J8 hF P0 E7 D3 D7 C6 B7 D5 C4 D6 B4 z Q hl hg E9 D4 E8 G9 I3 I2 E2 G0 E5 K5 G5 F4 E6 A1 B1 KB KT HB I0 v0 v6 v7 G1 I1 I4;go_wp2
        go_roundw
        case rel=>
         obtain⟨D7,C6,B7,D5,C4,D6,B4⟩:=L6.o;exact⟨k+1,A5,P7,P8,by omega,J5,by rw[K4.o],by go_num,K3,J7,D5.setCell (by simp) _,by simp[World.setCell];omega,(tF (by simp) _).trans D7,zc _ _ 1 _ _ (M P7 A5.length P8) C6,gC B7 (λk O6=>by have:=(B7.lt k O6).1;simp;omega) _,gC C4 (λk O6=>by have:=(C4.lt k O6).1;simp;omega) _,SegT.setNe D6 (λb O8 e=>by cases e;have:=C7.o b2 C8 rfl;simp;omega) _,λk O6 b O8 e=>by cases e;exact B4 k O6⟩
        case measure=>simp[intOf];omega
      .have e:k=mk.tags.length:=by omega
       have J4:¬((k:Int)<(mk.tags.length:Int)):=by omega
       have F8:Hid (FA L seq 0 (gA seq)=FA L seq (j+k+1) (txW seq D P1)):=by
        rw[Hid,C3.o,Rb (by omega),C5.o,e,Lc,show j+mk.tags.length+1=j+1+mk.tags.length from by omega]
       have K6:IntKind.i64.wrap (((j+k:Nat):Int)+1)=((j+k:Nat):Int)+1:=by rw[Bc];omega
       clear C3 C5;generalize C2:j+k=P2 at *;go_wp2
       go_roundw
       case rel=>exact⟨P2+1,D,P1,na,nc,A3,A6,by go_num,by omega,by omega,by omega,F8,HB,F0,KB,KT,A1,B1⟩
       case measure=>simp[intOf];omega
   .have B2:Hid (FA L seq 0 (gA seq)=Z):=by
     rw[Hid,R.o,P9.o,Rb];by_cases he:er=0
     .by_cases hq:mk.seq=seq
      .by_cases O6:mk.kind=1
       .exact .inr (.inr O6)
       .exact absurd ⟨he,hq,O6⟩ hok
      .exact .inr (.inl hq)
     .exact .inl he
    clear P9 R E0;by_cases he:er=0
    .subst he;by_cases hq:mk.seq=seq
     .have O6:mk.kind=1:=by
       by_cases O6:mk.kind=1
       .exact O6
       .exact absurd ⟨rfl,hq,O6⟩ hok
      have H8:(mk.seq !=seq)=O:=by simp[hq]
      have N4:(mk.kind==1)=I:=by simp[O6]
      clear hok;obtain⟨⟨P5,m,y,d,P6,c,P4,N,l,q⟩,Q⟩:=BA X.o;go_wp2;obtain⟨W,O7⟩:∃W,W=(((((((((((w1.setCell ⟨w.heap.size,0,Z⟩ (H G 0)).setCell ⟨w.heap.size,1,Z⟩ (M Z 0 0)).setCell ⟨w.heap.size,2,Z⟩ (M Z 0 0)).setCell ⟨w.heap.size,3,Z⟩ (M Z 0 0)).setCell ⟨w.heap.size,4,Z⟩ (Y O)).setCell ⟨w.heap.size,5,Z⟩ (H G 0)).setCell ⟨w.heap.size,6,Z⟩ (Y O)).setCell ⟨w.heap.size,7,Z⟩ (H G 0)).setCell ⟨w.heap.size,8,Z⟩ (Y O)).setCell ⟨w.heap.size,9,Z⟩ (H G 0)).alloc (T #[H G 1,H G seq,H G mk.pos,M r mk.tags.length c2,M a3 mk.blocks.length c3] 81)):=⟨_,rfl⟩;have B:=JE X.o (H G 0) (M Z 0 0) (M Z 0 0) (M Z 0 0) (Y O) (H G 0) (Y O) (H G 0) (Y O) (H G 0) (T #[H G 1,H G seq,H G mk.pos,M r mk.tags.length c2,M a3 mk.blocks.length c3] 81);rw[<-O7]at B;obtain⟨⟨y0,y1,y2,y3,y4,y5,y6,y7,y8,y9⟩,_⟩:=BA B;have HW:=zA O7;rw[<-O7];clear O7 B P5 m y d P6 c P4 N l q Q;refine Tb (v:=S #[F #[H G 0,M Z 0 0,M Z 0 0,M Z 0 0,Y O,H G 0,Y O,H G 0,Y O,H G 0],H G 0]) (by simp[results,results81,go_sem,y0,y1,y2,y3,y4,y5,y6,y7,y8,y9]) rfl ?_;unfold zF;refine⟨_,0,rfl,?_,?_⟩
      .rw[HW.o];exact(((((((((((B3.o.setCell (p:=⟨w.heap.size,0,Z⟩) (by simp) _).setCell (p:=⟨w.heap.size,1,Z⟩) (by simp) _).setCell (p:=⟨w.heap.size,2,Z⟩) (by simp) _).setCell (p:=⟨w.heap.size,3,Z⟩) (by simp) _).setCell (p:=⟨w.heap.size,4,Z⟩) (by simp) _).setCell (p:=⟨w.heap.size,5,Z⟩) (by simp) _).setCell (p:=⟨w.heap.size,6,Z⟩) (by simp) _).setCell (p:=⟨w.heap.size,7,Z⟩) (by simp) _).setCell (p:=⟨w.heap.size,8,Z⟩) (by simp) _).setCell (p:=⟨w.heap.size,9,Z⟩) (by simp) _).alloc (by simp[World.setCell];omega) _)
      .rw[AtPost,B2.o];exact⟨rfl,rfl⟩
     .have H8:(mk.seq !=seq)=I:=by simpa using hq
      clear hok;obtain⟨⟨P5,m,y,d,P6,c,P4,N,l,q⟩,Q⟩:=BA X.o;go_wp2;obtain⟨W,O7⟩:∃W,W=(((((((((((w1.setCell ⟨w.heap.size,0,Z⟩ (H G 0)).setCell ⟨w.heap.size,1,Z⟩ (M Z 0 0)).setCell ⟨w.heap.size,2,Z⟩ (M Z 0 0)).setCell ⟨w.heap.size,3,Z⟩ (M Z 0 0)).setCell ⟨w.heap.size,4,Z⟩ (Y O)).setCell ⟨w.heap.size,5,Z⟩ (H G 0)).setCell ⟨w.heap.size,6,Z⟩ (Y O)).setCell ⟨w.heap.size,7,Z⟩ (H G 0)).setCell ⟨w.heap.size,8,Z⟩ (Y O)).setCell ⟨w.heap.size,9,Z⟩ (H G 0)).alloc (T #[H G mk.kind,H G mk.seq,H G mk.pos,M r mk.tags.length c2,M a3 mk.blocks.length c3] 81)):=⟨_,rfl⟩;have B:=JE X.o (H G 0) (M Z 0 0) (M Z 0 0) (M Z 0 0) (Y O) (H G 0) (Y O) (H G 0) (Y O) (H G 0) (T #[H G mk.kind,H G mk.seq,H G mk.pos,M r mk.tags.length c2,M a3 mk.blocks.length c3] 81);rw[<-O7]at B;obtain⟨⟨y0,y1,y2,y3,y4,y5,y6,y7,y8,y9⟩,_⟩:=BA B;have HW:=zA O7;rw[<-O7];clear O7 B P5 m y d P6 c P4 N l q Q;refine Tb (v:=S #[F #[H G 0,M Z 0 0,M Z 0 0,M Z 0 0,Y O,H G 0,Y O,H G 0,Y O,H G 0],H G 0]) (by simp[results,results81,go_sem,y0,y1,y2,y3,y4,y5,y6,y7,y8,y9]) rfl ?_;unfold zF;refine⟨_,0,rfl,?_,?_⟩
      .rw[HW.o];exact(((((((((((B3.o.setCell (p:=⟨w.heap.size,0,Z⟩) (by simp) _).setCell (p:=⟨w.heap.size,1,Z⟩) (by simp) _).setCell (p:=⟨w.heap.size,2,Z⟩) (by simp) _).setCell (p:=⟨w.heap.size,3,Z⟩) (by simp) _).setCell (p:=⟨w.heap.size,4,Z⟩) (by simp) _).setCell (p:=⟨w.heap.size,5,Z⟩) (by simp) _).setCell (p:=⟨w.heap.size,6,Z⟩) (by simp) _).setCell (p:=⟨w.heap.size,7,Z⟩) (by simp) _).setCell (p:=⟨w.heap.size,8,Z⟩) (by simp) _).setCell (p:=⟨w.heap.size,9,Z⟩) (by simp) _).alloc (by simp[World.setCell];omega) _)
      .rw[AtPost,B2.o];exact⟨rfl,rfl⟩
    .have N5:(er !=0)=I:=by simpa using he
     clear hok;obtain⟨⟨P5,m,y,d,P6,c,P4,N,l,q⟩,Q⟩:=BA X.o;go_wp2;obtain⟨W,O7⟩:∃W,W=(((((((((((w1.setCell ⟨w.heap.size,0,Z⟩ (H G 0)).setCell ⟨w.heap.size,1,Z⟩ (M Z 0 0)).setCell ⟨w.heap.size,2,Z⟩ (M Z 0 0)).setCell ⟨w.heap.size,3,Z⟩ (M Z 0 0)).setCell ⟨w.heap.size,4,Z⟩ (Y O)).setCell ⟨w.heap.size,5,Z⟩ (H G 0)).setCell ⟨w.heap.size,6,Z⟩ (Y O)).setCell ⟨w.heap.size,7,Z⟩ (H G 0)).setCell ⟨w.heap.size,8,Z⟩ (Y O)).setCell ⟨w.heap.size,9,Z⟩ (H G 0)).alloc (T #[H G mk.kind,H G mk.seq,H G mk.pos,M r mk.tags.length c2,M a3 mk.blocks.length c3] 81)):=⟨_,rfl⟩;have B:=JE X.o (H G 0) (M Z 0 0) (M Z 0 0) (M Z 0 0) (Y O) (H G 0) (Y O) (H G 0) (Y O) (H G 0) (T #[H G mk.kind,H G mk.seq,H G mk.pos,M r mk.tags.length c2,M a3 mk.blocks.length c3] 81);rw[<-O7]at B;obtain⟨⟨y0,y1,y2,y3,y4,y5,y6,y7,y8,y9⟩,_⟩:=BA B;have HW:=zA O7;rw[<-O7];clear O7 B P5 m y d P6 c P4 N l q Q;refine Tb (v:=S #[F #[H G 0,M Z 0 0,M Z 0 0,M Z 0 0,Y O,H G 0,Y O,H G 0,Y O,H G 0],H G 0]) (by simp[results,results81,go_sem,y0,y1,y2,y3,y4,y5,y6,y7,y8,y9]) rfl ?_;unfold zF;refine⟨_,0,rfl,?_,?_⟩
     .rw[HW.o];exact(((((((((((B3.o.setCell (p:=⟨w.heap.size,0,Z⟩) (by simp) _).setCell (p:=⟨w.heap.size,1,Z⟩) (by simp) _).setCell (p:=⟨w.heap.size,2,Z⟩) (by simp) _).setCell (p:=⟨w.heap.size,3,Z⟩) (by simp) _).setCell (p:=⟨w.heap.size,4,Z⟩) (by simp) _).setCell (p:=⟨w.heap.size,5,Z⟩) (by simp) _).setCell (p:=⟨w.heap.size,6,Z⟩) (by simp) _).setCell (p:=⟨w.heap.size,7,Z⟩) (by simp) _).setCell (p:=⟨w.heap.size,8,Z⟩) (by simp) _).setCell (p:=⟨w.heap.size,9,Z⟩) (by simp) _).alloc (by simp[World.setCell];omega) _)
     .rw[AtPost,B2.o];exact⟨rfl,rfl⟩
  .have e:j=L.length:=by omega
   have B2:Hid (FA L seq 0 (gA seq)=Z):=by rw[Hid,R.o,FA,Bd hlt]
   have K1:¬((j:Int)<(L.length:Int)):=by omega
   clear R;obtain⟨⟨P5,m,y,d,P6,c,P4,N,l,q⟩,Q⟩:=BA KB.o;go_wp2;obtain⟨W,O7⟩:∃W,W=((((((((((wo.setCell ⟨w.heap.size,0,Z⟩ (H G 0)).setCell ⟨w.heap.size,1,Z⟩ (M Z 0 0)).setCell ⟨w.heap.size,2,Z⟩ (M Z 0 0)).setCell ⟨w.heap.size,3,Z⟩ (M Z 0 0)).setCell ⟨w.heap.size,4,Z⟩ (Y O)).setCell ⟨w.heap.size,5,Z⟩ (H G 0)).setCell ⟨w.heap.size,6,Z⟩ (Y O)).setCell ⟨w.heap.size,7,Z⟩ (H G 0)).setCell ⟨w.heap.size,8,Z⟩ (Y O)).setCell ⟨w.heap.size,9,Z⟩ (H G 0)):=⟨_,rfl⟩;have B:=pJ KB.o (H G 0) (M Z 0 0) (M Z 0 0) (M Z 0 0) (Y O) (H G 0) (Y O) (H G 0) (Y O) (H G 0);rw[<-O7]at B;obtain⟨⟨y0,y1,y2,y3,y4,y5,y6,y7,y8,y9⟩,_⟩:=BA B;have HW:=zA O7;rw[<-O7];clear O7 B P5 m y d P6 c P4 N l q Q;refine Tb (v:=S #[F #[H G 0,M Z 0 0,M Z 0 0,M Z 0 0,Y O,H G 0,Y O,H G 0,Y O,H G 0],H G 0]) (by simp[results,results81,go_sem,y0,y1,y2,y3,y4,y5,y6,y7,y8,y9]) rfl ?_;unfold zF;refine⟨_,0,rfl,?_,?_⟩
   .rw[HW.o];exact((((((((((HB.o.setCell (p:=⟨w.heap.size,0,Z⟩) (by simp) _).setCell (p:=⟨w.heap.size,1,Z⟩) (by simp) _).setCell (p:=⟨w.heap.size,2,Z⟩) (by simp) _).setCell (p:=⟨w.heap.size,3,Z⟩) (by simp) _).setCell (p:=⟨w.heap.size,4,Z⟩) (by simp) _).setCell (p:=⟨w.heap.size,5,Z⟩) (by simp) _).setCell (p:=⟨w.heap.size,6,Z⟩) (by simp) _).setCell (p:=⟨w.heap.size,7,Z⟩) (by simp) _).setCell (p:=⟨w.heap.size,8,Z⟩) (by simp) _).setCell (p:=⟨w.heap.size,9,Z⟩) (by simp) _)
   .rw[AtPost,B2.o];exact⟨rfl,rfl⟩
theorem SegS.drop{b off:Nat}(h:SegS w (J ⟨b,off,Z⟩) l)(p:Nat):SegS w (J ⟨b,off+p,Z⟩) (l.drop p):=by
 rcases h with rfl|⟨b',o',e,D,R⟩
 .exact .inl (by simp)
 .cases e;by_cases hp:p<l.length
  .refine .inr ⟨b,off+p,rfl,D,λi Q=>?_⟩;have:=R (p+i) (by rw[Uc]at Q;omega);rw[uJ,Nat.add_assoc];exact this
  .exact .inl (List.drop_eq_nil_iff.2 (by omega))
theorem PQ(la:Option Addr)(n D:Nat)(L:List ByteArray)(seq:Int)(w:K)(X:n=L.length)(Q:SegS w la L)(R:L.length<=24)(a:∀i,(L.getD i U).size<=maxLen):
  Calls prog 81 #[M la n D,H G seq] w λe w'=>zF w w' L seq e:=by
 subst X;exact HU la D L seq w Q R a
theorem vQ{g pos D:Nat}(h:SegS w (J ⟨g,0,Z⟩) l)(hc:l.length<=D):SegS w (if D=pos then J ⟨g,0,Z⟩ else J ⟨g,pos,Z⟩) (l.drop pos):=by
 by_cases e:D=pos
 .exact .inl (List.drop_eq_nil_iff.2 (by omega))
 .rw[Qb e];have:=SegS.drop h pos
  rwa [Dc]at this
theorem uO(D:cA d=I)(a:Int)(pos i:Nat):(((logOf d a).drop pos).getD i U).size<=maxLen:=by
 rw[uJ];by_cases h:pos+i<24
 .rw[qG d a _ h];have:=SN D (1+(a+((pos+i:Nat):Int))%24);unfold maxLen;omega
 .rw[List.getD,cd (by rw[TA];omega)];unfold maxLen;show(0:Nat)<=_;omega
theorem dL{e:TypeId}{size:Nat}{D:List E}(h:w.ownsRow base e size v n D)(hb:∀k,v.ownBlock=J k->k≠B):(((((((((((w.setCell ⟨B,0,Z⟩ v0).setCell ⟨B,1,Z⟩ v1).setCell ⟨B,2,Z⟩ v2).setCell ⟨B,3,Z⟩ v3).setCell ⟨B,4,Z⟩ v4).setCell ⟨B,5,Z⟩ v5).setCell ⟨B,6,Z⟩ v6).setCell ⟨B,7,Z⟩ v7).setCell ⟨B,8,Z⟩ v8).setCell ⟨B,9,Z⟩ v9)).ownsRow base e size v n D:=by
 repeat refine gC ?_ (λk e=>by simpa using hb k e) _
 exact h
theorem OwnR.set10{x:RX}(h:OwnR w base x)(D:B<base):OwnR (((((((((((w.setCell ⟨B,0,Z⟩ v0).setCell ⟨B,1,Z⟩ v1).setCell ⟨B,2,Z⟩ v2).setCell ⟨B,3,Z⟩ v3).setCell ⟨B,4,Z⟩ v4).setCell ⟨B,5,Z⟩ v5).setCell ⟨B,6,Z⟩ v6).setCell ⟨B,7,Z⟩ v7).setCell ⟨B,8,Z⟩ v8).setCell ⟨B,9,Z⟩ v9)) base x:=
 ⟨dL h.1 (h.ne D).1,dL h.2.1 (h.ne D).2.1,dL h.2.2 (h.ne D).2.2⟩
theorem AtPost.form(h:AtPost w w' L seq v b):∃s ma mn mc ra rn rc,v=F #[H G s,M ma mn mc,M Z 0 0,M ra rn rc,Y O,H G 0,Y O,H G 0,Y O,H G 0]:=by
 unfold AtPost at h;split at h
 .exact⟨_,_,_,_,_,_,_,h.2⟩
 .rename_i n t _;obtain⟨_,m,r,e,C,_⟩:=h;obtain⟨ma,mc,_,_,ra,rc,A,_,B,_⟩:=C.tx;simp only at A B;subst A B;exact⟨_,_,_,_,_,_,_,e⟩
theorem AtPost.ofNone(h:AtPost w w' L seq (F #[H G s,M ma mn mc,M Z 0 0,M ra rn rc,Y O,H G 0,Y O,H G 0,Y O,H G 0]) b)(D:FA L seq 0 (gA seq)=Option.none):b=0:=by
 rw[AtPost,D]at h;exact h.1
theorem AtPost.ofSome{t:Tx}(h:AtPost w w' L seq (F #[H G s,M ma mn mc,M Z 0 0,M ra rn rc,Y O,H G 0,Y O,H G 0,Y O,H G 0]) b)(Q:FA L seq 0 (gA seq)=Option.some (n,t)):
  b=(n:Int)/\s=seq/\OwnR w' w.heap.size ⟨M ma mn mc,M Option.none 0 0,M ra rn rc,t⟩/\t=txW seq t.info t.rev/\mn=t.info.length/\rn=t.rev.length:=by
 rw[AtPost,Q]at h;obtain⟨hb,m,r,e,C,D⟩:=h;simp only[Value.agg.injEq,Array.mk.injEq,List.cons.injEq,Value.int.injEq,true_and,and_true]at e;obtain⟨rfl,rfl,rfl⟩:=e;obtain⟨A3,A2,_,_,A1,A0,A,_,B,_⟩:=C.tx;simp only at A B;cases A;cases B;exact⟨hb,rfl,C,D,rfl,rfl⟩
theorem Ka(d:Dk)(a:Int)(k:Nat)(h:k<24):(logOf d a).take (k+1)=(logOf d a).take k++[jA d (1+(a+(k:Int))%24)]:=by
 have A:(logOf d a)[k]?=J (jA d (1+(a+(k:Int))%24)):=by rw[logOf,Ld,Cf h];rfl
 rw[Oc,A];rfl
theorem NW(h:MA d=0):cA d=I/\(1<=(pA d).seq/\(pA d).seq<=2147483647)/\0<=(pA d).pos/\(pA d).pos<=23:=by
 unfold MA at h;split at h
 .rename_i C;exact absurd h C
 .rename_i C;split at h
  .cases h
  .rename_i F
   have E:(EA (jA d 0)).2=0:=by
    by_cases A:(EA (jA d 0)).2=0
    .exact A
    .exact absurd (.inl A) F
   have B:=dG E
   have D:readE d 0=0:=by
    by_cases A:readE d 0=0
    .exact A
    .exact absurd A C
   refine⟨?_,?_⟩
   .unfold readE at D;split at D
    .rename_i A;exact(ug.1 A).1
    .cases D
   .unfold goodM at B;split at B
    .cases B
    .split at B
     .cases B
     .rename_i A;show(1<=(EA (jA d 0)).1.seq/\_)/\_;unfold pA;omega
theorem nS(a:Option Addr)(c:Nat)(a':Option Addr)(c':Nat)(d:Dk)(w:K)(hD:IsDk w (F #[M a d.safe.length c,M a' d.wr.length c']) d):
  Calls prog 35 #[F #[M a d.safe.length c,M a' d.wr.length c']] w λe w'=>ScPost w w' d e:=by
 have HD:=zA hD;clear hD;obtain⟨i0,hi,J3,K4,F4⟩:=Gc XF;go_enter func35,ntmps35;go_wp2_with fail;refine(OK _ d 0 _ (HD.o.below (vA (qA _ _) (qA _ _)))).mono ?_;rintro e w1 ⟨rfl,E8⟩;have K0:=zA (sB E8);have F7:=zA (JB E8);have I3:w.heap.size+1<w1.heap.size:=by have:=E8.size;simp at this;omega
 have H0:=zA (vA (vA (qA _ _) (qA _ _)) E8);clear E8;by_cases hE:readE d 0=0
 .rw[hE];have J2:=zA hE;clear hE;go_wp2_with fail;refine(ZU (jA d 0) _).mono ?_;rintro e w2 ⟨v2,rfl,hN,A9⟩;obtain⟨a2,c2,a3,c3,rfl,_,_,_,_⟩:=hN;obtain⟨N3,hM⟩:∃N3,N3=EA (jA d 0):=⟨_,rfl⟩;rw[<-hM];obtain⟨mk,er⟩:=N3;have D1:Hid (MA d=if er≠0\/mk.kind≠1 then 1 else 0):=by rw[Hid,MA,pA,<-hM,J2.o];simp
  have E0:Hid (pA d=mk):=by rw[Hid,pA,<-hM]
  clear hM;have D6:w.heap.size+1<w2.heap.size:=Xb I3 A9.size;have C9:=zA (yA A9 I3 F7.o);have I5:=zA (yA A9 (show w.heap.size<w1.heap.size by omega) K0.o);have M9:=zA (vA H0.o A9);clear A9 F7 H0 K0;dsimp only;by_cases hok:er=0/\mk.kind=1
  .obtain⟨rfl,M2⟩:=hok;have F2:Hid (MA d=0):=by rw[Hid,D1.o,Qb (by simp[M2])]
   have J0:cA d=I/\(1<=mk.seq/\mk.seq<=2147483647)/\0<=mk.pos/\mk.pos<=23:=by
    have h:=E0.o;rw[<-h];exact NW F2.o
   obtain⟨hg,⟨J6,K2⟩,K7,K3⟩:=J0;have HG:=zA hg;have HL:Hid (GA d=scanP (logOf d mk.pos) 0 mk.seq []):=by rw[Hid,GA,E0.o]
   obtain⟨L9,hp⟩:∃L9:Nat,mk.pos=(L9:Int):=⟨mk.pos.toNat,by omega⟩;have F1:Hid ((pA d).pos.toNat=L9):=by rw[Hid,E0.o,hp];rfl
   have F5:Hid ((pA d).seq=mk.seq):=by rw[Hid,E0.o]
   rw[hp]at HL|-;rw[M2];have L1:L9<24:=by omega
   obtain⟨q0,hq⟩:∃q0,q0=mk.seq:=⟨_,rfl⟩;rw[<-hq]at HL F5 J6 K2|-;clear D1 E0 K7 K3 hp hq M2 hg;generalize mk.tags.length=n2 at *;generalize mk.blocks.length=n3 at *;go_wp2;obtain⟨W2,E1⟩:∃W2,W2=w2.alloc (.cells #[H G 1,H G q0,H G (L9:Int),M a2 n2 c2,M a3 n3 c3] 81):=⟨_,rfl⟩;have A9:Below w2.heap.size w2 W2:=by rw[E1];exact qA _ _
   have F3:Hid (W2.heap[w2.heap.size]?=J (.cells #[H G 1,H G q0,H G (L9:Int),M a2 n2 c2,M a3 n3 c3] 81 (0,0))):=by rw[E1];exact Cc _ _
   have L2:w2.heap.size+1=W2.heap.size:=by rw[E1];simp
   have y:=zA (yA A9 D6 C9.o);have I2:=zA (yA A9 (show w.heap.size<w2.heap.size by omega) I5.o);have G8:=zA (vA M9.o A9);rw[<-E1];clear E1 A9 C9 I5 M9
   go_loopw [7,37] (λlv iv wr=>∃k:Nat,k<=24/\iv=H G (k:Int)/\Hid (wr.ownsRow W2.heap.size 9 1 lv k (cellsS ((logOf d L9).take k)))/\Hid (Below W2.heap.size W2 wr)) (λ_ iv _=>24 - (intOf iv).toNat)
   case atStart=>exact⟨0,Vb _,rfl,Kc _ _ _ _,Ub _ _⟩
   case round=>
    obtain⟨k,M2,rfl,HO,r⟩:=hrel;by_cases hlt:k<24
    .have L3:(k:Int)<24:=by omega
     obtain⟨⟨x0,x1⟩,xf⟩:=XA (yA r.o (show w.heap.size<W2.heap.size by omega) I2.o);obtain⟨⟨y0,y1,y2,y3,y4⟩,_⟩:=LA (yA r.o (show w2.heap.size<W2.heap.size by omega) F3.o);go_wp2_with fail;refine(OK _ d _ _ (HD.o.below (vA G8.o r.o))).mono ?_;rintro e w4 ⟨rfl,H6⟩;obtain⟨s,hs⟩:∃s,s=jA d (1+((L9:Int)+(k:Int))%24):=⟨_,rfl⟩;have J4:Hid ((logOf d L9).take (k+1)=(logOf d L9).take k++[s]):=by rw[Hid,hs];exact Ka d L9 k hlt
     rw[<-hs];clear hs;have B4:=zA (dA HO.o H6);have D8:=zA (vA r.o H6);generalize readE d (1+((L9:Int)+(k:Int))%24)=E4;clear H6 HO x0 x1 xf y0 y1 y2 y3 y4;go_wp2_with (at_builtin;refine wd _ rfl _ _ 42 rfl W2.heap.size 9 i0 (A ⟨#[]⟩) 1 16 underlying42 hi J3 K4 F4 rfl (by decide) _ _ _ rfl (B4.o.alloc _) ⟨w4.heap.size,0,Z⟩ 1 1 (cellsS [s]) rfl ?qc1 ?qc2 ?qc3 ?qc4 ?qc5 ?qc6 ?_)
     case qc1=>rfl
     case qc2=>
      intro j u hj
      match j,hj with
      |0,hj=>simp[cellsS]at hj;subst hj;simp[go_sem]
     case qc3=>exact JH
     case qc4=>unfold maxLen;omega
     case qc5=>omega
     case qc6=>have:=D8.o.size;simp;omega
     intro v5 w5 D4 E7 _;have C8:Hid (Below W2.heap.size W2 w5):=(D8.o.alloc D8.o.size _).grown E7 (by have:=D8.o.size;simp;omega) (λk M2=>(B4.o.lt k M2).1);rw[<-lI,<-J4.o]at D4;have B9:=zA D4;clear D4 E7 D8 B4;go_wp2
     go_roundw
     case rel=>exact⟨k+1,by omega,by go_num,B9,C8⟩
     case measure=>simp[intOf];omega
    .have I6:k=24:=by omega
     subst I6;have hO:=HO.o;rw[zd (by rw[TA];omega)]at hO
     obtain⟨g,lc,hv⟩:∃g lc,u7=M (J ⟨g,0,Z⟩) 24 lc:=by
      rcases hO.2 with⟨_,h0⟩|⟨g,cap,N2,e,_⟩
      .cases h0
      .exact⟨g,cap,e⟩
     subst hv
     have G1:24<=lc:=by
      rcases hO.2 with⟨_,h0⟩|⟨g,cap,N2,e,_,_,h2,_⟩
      .cases h0
      .cases e;exact h2
     obtain⟨a9,c9,K5,I1,_⟩:=SegS.of_owns hO;cases K5;have H9:=zA I1;obtain⟨⟨y0,y1,y2,y3,y4⟩,_⟩:=LA (yA r.o (show w2.heap.size<W2.heap.size by omega) F3.o);have J7:=zA (yA r.o (show w.heap.size+1<W2.heap.size by omega) y.o);have I0:=zA (yA r.o (show w2.heap.size<W2.heap.size by omega) F3.o);have H3:=zA (vA G8.o r.o);have D7:w2.heap.size<wr.heap.size:=by have:=r.o.size;omega
     clear hO HO r y I2 G8 F3 I1;have G4:=D7;go_wp2;obtain⟨B,J9⟩:∃B,B=wr:=⟨_,rfl⟩;subst J9;clear y0 y1 y2 y3 y4;have J5:(L9+0)%24=L9:=by omega
     have I4:Hid ((B.alloc (.cells #[M Z 0 0,H G q0,H G (L9:Int)] 57)).heap[B.heap.size]?=J (.cells #[M Z 0 0,H G q0,H G (L9:Int)] 57 (0,0))):=Cc _ _;have G5:Hid (scanP (logOf d L9) 0 (q0+(([]:List RX).length:Int)) (([]:List RX).map (·.t))=GA d):=by rw[Hid,HL.o];simp
     go_loopw [12] (λav wr=>∃(pos:Nat) (M0:Int) (q:List RX) (va:Option Addr) (vc:Nat),av=H G (pos:Int)/\pos<=24/\M0=q0+(q.length:Int)/\q.length<=pos/\Hid (scanP (logOf d L9) pos M0 (q.map (·.t))=GA d)/\Hid (Below B.heap.size B wr)/\B.heap.size<wr.heap.size/\
       Hid (wr.heap[B.heap.size]?=J (.cells #[M va q.length vc,H G M0,H G (((L9+pos)%24:Nat):Int)] 57 (0,0)))/\Hid (wr.ownsRow (B.heap.size+1) 52 10 (M va q.length vc) q.length (cellsX q))/\Hid (∀x∈q,OwnR wr (B.heap.size+1) x))
      (λav _=>24 - (intOf av).toNat)
     case atStart=>exact⟨0,q0+(([]:List RX).length:Int),[],Z,0,rfl,Vb _,rfl,Vb _,G5,qA _ _,by simp,by rw[J5];simpa using I4,Kc _ _ _ _,λx U=>(by cases U)⟩
     case round=>
      clear I4 G5 HL;obtain⟨pos,M0,q,va,vc,rfl,D3,H8,L8,B0,r,G2,KF,HO,HX⟩:=hrel;have B6:=zA H8;clear H8;have KB:=zA (yA r.o (show w.heap.size+1<B.heap.size by omega) J7.o);by_cases hlt:M0<2147483647
      .have K8:(pos:Int)<=24:=by omega
       have K9:(pos:Int)<=(lc:Int):=by omega
       have L0:(0:Int)<=(pos:Int):=by omega
       obtain⟨⟨x0,x1,x2⟩,xf⟩:=fB KF.o;have A0:Hid (∀w',Below wr.heap.size wr w'->Hid (Below wr.heap.size wr w')/\w'.cell? ⟨B.heap.size,1,Z⟩=J (H G M0)):=λw' hb=>⟨hb,xA hb G2 x1⟩
       obtain⟨la,H2⟩:∃la:Option Addr,Hid (la=if lc=pos then J ⟨g,0,Z⟩ else J ⟨g,pos,Z⟩):=⟨_,rfl⟩;go_wp2;refine wp_region_held_drew (S:=(λw'=>w'.cell? ⟨B.heap.size,1,Z⟩=J (H G M0))) (by kernel_rfl) (A0.o _ ((Ub _ _).drew)).2 (λN1=>?_);refine jD 0 _ 65 (M (J ⟨g,0,Z⟩) 24 lc) (by kernel_rfl) (by kernel_rfl) (by kernel_rfl) rfl rfl rfl ?_ (λ_ _ _ h=>h) (by assumption) ?_
       .intro w A1
        go_simp
       refine jD 1 _ 66 (H G (pos:Int)) (by kernel_rfl) (by kernel_rfl) (by kernel_rfl) rfl rfl rfl ?_ (λ_ _ _ h=>h) (by assumption) ?_
       .intro w A1
        go_simp
       refine jD 2 _ 67 (M la (24 - pos) (lc - pos)) (by kernel_rfl) (by kernel_rfl) (by kernel_rfl) rfl rfl rfl ?_ (λ_ _ _ h=>h) (by assumption) ?_
       .intro w A1;rw[H2.o]
        go_simp
       refine jD 3 _ 68 (C (J ⟨B.heap.size,1,Z⟩)) (by kernel_rfl) (by kernel_rfl) (by kernel_rfl) rfl rfl rfl ?_ (λ_ _ _ h=>h) (by assumption) ?_
       .intro w A1
        go_simp
       refine jD 4 _ 69 (H G M0) (by kernel_rfl) (by kernel_rfl) (by kernel_rfl) rfl rfl rfl ?_ (λ_ _ _ h=>h) (by assumption) ?_
       .intro w A1
        go_simp
       refine wpAnyH_ready (rs:=[5,9]) (by kernel_rfl) (by simp) ?_;refine AllReadyH.cons rfl (λN0 hK=>?_) (AllReadyH.cons rfl (λN0 hK=>?_) AllReadyH.nil)
       .have A3:Hid (Below wr.heap.size wr wr.drew):=(Ub _ _).drew
        go_simp
        refine(PQ _ _ _ ((logOf d L9).drop pos) M0 _ (by rw[Uc,TA]) (by rw[H2.o];exact vQ ((H9.o.below r.o).below A3.o) (by rw[TA];exact G1)) (by rw[Uc,TA];omega) (uO HG.o L9 pos)).mono ?_;rintro e B1 ⟨v,b,rfl,B2,hT⟩;obtain⟨s,i,mn,M3,M4,rn,X,rfl⟩:=hT.form;have HT:=zA hT;have D5:=zA B2;have A4:=vA A3.o B2;have B7:=A4.size;clear hT B2;dsimp only;refine hK.o _ _ (A0.o _ A4).2 (λM6=>?_);clear hK N0;refine jD 6 _ 64 (.tuple #[F #[H G s,M i mn M3,M Z 0 0,M M4 rn X,Y O,H G 0,Y O,H G 0,Y O,H G 0],H G b]) (by kernel_rfl) (by kernel_rfl) (by kernel_rfl) rfl rfl rfl ?_ (λ_ _ _ h=>h) (by assumption) ?_
        .intro w A1
         go_simp
        refine jD 7 _ 71 (F #[H G s,M i mn M3,M Z 0 0,M M4 rn X,Y O,H G 0,Y O,H G 0,Y O,H G 0]) (by kernel_rfl) (by kernel_rfl) (by kernel_rfl) rfl rfl rfl ?_ (λ_ _ _ h=>h) (by assumption) ?_
        .intro w A1
         go_simp
        refine jD 8 _ 72 (H G b) (by kernel_rfl) (by kernel_rfl) (by kernel_rfl) rfl rfl rfl ?_ (λ_ _ _ h=>h) (by assumption) ?_
        .intro w A1
         go_simp
        refine wpAnyH_ready (rs:=[9]) (by kernel_rfl) (by simp) ?_;refine AllReadyH.cons rfl (λN0 hK=>?_) AllReadyH.nil
        go_simp
        refine hK.o _ _ (A0.o _ (A4.alloc B7 _)).2 (λM7=>?_);clear hK N0;refine wpAnyH_ready (rs:=[10]) (by kernel_rfl) (by simp) ?_;refine AllReadyH.cons rfl (λN0 hK=>?_) AllReadyH.nil
        go_simp
        refine hK.o _ _ (A0.o _ (A4.alloc B7 _)).2 (λM8=>?_);clear hK N0;refine jD 11 _ 14 (H G b) (by kernel_rfl) (by kernel_rfl) (by kernel_rfl) rfl rfl rfl ?_ (λ_ _ _ h=>h) (by assumption) ?_
        .intro w A1
         go_simp
        refine wpAnyH_done (by kernel_rfl) ?_ _;obtain⟨W,M1⟩:∃W,W=B1.alloc (.cells #[H G s,M i mn M3,M Z 0 0,M M4 rn X,Y O,H G 0,Y O,H G 0,Y O,H G 0] 52):=⟨_,rfl⟩;have L:Below wr.heap.size wr W:=by rw[M1];exact A4.alloc B7 _
        have KT:Hid (W.heap[B1.heap.size]?=J (.cells #[H G s,M i mn M3,M Z 0 0,M M4 rn X,Y O,H G 0,Y O,H G 0,Y O,H G 0] 52 (0,0))):=by rw[M1];exact Cc _ _
        have C5:Hid (∀t,OwnR B1 wr.drew.heap.size ⟨M i mn M3,M Z 0 0,M M4 rn X,t⟩->OwnR W (B.heap.size+1) ⟨M i mn M3,M Z 0 0,M M4 rn X,t⟩):=by
         intro t h;rw[M1];exact(h.below (qA _ _)).base (by simp;omega)
        rw[<-M1];obtain⟨T,C2⟩:∃T,T=B1.heap.size:=⟨_,rfl⟩;rw[<-C2]at KT|-;have K1:T<W.heap.size:=(Wb.1 KT.o).1;have H5:wr.heap.size<=T:=by rw[C2];omega
        clear M1 C2;clear D5 A4 A3 N1 M6 M7 M8;have D6:=L.size;have y:=zA (yA L (show w.heap.size+1<wr.heap.size by omega) KB.o);have Q:=zA (yA L G2 KF.o);have M5:=zA (dA HO.o L);have B5:Hid (∀x∈q,OwnR W (B.heap.size+1) x):=λx U=>(HX.o x U).below L;have M9:=zA (vA r.o L);have F4:w.heap.size+1<W.heap.size:=by omega
        have D7:B.heap.size<W.heap.size:=by omega
        have G3:B.heap.size<T:=by omega
        clear L A0 x0 x1 x2 xf KB KF HO HX r B7 H5 D6
        cases hrun:FA (logOf d L9) M0 pos (gA M0) with
        |none=>
         have A2:FA ((logOf d L9).drop pos) M0 0 (gA M0)=Z:=by rw[qI (logOf d L9) M0 pos (by rw[TA];exact D3) 24 0 (gA M0) (by rw[TA];omega),pe,hrun];rfl
         obtain rfl:=HT.o.ofNone A2;have A8:Hid (GA d=(q.map (·.t),pos)):=by rw[Hid,<-B0.o,scanP,td hlt,hrun]
         clear hrun A2 B0 HT C5 KT G3;obtain⟨m3,A7⟩:∃m3:Nat,m3=(L9+pos)%24:=⟨_,rfl⟩;rw[<-A7]at Q;have E6:=zA A7;clear A7;obtain⟨⟨z0,z1,z2⟩,zf⟩:=fB y.o;obtain⟨⟨x0,x1,x2⟩,xf⟩:=fB Q.o;go_wp2;clear x0 x1 x2 xf;obtain⟨V9,N⟩:∃V9,V9=(((W.setCell ⟨w.heap.size+1,0,Z⟩ (M va q.length vc)).setCell ⟨w.heap.size+1,1,Z⟩ (H G M0)).setCell ⟨w.heap.size+1,2,Z⟩ (H G (m3:Int))):=⟨_,rfl⟩;have D:=sE y.o (M va q.length vc) (H G M0) (H G (m3:Int));rw[<-N]at D;obtain⟨⟨y0,y1,y2⟩,_⟩:=fB D;have A5:=zA N;rw[<-N];clear N D z0 z1 z2 zf;refine Tb (v:=.tuple #[F #[M va q.length vc,H G M0,H G (m3:Int)],H G 0]) (by simp[results,results35,go_sem,y0,y1,y2]) rfl ?_;rw[ScPost,F2.o];refine⟨_,rfl,?_,λh=>absurd rfl h,λ_=>⟨q,va,vc,?_,?_,?_,?_⟩⟩
         .rw[A5.o];exact(((vA H3.o M9.o).setCell (p:=⟨w.heap.size+1,0,Z⟩) (by simp) _).setCell (p:=⟨w.heap.size+1,1,Z⟩) (by simp) _).setCell (p:=⟨w.heap.size+1,2,Z⟩) (by simp) _
         .rw[F1.o,A8.o,F5.o,<-B6.o,E6.o]
         .rw[A8.o]
         .rw[A5.o];refine qB (VD (M5.o) ?_) (show w.heap.size<=B.heap.size+1 by omega);intro k M2;have:=(M5.o.lt k M2).1;omega
         .intro x U;rw[A5.o];exact OwnR.base (OwnR.set3 (B5.o x U) (by omega)) (by omega)
        |some nt=>
         obtain⟨n,t⟩:=nt;have A2:FA ((logOf d L9).drop pos) M0 0 (gA M0)=J (n - pos,t):=by rw[qI (logOf d L9) M0 pos (by rw[TA];exact D3) 24 0 (gA M0) (by rw[TA];omega),pe,hrun];rfl
         have hn:=mE (logOf d L9) M0 24 pos (gA M0) n t (by rw[TA];omega) hrun;rw[TA]at hn;have C3:Hid (scanP (logOf d L9) n (M0+1) (q.map (·.t)++[t])=GA d):=by rw[Hid,<-B0.o,scanP.eq_def (logOf d L9) pos,td hlt,hrun]
         obtain⟨E3,G0,E2,ht,G6,F8⟩:=HT.o.ofSome A2;subst G0;have C0:=zA (C5.o t E2);clear hrun A2 B0 HT C5 E2;obtain⟨ti,z,H1⟩:∃ti z,t=txW s ti z:=⟨_,_,ht⟩;subst H1;subst G6 F8;obtain⟨n',D9⟩:∃n',n'=n - pos:=⟨_,rfl⟩;rw[<-D9]at E3;subst E3;have C7:Hid (pos+n'=n):=by rw[Hid];omega
         have I8:pos+n'<=24:=by omega
         have J8:((n':Int)==0)=O:=Ec.2 (by omega);clear D9 ht;have I9:q.length<=24:=by omega
         obtain⟨⟨x0,x1,x2⟩,xf⟩:=fB Q.o;obtain⟨⟨t0,t1,t2,t3,t4,t5,t6,t7,t8,t9⟩,tf⟩:=BA KT.o;go_wp2_with (at_builtin;refine jK rfl _ _ rfl (B.heap.size+1) _ q rfl (dA M5.o (qA _ _)) W.heap.size ⟨M i (txW s ti z).info.length M3,M Z 0 0,M M4 (txW s ti z).rev.length X,txW s ti z⟩ rfl (wK (by simp[go_sem,txW]) (by simp[go_sem,txW]) (by simp[go_sem,txW]) (by simp[go_sem,txW]) (by simp[go_sem,txW]) (by simp[go_sem,txW]) (by simp[go_sem,txW]) (by simp[go_sem,txW]) (by simp[go_sem,txW]) (by simp[go_sem,txW])) C0.o.one (by omega) (by simp;omega) ?_);intro v3 w4 B4 A6;clear x0 x1 x2 xf t0 t1 t2 t3 t4 t5 t6 t7 t8 t9 tf;obtain⟨R,m⟩:∃R,R=q++[(⟨M i (txW s ti z).info.length M3,M Z 0 0,M M4 (txW s ti z).rev.length X,txW s ti z⟩:RX)]:=⟨_,rfl⟩;have C6:R.length=q.length+1:=by rw[m];simp
         have B3:=vG B4 (show _=R.length by simp[m]);rw[<-m]at B3;have l:Below W.heap.size W _:=qA W (.cells #[H G s,M i ti.length M3,M Z 0 0,M M4 z.length X,Y O,H G 0,Y O,H G 0,Y O,H G 0] 52 (0,0));have C1:∀k,(M va q.length vc).ownBlock=J k->B.heap.size+1<=k:=λk M2=>(M5.o.lt k M2).1;have J1:W.heap.size+1<=w4.heap.size:=by have:=A6.size;simpa using this
         have H4:Hid (∀x∈R,OwnR w4 (B.heap.size+1) x):=by
          intro x U;rw[m]at U
          have F9:OwnR W (B.heap.size+1) x:=by
           rcases Mc.1 U with h|h
           .exact B5.o x h
           .rw[Rc.1 h];exact C0.o
          exact(F9.below l).grown (dA M5.o l) A6
         have F0:Hid (scanP (logOf d L9) n (s+1) (R.map (·.t))=GA d):=by rw[Hid,m,Ed];exact C3.o
         have E9:Hid (s+1=q0+(R.length:Int)):=by rw[Hid,C6,B6.o];omega
         have E5:Hid (w4.heap[B.heap.size]?=_):=(A6.block _ (by simp;omega) (λe=>by have:=C1 _ e.symm;omega)).trans (yA l D7 Q.o);have C8:Hid (Below B.heap.size B w4):=(vA M9.o l).grown A6 (vA M9.o l).size (λk M2=>by have:=C1 k M2;omega);have B9:=zA B3
         obtain⟨C4,B8,G9⟩:∃C4 B8,v3=M C4 R.length B8:=by
          rcases B3.2 with⟨e,h0⟩|⟨g,cap,N2,e,_⟩
          .exact absurd h0 (by omega)
          .exact⟨_,_,e⟩
         subst G9;have B7:IntKind.i64.wrap (s+1)=s+1:=by rw[Bc];have:=B6.o;omega
         clear m B4 B3 l C1 A6 B5 C0 C3 y Q M9 M5 C6 KT;obtain⟨⟨x0,x1,x2⟩,xf⟩:=fB E5.o;obtain⟨⟨y0,y1,y2,y3,y4⟩,_⟩:=LA (yA C8.o G4 I0.o);have K6:B.heap.size<w4.heap.size:=by omega
         have D2:R.length<=n:=by have h1:=E9.o;have h2:=B6.o;omega
         go_wp2;clear x0 x1 x2 xf y0 y1 y2 y3 y4;refine⟨⟨_,_,_,_,_,_,_,_,_,_,_,_,_,_,_,_,_,_,_,_,_,_,_,_,_,_,_,_,_,_,_,_,_,_,_,_,_,_,?rel,rfl⟩,?measure⟩
         case rel=>
          have e1:((L9:Int)+((pos:Int)+(n':Int)))%24=(((L9+n)%24:Nat):Int):=by rw[<-C7.o];simp
          exact⟨n,s+1,R,C4,B8,by rw[<-C7.o];simp,hn.2,E9.o,D2,F0,((C8.o.setCell (p:=⟨B.heap.size,0,Z⟩) (by simp) _).setCell (p:=⟨B.heap.size,1,Z⟩) (by simp) _).setCell (p:=⟨B.heap.size,2,Z⟩) (by simp) _,by simp[World.setCell];omega,by rw[<-e1];exact sE E5.o _ _ _,VD B9.o (λk M2=>by have:=(B9.o.lt k M2).1;omega),λx U=>(H4.o x U).set3 (by omega)⟩
         case measure=>have:=C7.o;simp[intOf];omega
       .go_simp
        have A3:Hid (Below wr.heap.size wr (wr.alloc (.cells #[H G 0,M Z 0 0,M Z 0 0,M Z 0 0,Y O,H G 0,Y O,H G 0,Y O,H G 0] 52)).drew):=(qA _ _).drew;refine hK.o _ _ (A0.o _ A3.o).2 (λM6=>?_);clear hK N0;refine wpAnyH_ready (rs:=[5]) (by kernel_rfl) (by simp) ?_;refine AllReadyH.cons rfl (λN0 hK=>?_) AllReadyH.nil
        go_simp
        refine(PQ _ _ _ ((logOf d L9).drop pos) M0 _ (by rw[Uc,TA]) (by rw[H2.o];exact vQ ((H9.o.below r.o).below A3.o) (by rw[TA];exact G1)) (by rw[Uc,TA];omega) (uO HG.o L9 pos)).mono ?_;rintro e B1 ⟨v,b,rfl,B2,hT⟩;obtain⟨s,i,mn,M3,M4,rn,X,rfl⟩:=hT.form;have HT:=zA hT;have D5:=zA B2;have A4:=vA A3.o B2;have B7:=A4.size;clear hT B2;dsimp only;have F6:B1.heap[wr.heap.size]?=J (.cells #[H G 0,M Z 0 0,M Z 0 0,M Z 0 0,Y O,H G 0,Y O,H G 0,Y O,H G 0] 52 (0,0)):=(D5.o.block _ (by simp)).trans (Cc wr _);have I7:wr.heap.size<B1.heap.size:=(Wb.1 F6).1;refine hK.o _ _ (A0.o _ A4).2 (λM7=>?_);clear hK N0;refine jD 6 _ 64 (.tuple #[F #[H G s,M i mn M3,M Z 0 0,M M4 rn X,Y O,H G 0,Y O,H G 0,Y O,H G 0],H G b]) (by kernel_rfl) (by kernel_rfl) (by kernel_rfl) rfl rfl rfl ?_ (λ_ _ _ h=>h) (by assumption) ?_
        .intro w A1
         go_simp
        refine jD 7 _ 71 (F #[H G s,M i mn M3,M Z 0 0,M M4 rn X,Y O,H G 0,Y O,H G 0,Y O,H G 0]) (by kernel_rfl) (by kernel_rfl) (by kernel_rfl) rfl rfl rfl ?_ (λ_ _ _ h=>h) (by assumption) ?_
        .intro w A1
         go_simp
        refine jD 8 _ 72 (H G b) (by kernel_rfl) (by kernel_rfl) (by kernel_rfl) rfl rfl rfl ?_ (λ_ _ _ h=>h) (by assumption) ?_
        .intro w A1
         go_simp
        obtain⟨⟨z0,z1,z2,z3,z4,z5,z6,z7,z8,z9⟩,zf⟩:=BA F6;refine wpAnyH_ready (rs:=[10]) (by kernel_rfl) (by simp) ?_;refine AllReadyH.cons rfl (λN0 hK=>?_) AllReadyH.nil
        go_simp
        have G7:Below wr.heap.size wr ((((((((((B1.setCell ⟨wr.heap.size,0,Z⟩ (H G s)).setCell ⟨wr.heap.size,1,Z⟩ (M i mn M3)).setCell ⟨wr.heap.size,2,Z⟩ (M Z 0 0)).setCell ⟨wr.heap.size,3,Z⟩ (M M4 rn X)).setCell ⟨wr.heap.size,4,Z⟩ (Y O)).setCell ⟨wr.heap.size,5,Z⟩ (H G 0)).setCell ⟨wr.heap.size,6,Z⟩ (Y O)).setCell ⟨wr.heap.size,7,Z⟩ (H G 0)).setCell ⟨wr.heap.size,8,Z⟩ (Y O)).setCell ⟨wr.heap.size,9,Z⟩ (H G 0)):=by
         repeat refine Zb ?_ (by simp) _
         exact A4
        clear z0 z1 z2 z3 z4 z5 z6 z7 z8 z9 zf;refine hK.o _ _ (A0.o _ G7).2 (λM8=>?_);clear hK N0;refine jD 11 _ 14 (H G b) (by kernel_rfl) (by kernel_rfl) (by kernel_rfl) rfl rfl rfl ?_ (λ_ _ _ h=>h) (by assumption) ?_
        .intro w A1
         go_simp
        refine wpAnyH_done (by kernel_rfl) ?_ _;obtain⟨W,M1⟩:∃W,W=((((((((((B1.setCell ⟨wr.heap.size,0,Z⟩ (H G s)).setCell ⟨wr.heap.size,1,Z⟩ (M i mn M3)).setCell ⟨wr.heap.size,2,Z⟩ (M Z 0 0)).setCell ⟨wr.heap.size,3,Z⟩ (M M4 rn X)).setCell ⟨wr.heap.size,4,Z⟩ (Y O)).setCell ⟨wr.heap.size,5,Z⟩ (H G 0)).setCell ⟨wr.heap.size,6,Z⟩ (Y O)).setCell ⟨wr.heap.size,7,Z⟩ (H G 0)).setCell ⟨wr.heap.size,8,Z⟩ (Y O)).setCell ⟨wr.heap.size,9,Z⟩ (H G 0)):=⟨_,rfl⟩;have L:Below wr.heap.size wr W:=by rw[M1];exact G7
        have KT:Hid (W.heap[wr.heap.size]?=J (.cells #[H G s,M i mn M3,M Z 0 0,M M4 rn X,Y O,H G 0,Y O,H G 0,Y O,H G 0] 52 (0,0))):=by rw[M1];exact pJ F6 (H G s) (M i mn M3) (M Z 0 0) (M M4 rn X) (Y O) (H G 0) (Y O) (H G 0) (Y O) (H G 0)
        have C5:Hid (∀t,OwnR B1 ((wr.alloc (.cells #[H G 0,M Z 0 0,M Z 0 0,M Z 0 0,Y O,H G 0,Y O,H G 0,Y O,H G 0] 52)).drew).heap.size ⟨M i mn M3,M Z 0 0,M M4 rn X,t⟩->OwnR W (B.heap.size+1) ⟨M i mn M3,M Z 0 0,M M4 rn X,t⟩):=by
         intro t h;rw[M1];exact OwnR.base (OwnR.set10 h (show wr.heap.size<_ by simp)) (by simp;omega)
        rw[<-M1];obtain⟨T,C2⟩:∃T,T=wr.heap.size:=⟨_,rfl⟩;rw[<-C2]at KT|-;have K1:T<W.heap.size:=(Wb.1 KT.o).1;have H5:wr.heap.size<=T:=by rw[C2];omega
        clear M1 C2;clear D5 A4 A3 G7 F6 I7 N1 M6 M7 M8;have D6:=L.size;have y:=zA (yA L (show w.heap.size+1<wr.heap.size by omega) KB.o);have Q:=zA (yA L G2 KF.o);have M5:=zA (dA HO.o L);have B5:Hid (∀x∈q,OwnR W (B.heap.size+1) x):=λx U=>(HX.o x U).below L;have M9:=zA (vA r.o L);have F4:w.heap.size+1<W.heap.size:=by omega
        have D7:B.heap.size<W.heap.size:=by omega
        have G3:B.heap.size<T:=by omega
        clear L A0 x0 x1 x2 xf KB KF HO HX r B7 H5 D6
        cases hrun:FA (logOf d L9) M0 pos (gA M0) with
        |none=>
         have A2:FA ((logOf d L9).drop pos) M0 0 (gA M0)=Z:=by rw[qI (logOf d L9) M0 pos (by rw[TA];exact D3) 24 0 (gA M0) (by rw[TA];omega),pe,hrun];rfl
         obtain rfl:=HT.o.ofNone A2;have A8:Hid (GA d=(q.map (·.t),pos)):=by rw[Hid,<-B0.o,scanP,td hlt,hrun]
         clear hrun A2 B0 HT C5 KT G3;obtain⟨m3,A7⟩:∃m3:Nat,m3=(L9+pos)%24:=⟨_,rfl⟩;rw[<-A7]at Q;have E6:=zA A7;clear A7;obtain⟨⟨z0,z1,z2⟩,zf⟩:=fB y.o;obtain⟨⟨x0,x1,x2⟩,xf⟩:=fB Q.o;go_wp2;clear x0 x1 x2 xf;obtain⟨V9,N⟩:∃V9,V9=(((W.setCell ⟨w.heap.size+1,0,Z⟩ (M va q.length vc)).setCell ⟨w.heap.size+1,1,Z⟩ (H G M0)).setCell ⟨w.heap.size+1,2,Z⟩ (H G (m3:Int))):=⟨_,rfl⟩;have D:=sE y.o (M va q.length vc) (H G M0) (H G (m3:Int));rw[<-N]at D;obtain⟨⟨y0,y1,y2⟩,_⟩:=fB D;have A5:=zA N;rw[<-N];clear N D z0 z1 z2 zf;refine Tb (v:=.tuple #[F #[M va q.length vc,H G M0,H G (m3:Int)],H G 0]) (by simp[results,results35,go_sem,y0,y1,y2]) rfl ?_;rw[ScPost,F2.o];refine⟨_,rfl,?_,λh=>absurd rfl h,λ_=>⟨q,va,vc,?_,?_,?_,?_⟩⟩
         .rw[A5.o];exact(((vA H3.o M9.o).setCell (p:=⟨w.heap.size+1,0,Z⟩) (by simp) _).setCell (p:=⟨w.heap.size+1,1,Z⟩) (by simp) _).setCell (p:=⟨w.heap.size+1,2,Z⟩) (by simp) _
         .rw[F1.o,A8.o,F5.o,<-B6.o,E6.o]
         .rw[A8.o]
         .rw[A5.o];refine qB (VD (M5.o) ?_) (show w.heap.size<=B.heap.size+1 by omega);intro k M2;have:=(M5.o.lt k M2).1;omega
         .intro x U;rw[A5.o];exact OwnR.base (OwnR.set3 (B5.o x U) (by omega)) (by omega)
        |some nt=>
         obtain⟨n,t⟩:=nt;have A2:FA ((logOf d L9).drop pos) M0 0 (gA M0)=J (n - pos,t):=by rw[qI (logOf d L9) M0 pos (by rw[TA];exact D3) 24 0 (gA M0) (by rw[TA];omega),pe,hrun];rfl
         have hn:=mE (logOf d L9) M0 24 pos (gA M0) n t (by rw[TA];omega) hrun;rw[TA]at hn;have C3:Hid (scanP (logOf d L9) n (M0+1) (q.map (·.t)++[t])=GA d):=by rw[Hid,<-B0.o,scanP.eq_def (logOf d L9) pos,td hlt,hrun]
         obtain⟨E3,G0,E2,ht,G6,F8⟩:=HT.o.ofSome A2;subst G0;have C0:=zA (C5.o t E2);clear hrun A2 B0 HT C5 E2;obtain⟨ti,z,H1⟩:∃ti z,t=txW s ti z:=⟨_,_,ht⟩;subst H1;subst G6 F8;obtain⟨n',D9⟩:∃n',n'=n - pos:=⟨_,rfl⟩;rw[<-D9]at E3;subst E3;have C7:Hid (pos+n'=n):=by rw[Hid];omega
         have I8:pos+n'<=24:=by omega
         have J8:((n':Int)==0)=O:=Ec.2 (by omega);clear D9 ht;have I9:q.length<=24:=by omega
         obtain⟨⟨x0,x1,x2⟩,xf⟩:=fB Q.o;obtain⟨⟨t0,t1,t2,t3,t4,t5,t6,t7,t8,t9⟩,tf⟩:=BA KT.o;go_wp2_with (at_builtin;refine jK rfl _ _ rfl (B.heap.size+1) _ q rfl (dA M5.o (qA _ _)) W.heap.size ⟨M i (txW s ti z).info.length M3,M Z 0 0,M M4 (txW s ti z).rev.length X,txW s ti z⟩ rfl (wK (by simp[go_sem,txW]) (by simp[go_sem,txW]) (by simp[go_sem,txW]) (by simp[go_sem,txW]) (by simp[go_sem,txW]) (by simp[go_sem,txW]) (by simp[go_sem,txW]) (by simp[go_sem,txW]) (by simp[go_sem,txW]) (by simp[go_sem,txW])) C0.o.one (by omega) (by simp;omega) ?_);intro v3 w4 B4 A6;clear x0 x1 x2 xf t0 t1 t2 t3 t4 t5 t6 t7 t8 t9 tf;obtain⟨R,m⟩:∃R,R=q++[(⟨M i (txW s ti z).info.length M3,M Z 0 0,M M4 (txW s ti z).rev.length X,txW s ti z⟩:RX)]:=⟨_,rfl⟩;have C6:R.length=q.length+1:=by rw[m];simp
         have B3:=vG B4 (show _=R.length by simp[m]);rw[<-m]at B3;have l:Below W.heap.size W _:=qA W (.cells #[H G s,M i ti.length M3,M Z 0 0,M M4 z.length X,Y O,H G 0,Y O,H G 0,Y O,H G 0] 52 (0,0));have C1:∀k,(M va q.length vc).ownBlock=J k->B.heap.size+1<=k:=λk M2=>(M5.o.lt k M2).1;have J1:W.heap.size+1<=w4.heap.size:=by have:=A6.size;simpa using this
         have H4:Hid (∀x∈R,OwnR w4 (B.heap.size+1) x):=by
          intro x U;rw[m]at U
          have F9:OwnR W (B.heap.size+1) x:=by
           rcases Mc.1 U with h|h
           .exact B5.o x h
           .rw[Rc.1 h];exact C0.o
          exact(F9.below l).grown (dA M5.o l) A6
         have F0:Hid (scanP (logOf d L9) n (s+1) (R.map (·.t))=GA d):=by rw[Hid,m,Ed];exact C3.o
         have E9:Hid (s+1=q0+(R.length:Int)):=by rw[Hid,C6,B6.o];omega
         have E5:Hid (w4.heap[B.heap.size]?=_):=(A6.block _ (by simp;omega) (λe=>by have:=C1 _ e.symm;omega)).trans (yA l D7 Q.o);have C8:Hid (Below B.heap.size B w4):=(vA M9.o l).grown A6 (vA M9.o l).size (λk M2=>by have:=C1 k M2;omega);have B9:=zA B3
         obtain⟨C4,B8,G9⟩:∃C4 B8,v3=M C4 R.length B8:=by
          rcases B3.2 with⟨e,h0⟩|⟨g,cap,N2,e,_⟩
          .exact absurd h0 (by omega)
          .exact⟨_,_,e⟩
         subst G9;have B7:IntKind.i64.wrap (s+1)=s+1:=by rw[Bc];have:=B6.o;omega
         clear m B4 B3 l C1 A6 B5 C0 C3 y Q M9 M5 C6 KT;obtain⟨⟨x0,x1,x2⟩,xf⟩:=fB E5.o;obtain⟨⟨y0,y1,y2,y3,y4⟩,_⟩:=LA (yA C8.o G4 I0.o);have K6:B.heap.size<w4.heap.size:=by omega
         have D2:R.length<=n:=by have h1:=E9.o;have h2:=B6.o;omega
         go_wp2;clear x0 x1 x2 xf y0 y1 y2 y3 y4;refine⟨⟨_,_,_,_,_,_,_,_,_,_,_,_,_,_,_,_,_,_,_,_,_,_,_,_,_,_,_,_,_,_,_,_,_,_,_,_,_,_,?rel,rfl⟩,?measure⟩
         case rel=>
          have e1:((L9:Int)+((pos:Int)+(n':Int)))%24=(((L9+n)%24:Nat):Int):=by rw[<-C7.o];simp
          exact⟨n,s+1,R,C4,B8,by rw[<-C7.o];simp,hn.2,E9.o,D2,F0,((C8.o.setCell (p:=⟨B.heap.size,0,Z⟩) (by simp) _).setCell (p:=⟨B.heap.size,1,Z⟩) (by simp) _).setCell (p:=⟨B.heap.size,2,Z⟩) (by simp) _,by simp[World.setCell];omega,by rw[<-e1];exact sE E5.o _ _ _,VD B9.o (λk M2=>by have:=(B9.o.lt k M2).1;omega),λx U=>(H4.o x U).set3 (by omega)⟩
         case measure=>have:=C7.o;simp[intOf];omega
      .have A8:Hid (GA d=(q.map (·.t),pos)):=by rw[Hid,<-B0.o,scanP,Bd hlt]
       have y:=KB;have Q:=KF;have M5:=HO;have B5:=HX;clear KB KF HO HX B0;have F4:w.heap.size+1<wr.heap.size:=by have:=r.o.size;omega
       obtain⟨m3,A7⟩:∃m3:Nat,m3=(L9+pos)%24:=⟨_,rfl⟩;rw[<-A7]at Q;have E6:=zA A7;clear A7;obtain⟨⟨z0,z1,z2⟩,zf⟩:=fB y.o;obtain⟨⟨x0,x1,x2⟩,xf⟩:=fB Q.o;go_wp2;clear x0 x1 x2 xf;obtain⟨V9,N⟩:∃V9,V9=(((wr.setCell ⟨w.heap.size+1,0,Z⟩ (M va q.length vc)).setCell ⟨w.heap.size+1,1,Z⟩ (H G M0)).setCell ⟨w.heap.size+1,2,Z⟩ (H G (m3:Int))):=⟨_,rfl⟩;have D:=sE y.o (M va q.length vc) (H G M0) (H G (m3:Int));rw[<-N]at D;obtain⟨⟨y0,y1,y2⟩,_⟩:=fB D;have A5:=zA N;rw[<-N];clear N D z0 z1 z2 zf;refine Tb (v:=.tuple #[F #[M va q.length vc,H G M0,H G (m3:Int)],H G 0]) (by simp[results,results35,go_sem,y0,y1,y2]) rfl ?_;rw[ScPost,F2.o];refine⟨_,rfl,?_,λh=>absurd rfl h,λ_=>⟨q,va,vc,?_,?_,?_,?_⟩⟩
       .rw[A5.o];exact(((vA H3.o r.o).setCell (p:=⟨w.heap.size+1,0,Z⟩) (by simp) _).setCell (p:=⟨w.heap.size+1,1,Z⟩) (by simp) _).setCell (p:=⟨w.heap.size+1,2,Z⟩) (by simp) _
       .rw[F1.o,A8.o,F5.o,<-B6.o,E6.o]
       .rw[A8.o]
       .rw[A5.o];refine qB (VD (M5.o) ?_) (show w.heap.size<=B.heap.size+1 by omega);intro k M2;have:=(M5.o.lt k M2).1;omega
       .intro x U;rw[A5.o];exact OwnR.base (OwnR.set3 (B5.o x U) (by omega)) (by omega)
  .have H7:Hid (MA d=1):=by
    rw[Hid,D1.o,Rb];by_cases h:er=0
    .exact .inr (λe=>hok ⟨h,e⟩)
    .exact .inl h
   clear D1;by_cases he:er=0
   .subst he
    have L4:(mk.kind !=1)=I:=by
     have:¬mk.kind=1:=λe=>hok ⟨rfl,e⟩
     simpa using this
    clear hok;obtain⟨⟨z0,z1,z2⟩,zf⟩:=fB C9.o;go_wp2;obtain⟨W,M1⟩:∃W,W=((((w2.setCell ⟨w.heap.size+1,0,Z⟩ (M Z 0 0)).setCell ⟨w.heap.size+1,1,Z⟩ (H G 0)).setCell ⟨w.heap.size+1,2,Z⟩ (H G 0)).alloc (.cells #[H G mk.kind,H G mk.seq,H G mk.pos,M a2 mk.tags.length c2,M a3 mk.blocks.length c3] 81)):=⟨_,rfl⟩;have D:=rJ C9.o (M Z 0 0) (H G 0) (H G 0) (.cells #[H G mk.kind,H G mk.seq,H G mk.pos,M a2 mk.tags.length c2,M a3 mk.blocks.length c3] 81);rw[<-M1]at D;obtain⟨⟨y0,y1,y2⟩,_⟩:=fB D;have HW:=zA M1;rw[<-M1];clear M1 D z0 z1 z2 zf;refine Tb (v:=.tuple #[F #[M Z 0 0,H G 0,H G 0],H G 1]) (by simp[results,results35,go_sem,y0,y1,y2]) rfl ?_;rw[ScPost,H7.o];refine⟨_,rfl,?_,λ_=>rfl,λh=>absurd h (by first|exact HE.o|decide)⟩;rw[HW.o];exact((((M9.o).setCell (p:=⟨w.heap.size+1,0,Z⟩) (by simp) _).setCell (p:=⟨w.heap.size+1,1,Z⟩) (by simp) _).setCell (p:=⟨w.heap.size+1,2,Z⟩) (by simp) _).alloc (by simp[World.setCell];omega) _
   .have L5:(er !=0)=I:=by simpa using he
    clear hok he;obtain⟨⟨z0,z1,z2⟩,zf⟩:=fB C9.o;go_wp2;obtain⟨W,M1⟩:∃W,W=((((w2.setCell ⟨w.heap.size+1,0,Z⟩ (M Z 0 0)).setCell ⟨w.heap.size+1,1,Z⟩ (H G 0)).setCell ⟨w.heap.size+1,2,Z⟩ (H G 0)).alloc (.cells #[H G mk.kind,H G mk.seq,H G mk.pos,M a2 mk.tags.length c2,M a3 mk.blocks.length c3] 81)):=⟨_,rfl⟩;have D:=rJ C9.o (M Z 0 0) (H G 0) (H G 0) (.cells #[H G mk.kind,H G mk.seq,H G mk.pos,M a2 mk.tags.length c2,M a3 mk.blocks.length c3] 81);rw[<-M1]at D;obtain⟨⟨y0,y1,y2⟩,_⟩:=fB D;have HW:=zA M1;rw[<-M1];clear M1 D z0 z1 z2 zf;refine Tb (v:=.tuple #[F #[M Z 0 0,H G 0,H G 0],H G 1]) (by simp[results,results35,go_sem,y0,y1,y2]) rfl ?_;rw[ScPost,H7.o];refine⟨_,rfl,?_,λ_=>rfl,λh=>absurd h (by first|exact HE.o|decide)⟩;rw[HW.o];exact((((M9.o).setCell (p:=⟨w.heap.size+1,0,Z⟩) (by simp) _).setCell (p:=⟨w.heap.size+1,1,Z⟩) (by simp) _).setCell (p:=⟨w.heap.size+1,2,Z⟩) (by simp) _).alloc (by simp[World.setCell];omega) _
 .have HE:=zA hE;have D1:Hid (MA d=readE d 0):=by rw[Hid,MA,Rb hE]
  have L6:(readE d 0 !=0)=I:=by simpa using hE
  clear hE;generalize readE d 0=E at *;obtain⟨⟨z0,z1,z2⟩,zf⟩:=fB F7.o;go_wp2;obtain⟨W,M1⟩:∃W,W=(((w1.setCell ⟨w.heap.size+1,0,Z⟩ (M Z 0 0)).setCell ⟨w.heap.size+1,1,Z⟩ (H G 0)).setCell ⟨w.heap.size+1,2,Z⟩ (H G 0)):=⟨_,rfl⟩;have D:=sE F7.o (M Z 0 0) (H G 0) (H G 0);rw[<-M1]at D;obtain⟨⟨y0,y1,y2⟩,_⟩:=fB D;have HW:=zA M1;rw[<-M1];clear M1 D z0 z1 z2 zf;refine Tb (v:=.tuple #[F #[M Z 0 0,H G 0,H G 0],H G E]) (by simp[results,results35,go_sem,y0,y1,y2]) rfl ?_;rw[ScPost,D1.o];refine⟨_,rfl,?_,λ_=>rfl,λh=>absurd h (by first|exact HE.o|decide)⟩;rw[HW.o];exact(((H0.o).setCell (p:=⟨w.heap.size+1,0,Z⟩) (by simp) _).setCell (p:=⟨w.heap.size+1,1,Z⟩) (by simp) _).setCell (p:=⟨w.heap.size+1,2,Z⟩) (by simp) _
