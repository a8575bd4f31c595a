import Derived.Test.YtjnpndfpajjihadGreatXScanC
import Derived.Test.YtjnpndfpajjihadGreatGrJournalRuns18
set_option maxRecDepth 100000
set_option maxHeartbeats 40000000
namespace Go.Proofs.YtjnpndfpajjihadGreat
open Go.Proofs.Tryz
open Go.RowKit
open Value renaming int -> H,slice -> M,pointer -> C,string -> A,bool -> Y,agg -> F,tuple -> S
open IntKind renaming i64 -> G
open Option renaming none -> Z,some -> J
open Bool renaming false -> O,true -> I
open Go renaming World -> K,Value -> E
open Obj renaming cells -> T
open Ending renaming returned -> N
open _root_.ByteArray renaming empty -> U
variable{B R n size:Nat}{Q:Exit->Act->World->Prop}{a:Act}{d:Dk}{e t:TypeId}{o:Oper}{ops:Array Oper}{rest:List Oper}{u0 u1 u2 u3 u4 u5 u6 u7 u8 u9 v v0 v1 v2 z0 z1 z2 z3 z4:Value}{w w':World}{xs:List Value}
theorem VO(w:K)(base:Nat)(k:o.guard=Z)(s x:Operand)
  (r:o.op=.call {callee:=.builtin .append,args:=#[s,x],argTypes:=#[47,47]})
  (v:E) (q:List Int) (z:a.eval s=v) (L:w.ownsRow base 3 1 v q.length (cellsI q)) (m:Option Addr) (c:Nat) (l:List Int) (hx:a.eval x=M m l.length c) (hS:SegI w m l)
  (hn:q.length+l.length<=1000) (i:base<=w.heap.size)
  (h:∀X w',Hid (w'.ownsRow base 3 1 X (q++l).length (cellsI (q++l)))->w.grownBy w' v.ownBlock->wpList prog ops Q rest (a.put o.dst X) w'):wpList prog ops Q (o::rest) a w:=by
 obtain⟨A1,A0,C,D,B⟩:=Gc zE
 cases m with
 |none=>
  have J:l=[]:=by rcases hS with h|⟨b,y,p,_⟩;exact h;cases p
  subst J;refine Lib.wpList_append_run w k s x _ _ r _ _ z hx v w (vP w base o.type v q.length c (cellsI q) L) (h v w ?_ ⟨rfl,rfl,rfl,Sb _,λ_ _ _=>rfl⟩);rw[yd];exact L
 |some ad=>
  refine wd w k s x 47 r base 3 A1 (H G 0) 1 8 underlying47 A0 C D B rfl (by decide) v q.length (cellsI q) z L ad l.length c (cellsI l) hx (sF l) ?_ CG (by unfold maxLen;omega) (by omega) i ?_
  .intro j u A;rcases hS with h|⟨b,y,p,A2,hc⟩
   .rw[h]at A;simp[cellsI]at A
   .cases p;rw[qd];exact SegI.news hc j u A
  .intro X w' F I _;refine h X w' ?_ I;rw[Hid,AF,Yb];exact F
theorem WT(w:K)(base:Nat)(k:o.guard=Z)(s x:Operand)
  (y:o.op=.call {callee:=.builtin .append,args:=#[s,x],argTypes:=#[46,46]})
  (v:E) (q:List (Int×ByteArray)) (hs:a.eval s=v) (L:w.ownsRow base 99 2 v q.length (cellsC q)) (m:Option Addr) (c:Nat) (l:List (Int×ByteArray)) (hx:a.eval x=M m l.length c) (hS:SegW w m l)
  (hn:q.length+l.length<=1000) (i:base<=w.heap.size)
  (h:∀X w',Hid (w'.ownsRow base 99 2 X (q++l).length (cellsC (q++l)))->w.grownBy w' v.ownBlock->wpList prog ops Q rest (a.put o.dst X) w'):wpList prog ops Q (o::rest) a w:=by
 obtain⟨A1,A0,C,D,B⟩:=Gc fF
 cases m with
 |none=>
  have J:l=[]:=by rcases hS with h|⟨b,z,p,_⟩;exact h;cases p
  subst J;refine Lib.wpList_append_run w k s x _ _ y _ _ hs hx v w (sP w base o.type v q.length c (cellsC q) L) (h v w ?_ ⟨rfl,rfl,rfl,Sb _,λ_ _ _=>rfl⟩);rw[yd];exact L
 |some ad=>
  refine wd w k s x 46 y base 99 A1 (F #[H G 0,A ⟨#[]⟩]) 2 24 underlying46 A0 C D B rfl (by decide) v q.length (cellsC q) hs L ad l.length c (cellsC l) hx (nG l) ?_ (sG l) (by unfold maxLen;omega) (by omega) i ?_
  .intro j u r;rcases hS with h|⟨b,z,p,A3,hc⟩
   .rw[h]at r;simp[cellsC]at r
   .cases p;rw[qd];exact SegC.news hc j u r
  .intro X w' A2 I _;refine h X w' ?_ I;rw[Hid,FE,Yb];exact A2
theorem pJ(h:w.heap[B]?=J (T #[u0,u1,u2,u3,u4,u5,u6,u7,u8,u9] t (0,0)))(v0 v1 v2 X b c i j k l:E):
  (((((((((((w.setCell ⟨B,0,Z⟩ v0).setCell ⟨B,1,Z⟩ v1).setCell ⟨B,2,Z⟩ v2).setCell ⟨B,3,Z⟩ X).setCell ⟨B,4,Z⟩ b).setCell ⟨B,5,Z⟩ c).setCell ⟨B,6,Z⟩ i).setCell ⟨B,7,Z⟩ j).setCell ⟨B,8,Z⟩ k).setCell ⟨B,9,Z⟩ l)).heap[B]?=J (T #[v0,v1,v2,X,b,c,i,j,k,l] t (0,0)):=by
 have L:(w.setCell ⟨B,0,Z⟩ v0).heap[B]?=J (T #[v0,u1,u2,u3,u4,u5,u6,u7,u8,u9] t (0,0)):=zc _ B 0 _ _ v0 h;have I:((w.setCell ⟨B,0,Z⟩ v0).setCell ⟨B,1,Z⟩ v1).heap[B]?=J (T #[v0,v1,u2,u3,u4,u5,u6,u7,u8,u9] t (0,0)):=zc _ B 1 _ _ v1 L;have p:(((w.setCell ⟨B,0,Z⟩ v0).setCell ⟨B,1,Z⟩ v1).setCell ⟨B,2,Z⟩ v2).heap[B]?=J (T #[v0,v1,v2,u3,u4,u5,u6,u7,u8,u9] t (0,0)):=zc _ B 2 _ _ v2 I;have M:((((w.setCell ⟨B,0,Z⟩ v0).setCell ⟨B,1,Z⟩ v1).setCell ⟨B,2,Z⟩ v2).setCell ⟨B,3,Z⟩ X).heap[B]?=J (T #[v0,v1,v2,X,u4,u5,u6,u7,u8,u9] t (0,0)):=zc _ B 3 _ _ X p;have F:(((((w.setCell ⟨B,0,Z⟩ v0).setCell ⟨B,1,Z⟩ v1).setCell ⟨B,2,Z⟩ v2).setCell ⟨B,3,Z⟩ X).setCell ⟨B,4,Z⟩ b).heap[B]?=J (T #[v0,v1,v2,X,b,u5,u6,u7,u8,u9] t (0,0)):=zc _ B 4 _ _ b M;have K:((((((w.setCell ⟨B,0,Z⟩ v0).setCell ⟨B,1,Z⟩ v1).setCell ⟨B,2,Z⟩ v2).setCell ⟨B,3,Z⟩ X).setCell ⟨B,4,Z⟩ b).setCell ⟨B,5,Z⟩ c).heap[B]?=J (T #[v0,v1,v2,X,b,c,u6,u7,u8,u9] t (0,0)):=zc _ B 5 _ _ c F;have A:(((((((w.setCell ⟨B,0,Z⟩ v0).setCell ⟨B,1,Z⟩ v1).setCell ⟨B,2,Z⟩ v2).setCell ⟨B,3,Z⟩ X).setCell ⟨B,4,Z⟩ b).setCell ⟨B,5,Z⟩ c).setCell ⟨B,6,Z⟩ i).heap[B]?=J (T #[v0,v1,v2,X,b,c,i,u7,u8,u9] t (0,0)):=zc _ B 6 _ _ i K;have m:((((((((w.setCell ⟨B,0,Z⟩ v0).setCell ⟨B,1,Z⟩ v1).setCell ⟨B,2,Z⟩ v2).setCell ⟨B,3,Z⟩ X).setCell ⟨B,4,Z⟩ b).setCell ⟨B,5,Z⟩ c).setCell ⟨B,6,Z⟩ i).setCell ⟨B,7,Z⟩ j).heap[B]?=J (T #[v0,v1,v2,X,b,c,i,j,u8,u9] t (0,0)):=zc _ B 7 _ _ j A;have D:(((((((((w.setCell ⟨B,0,Z⟩ v0).setCell ⟨B,1,Z⟩ v1).setCell ⟨B,2,Z⟩ v2).setCell ⟨B,3,Z⟩ X).setCell ⟨B,4,Z⟩ b).setCell ⟨B,5,Z⟩ c).setCell ⟨B,6,Z⟩ i).setCell ⟨B,7,Z⟩ j).setCell ⟨B,8,Z⟩ k).heap[B]?=J (T #[v0,v1,v2,X,b,c,i,j,k,u9] t (0,0)):=zc _ B 8 _ _ k m
 have C:((((((((((w.setCell ⟨B,0,Z⟩ v0).setCell ⟨B,1,Z⟩ v1).setCell ⟨B,2,Z⟩ v2).setCell ⟨B,3,Z⟩ X).setCell ⟨B,4,Z⟩ b).setCell ⟨B,5,Z⟩ c).setCell ⟨B,6,Z⟩ i).setCell ⟨B,7,Z⟩ j).setCell ⟨B,8,Z⟩ k).setCell ⟨B,9,Z⟩ l).heap[B]?=J (T #[v0,v1,v2,X,b,c,i,j,k,l] t (0,0)):=zc _ B 9 _ _ l D;exact C
theorem JE(h:w.heap[B]?=J (T #[u0,u1,u2,u3,u4,u5,u6,u7,u8,u9] t (0,0)))(v0 v1 v2 D b X L j c i:E)(o:Obj):
  (((((((((((w.setCell ⟨B,0,Z⟩ v0).setCell ⟨B,1,Z⟩ v1).setCell ⟨B,2,Z⟩ v2).setCell ⟨B,3,Z⟩ D).setCell ⟨B,4,Z⟩ b).setCell ⟨B,5,Z⟩ X).setCell ⟨B,6,Z⟩ L).setCell ⟨B,7,Z⟩ j).setCell ⟨B,8,Z⟩ c).setCell ⟨B,9,Z⟩ i).alloc o).heap[B]?=J (T #[v0,v1,v2,D,b,X,L,j,c,i] t (0,0)):=by
 have A:=pJ h v0 v1 v2 D b X L j c i;exact yA (qA _ o) (Wb.1 A).1 A
theorem vG{base:Nat}{m:Nat}(h:w.ownsRow base e size v n xs)(D:n=m):w.ownsRow base e size v m xs:=D▸h
theorem tF{p:Addr}(h:B≠p.block)(u:E):(w.setCell p u).heap[B]?=w.heap[B]?:=by
 rw[World.setCell];simp only[Array.getElem?_modify];rw[Qb (λx=>h x.symm)]
theorem pP{log:List ByteArray}{j:Nat}(h:j<log.length)(seq:Int)(t:Tx){mk:Mk}{er:Int}(D:(mk,er)=EA (log.getD j U)):
  FA log seq j t=if er≠0\/mk.seq≠seq\/mk.kind=1 then Z else if mk.kind=4 then J (j+1,t) else if j+1+mk.tags.length<=log.length then FA log seq (j+1+mk.tags.length) (more log j t mk) else Z:=by
 rw[FA,td h,<-D]
def txW (seq:Int)(info:List (Int×ByteArray))(rev:List Int):Tx:=⟨seq,info,[],rev,⟨O,0⟩,⟨O,0⟩,⟨O,0⟩⟩
theorem LL(log:List ByteArray)(i:Nat)(seq:Int)(info:List (Int×ByteArray))(rev:List Int)(m:Mk):more log i (txW seq info rev) m=txW seq (info++copiesAt log (i+1) m.tags) (rev++m.blocks):=rfl
theorem dG{s:ByteArray}(h:(EA s).2=0):goodM (EA s).1=0:=by
 unfold EA at h|-;split at h
 .rename_i A;rw[Rb A];exact A.2.1
 .cases h
theorem BM{m:Mk}(h:goodM m=0):(m.kind=1\/m.kind=2\/m.kind=3\/m.kind=4)/\(m.kind≠2->m.tags=[])/\(m.kind≠3->m.blocks=[])/\(m.kind=2->m.tags.length<=10)/\(m.kind=3->m.blocks.length<=20):=by
 unfold goodM at h;split at h
 .cases h
 .split at h
  .cases h
  .split at h
   .cases h
   .split at h
    .cases h
    .rename_i h1 _ B A;refine⟨by omega,λD=>?_,λD=>?_,λD=>?_,λD=>?_⟩
     .by_cases ht:m.tags=[]
      .exact ht
      .exact absurd (.inr (.inl ⟨D,ht⟩)) B
     .by_cases ht:m.blocks=[]
      .exact ht
      .exact absurd (.inr (.inr ⟨D,ht⟩)) B
     .by_cases ht:m.tags.length<=10
      .exact ht
      .exact absurd (.inl ⟨D,.inr (by omega)⟩) A
     .by_cases ht:m.blocks.length<=20
      .exact ht
      .exact absurd (.inr (.inl ⟨D,.inr (by omega)⟩)) A
def WE (w w':K)(R:Nat)(a:Option Addr)(c:Nat)(L:Option Addr)(X:Nat)(d:Dk)(D i:Nat)(seq:Int)(v:E)(b:Bool):Prop:=
 match FA (logOf d D) seq i (gA seq) with
 |none=>b=O/\v=F #[H G 0,M Z 0 0,M Z 0 0,M Z 0 0,Y O,H G 0,Y O,H G 0,Y O,H G 0]
 |some (n,t)=>b=I/\Rd w' R a c L X d D n/\∃m r,v=F #[H G seq,m,M Z 0 0,r,Y O,H G 0,Y O,H G 0,Y O,H G 0]/\OwnR w' w.heap.size ⟨m,M Z 0 0,r,t⟩/\t=txW seq t.info t.rev
def UF (w w':K)(R:Nat)(a:Option Addr)(c:Nat)(L:Option Addr)(X:Nat)(d:Dk)(D i:Nat)(seq:Int)(e:Ending):Prop:=∃v b,e=N (S #[v,Y b])/\But R w.heap.size w w'/\WE w w' R a c L X d D i seq v b
theorem XZ(R:Nat)(a:Option Addr)(c:Nat)(a':Option Addr)(c':Nat)(d:Dk)(p0 i:Nat)(seq:Int)(w w0:K)(hR:Rd w R a c a' c' d p0 i)(hi:i<=24)(hD:IsDk w0 (F #[M a d.safe.length c,M a' d.wr.length c']) d)(hg:cA d=I)(hb:Below w0.heap.size w0 w)(I5:w0.heap.size<=R):
  Calls prog 99 #[C (J ⟨R,0,Z⟩),H G seq] w λe w'=>UF w w' R a c a' c' d p0 i seq e:=by
 have H0:=hR.lt;have HD:=zA hD;have C5:=zA hb;have HR:=zA hR;clear hD hb hR;go_enter func99,ntmps99;go_wp2
 go_loopw [8] (λ_ wr=>∃(j:Nat) (info:List (Int×ByteArray)) (rev:List Int) (ma:Option Addr) (mc:Nat) (ra:Option Addr) (rc:Nat),i<=j/\j<=24/\info.length<=j/\rev.length<=20*j/\Hid (FA (logOf d p0) seq i (gA seq)=FA (logOf d p0) seq j (txW seq info rev))/\Hid (Rd wr R a c a' c' d p0 j)/\Hid (But R w.heap.size w wr)/\w.heap.size+1<wr.heap.size/\
   Hid (wr.heap[w.heap.size]?=J (T #[H G 0,M Z 0 0,M Z 0 0,M Z 0 0,Y O,H G 0,Y O,H G 0,Y O,H G 0] 52 (0,0)))/\Hid (wr.heap[w.heap.size+1]?=J (T #[H G seq,M ma info.length mc,M Z 0 0,M ra rev.length rc,Y O,H G 0,Y O,H G 0,Y O,H G 0] 52 (0,0)))/\Hid (wr.ownsRow (w.heap.size+2) 99 2 (M ma info.length mc) info.length (cellsC info))/\Hid (wr.ownsRow (w.heap.size+2) 3 1 (M ra rev.length rc) rev.length (cellsI rev)))
  (λ_ wr=>match wr.cell? ⟨R,3,Z⟩ with|some (H _ n)=>n.toNat|_=>0)
 case atStart=>exact⟨i,[],[],Z,0,Z,0,Sb _,hi,Vb _,Vb _,rfl,HR.o.below (vA (qA _ _) (qA _ _)),But.of_below (vA (qA _ _) (qA _ _)),by simp,sB (Ub _ _),JB (Ub _ _),Kc _ _ _ _,Kc _ _ _ _⟩
 case round=>
  obtain⟨j,info,rev,ma,mc,ra,rc,G8,hj,H3,G9,B,A9,HB,F9,KB,KT,C6,D1⟩:=hrel;have A8:(match wr.cell? ⟨R,3,Z⟩ with|some (H _ n)=>n.toNat|_=>0)=24 - j:=by rw[(UE A9.o).1.2.2.2];simp
  rw[A8];have D7:Hid (Below w0.heap.size w0 wr):=HB.o.below C5.o C5.o.size I5;by_cases hend:j=24
  .subst hend;have A0:Hid (FA (logOf d p0) seq i (gA seq)=Z):=by rw[Hid,B.o,FA,Bd (by rw[TA];omega)]
   clear A8;go_wp2_with fail;refine(UZ R a c a' c' d p0 seq _ A9.o).mono ?_;rintro e H4 ⟨rfl,I1⟩;have q:Hid (But R w.heap.size w H4):=HB.o.trans (But.of_below I1) HB.o.size;have H9:=zA (yA I1 (by omega) KB.o);have B6:w.heap.size+1<H4.heap.size:=Xb F9 I1.size;have A7:w.heap.size<H4.heap.size:=by omega
   clear I1 A9 KB KT C6 D1 HB;obtain⟨⟨H6,H5,l,X,L,H8,m,Q,H7,h⟩,N⟩:=BA H9.o;go_wp2;obtain⟨W,D⟩:∃W,W=(((((((((((H4.setCell ⟨w.heap.size,0,Z⟩ (H G 0)).setCell ⟨w.heap.size,1,Z⟩ (M Z 0 0)).setCell ⟨w.heap.size,2,Z⟩ (M Z 0 0)).setCell ⟨w.heap.size,3,Z⟩ (M Z 0 0)).setCell ⟨w.heap.size,4,Z⟩ (Y O)).setCell ⟨w.heap.size,5,Z⟩ (H G 0)).setCell ⟨w.heap.size,6,Z⟩ (Y O)).setCell ⟨w.heap.size,7,Z⟩ (H G 0)).setCell ⟨w.heap.size,8,Z⟩ (Y O)).setCell ⟨w.heap.size,9,Z⟩ (H G 0)).alloc (T #[H G 0,H G 0,H G 0,M Z 0 0,M Z 0 0] 81)):=⟨_,rfl⟩;have A:=JE H9.o (H G 0) (M Z 0 0) (M Z 0 0) (M Z 0 0) (Y O) (H G 0) (Y O) (H G 0) (Y O) (H G 0) (T #[H G 0,H G 0,H G 0,M Z 0 0,M Z 0 0] 81);rw[<-D]at A;obtain⟨⟨y0,y1,y2,z,y4,y5,y6,y7,y8,y9⟩,_⟩:=BA A;have y:=zA D;rw[<-D];clear D A H6 H5 l X L H8 m Q H7 h N;refine Tb (v:=S #[F #[H G 0,M Z 0 0,M Z 0 0,M Z 0 0,Y O,H G 0,Y O,H G 0,Y O,H G 0],Y O]) (by simp[results,results99,go_sem,y0,y1,y2,z,y4,y5,y6,y7,y8,y9]) rfl ?_;unfold UF;refine⟨_,O,rfl,?_,?_⟩
   .rw[y.o];exact(But.trans ((((((((((q.o.setNew (p:=⟨w.heap.size,0,Z⟩) (Sb _) _).setNew (p:=⟨w.heap.size,1,Z⟩) (Sb _) _).setNew (p:=⟨w.heap.size,2,Z⟩) (Sb _) _).setNew (p:=⟨w.heap.size,3,Z⟩) (Sb _) _).setNew (p:=⟨w.heap.size,4,Z⟩) (Sb _) _).setNew (p:=⟨w.heap.size,5,Z⟩) (Sb _) _).setNew (p:=⟨w.heap.size,6,Z⟩) (Sb _) _).setNew (p:=⟨w.heap.size,7,Z⟩) (Sb _) _).setNew (p:=⟨w.heap.size,8,Z⟩) (Sb _) _).setNew (p:=⟨w.heap.size,9,Z⟩) (Sb _) _) (But.of_below (qA _ _)) (by simp[World.setCell];omega))
   .rw[WE,A0.o];exact⟨rfl,rfl⟩
  .have E2:j<24:=by omega
   clear A8;go_wp2_with fail;refine(uT R a c a' c' d p0 j seq _ w0 A9.o E2 HD.o hg D7.o).mono ?_;rintro e H4 ⟨v2,rfl,hN,F2,I1⟩;obtain⟨I6,hM⟩:∃I6,I6=EA ((logOf d p0).getD j U):=⟨_,rfl⟩;rw[<-hM]at hN|-;obtain⟨mk,er⟩:=I6;have I3:=zA (pP (log:=logOf d p0) (j:=j) (by rw[TA];exact E2) seq (txW seq info rev) hM)
   have E5:er=0->goodM mk=0:=by
    intro he;have:=dG (s:=(logOf d p0).getD j U) (by rw[<-hM];exact he);rw[<-hM]at this;exact this
   have C7:=zA E5;clear hM E5;obtain⟨a2,c2,a3,c3,rfl,hT,hI,n1,n2,t1,t2⟩:=hN;have H1:=I1.size;have B2:=zA F2;have HT:=zA hT;have HI:=zA hI;have C4:Hid (∀b I4,a2=J ⟨b,I4,Z⟩->b≠R):=λb I4 e=>by have:=t1 b I4 e;omega
   have H9:Hid (H4.heap[w.heap.size]?=_):=(I1.block _ (by omega) (by omega)).trans KB.o;have A6:Hid (H4.heap[w.heap.size+1]?=_):=(I1.block _ (by omega) (by omega)).trans KT.o;have q:Hid (But R w.heap.size w H4):=HB.o.trans I1 (by omega);have A4:=zA (NE C6.o I1 (by omega));have x:=zA (NE D1.o I1 (by omega));have B6:w.heap.size+1<H4.heap.size:=by omega
   have A7:w.heap.size<H4.heap.size:=by omega
   clear F2 hT hI t1 t2 I1 KB KT HB C6 D1 A9 D7 n1 n2;by_cases hok:er=0/\mk.seq=seq
   .obtain⟨rfl,hq⟩:=hok;have B3:(decide ((0:Int)=0)&&decide (mk.seq=seq))=I:=by simp[hq]
    dsimp only;rw[B3];obtain⟨E0,E3,E8,G4,G0⟩:=BM (C7.o rfl);have G1:=zA E3;have G2:=zA E8;clear B3 E3 E8 C7;rcases E0 with hk|hk|hk|hk
    .have A0:Hid (FA (logOf d p0) seq i (gA seq)=Z):=by rw[Hid,B.o,I3.o,Rb (.inr (.inr hk))]
     clear I3 B;obtain⟨⟨H6,H5,l,X,L,H8,m,Q,H7,h⟩,N⟩:=BA H9.o;go_wp2;obtain⟨W,D⟩:∃W,W=(((((((((((H4.setCell ⟨w.heap.size,0,Z⟩ (H G 0)).setCell ⟨w.heap.size,1,Z⟩ (M Z 0 0)).setCell ⟨w.heap.size,2,Z⟩ (M Z 0 0)).setCell ⟨w.heap.size,3,Z⟩ (M Z 0 0)).setCell ⟨w.heap.size,4,Z⟩ (Y O)).setCell ⟨w.heap.size,5,Z⟩ (H G 0)).setCell ⟨w.heap.size,6,Z⟩ (Y O)).setCell ⟨w.heap.size,7,Z⟩ (H G 0)).setCell ⟨w.heap.size,8,Z⟩ (Y O)).setCell ⟨w.heap.size,9,Z⟩ (H G 0)).alloc (T #[H G 1,H G seq,H G mk.pos,M a2 mk.tags.length c2,M a3 mk.blocks.length c3] 81)):=⟨_,rfl⟩;have A:=JE H9.o (H G 0) (M Z 0 0) (M Z 0 0) (M Z 0 0) (Y O) (H G 0) (Y O) (H G 0) (Y O) (H G 0) (T #[H G 1,H G seq,H G mk.pos,M a2 mk.tags.length c2,M a3 mk.blocks.length c3] 81);rw[<-D]at A;obtain⟨⟨y0,y1,y2,z,y4,y5,y6,y7,y8,y9⟩,_⟩:=BA A;have y:=zA D;rw[<-D];clear D A H6 H5 l X L H8 m Q H7 h N;refine Tb (v:=S #[F #[H G 0,M Z 0 0,M Z 0 0,M Z 0 0,Y O,H G 0,Y O,H G 0,Y O,H G 0],Y O]) (by simp[results,results99,go_sem,y0,y1,y2,z,y4,y5,y6,y7,y8,y9]) rfl ?_;unfold UF;refine⟨_,O,rfl,?_,?_⟩
     .rw[y.o];exact(But.trans ((((((((((q.o.setNew (p:=⟨w.heap.size,0,Z⟩) (Sb _) _).setNew (p:=⟨w.heap.size,1,Z⟩) (Sb _) _).setNew (p:=⟨w.heap.size,2,Z⟩) (Sb _) _).setNew (p:=⟨w.heap.size,3,Z⟩) (Sb _) _).setNew (p:=⟨w.heap.size,4,Z⟩) (Sb _) _).setNew (p:=⟨w.heap.size,5,Z⟩) (Sb _) _).setNew (p:=⟨w.heap.size,6,Z⟩) (Sb _) _).setNew (p:=⟨w.heap.size,7,Z⟩) (Sb _) _).setNew (p:=⟨w.heap.size,8,Z⟩) (Sb _) _).setNew (p:=⟨w.heap.size,9,Z⟩) (Sb _) _) (But.of_below (qA _ _)) (by simp[World.setCell];omega))
     .rw[WE,A0.o];exact⟨rfl,rfl⟩
    .have H2:=G4 hk;have E6:mk.blocks=[]:=G2.o (by omega)
     have B7:Hid (FA (logOf d p0) seq j (txW seq info rev)=if j+1+mk.tags.length<=24 then FA (logOf d p0) seq (j+1+mk.tags.length) (txW seq (info++copiesAt (logOf d p0) (j+1) mk.tags) rev) else Z):=by
      rw[Hid,I3.o,Qb (by simp[hq,hk]),Qb (by omega),LL,E6,yd,TA]
     clear I3 E6;go_wp2_with fail;refine(uX R a c a' c' d p0 (j+1) a2 c2 mk.tags _ w0 (B2.o.below (qA _ _)) (by omega) HD.o hg (vA (q.o.below C5.o C5.o.size I5) (qA _ _)) I5 (HT.o.below (qA _ _)) C4.o).mono ?_;rintro e w2 ⟨v2,b2,rfl,hC⟩;have G7:H4.heap.size+1<=w2.heap.size:=by have:=hC.1.size;simpa using this
     have C1:Hid (w2.heap[w.heap.size]?=_):=(hC.1.block _ (by simp;omega) (by omega)).trans (yA (qA _ _) A7 H9.o);have B9:Hid (w2.heap[w.heap.size+1]?=_):=(hC.1.block _ (by simp;omega) (by omega)).trans (yA (qA _ _) B6 A6.o);have D2:Hid (But R w.heap.size w w2):=(q.o.trans (But.of_below (qA _ _)) (by omega)).trans hC.1 (by simp;omega);have B5:=zA (NE (dA A4.o (qA _ _)) hC.1 (by omega));have C3:=zA (NE (dA x.o (qA _ _)) hC.1 (by omega));have F4:w.heap.size+1<w2.heap.size:=by omega
     have E1:w.heap.size<w2.heap.size:=by omega
     have C2:=zA hC.2;clear hC HT HI C4 B2 q H9 A6 A4 x;by_cases hle:j+1+mk.tags.length<=24
     .have hc:=C2.o;rw[Rb hle]at hc;obtain⟨rfl,D6,E9⟩:=hc;have r:Hid (FA (logOf d p0) seq i (gA seq)=FA (logOf d p0) seq (j+1+mk.tags.length) (txW seq (info++copiesAt (logOf d p0) (j+1) mk.tags) rev)):=by rw[Hid,B.o,B7.o,Rb hle]
      obtain⟨ca,cc,rfl,hS,_⟩:=SegC.of_owns D6;have HS:=zA hS;have E4:=zA E9;have F1:=wJ (logOf d p0) (j+1) mk.tags;have F0:=zA F1;clear D6 hS E9 C2 B7 B;generalize copiesAt (logOf d p0) (j+1) mk.tags=cp at *;clear F1;obtain⟨⟨H6,H5,l,X,L,H8,m,Q,H7,h⟩,N⟩:=BA B9.o;go_wp2_with (at_builtin;refine WT _ (w.heap.size+2) rfl _ _ rfl (M ma info.length mc) info rfl B5.o ca cc cp rfl HS.o (by have:=F0.o;omega) (by omega) ?_);intro v3 w3 I0 E;obtain⟨nf,C0⟩:∃nf,nf=info++cp:=⟨_,rfl⟩;have F3:nf.length<=j+1+mk.tags.length:=by have:=F0.o;rw[C0,Yb];omega
      replace I0:=zA (vG I0.o (show _=nf.length by simp[C0]))
      rw[<-C0]at I0 r;clear C0;obtain⟨D8,C9,D4,_,_⟩:=SegC.of_owns I0.o;subst D4;have I2:∀k,(M ma info.length mc).ownBlock=J k->w.heap.size+2<=k:=λk hk=>(B5.o.lt k hk).1;have A3:∀k,(M D8 nf.length C9).ownBlock=J k->w.heap.size+2<=k:=λk hk=>(I0.o.lt k hk).1;have A2:∀k,(M ra rev.length rc).ownBlock=J k->w.heap.size+2<=k:=λk hk=>(C3.o.lt k hk).1;have F7:=E.size;have D9:Hid (w3.heap[w.heap.size]?=_):=(E.block _ E1 (λe=>by have:=I2 _ e.symm;omega)).trans C1.o;have B1:Hid (w3.heap[w.heap.size+1]?=_):=(E.block _ F4 (λe=>by have:=I2 _ e.symm;omega)).trans B9.o;have B4:Hid (Rd w3 R a c a' c' d p0 (j+1+mk.tags.length)):=E4.o.grown E (λk hk=>by have:=I2 k hk;omega);have D3:Hid (But R w.heap.size w w3):=D2.o.grown E (λk hk=>by have:=I2 k hk;omega) (by omega);have F8:=zA (EF C3.o B5.o (by decide) E);have u:=zA (And.intro A3 A2);clear H6 H5 l X L H8 m Q H7 h N I2 A3 A2 E C1 B9 D2 B5 C3 E4 HS;obtain⟨⟨H6,H5,l,X,L,H8,m,Q,H7,h⟩,N⟩:=BA B1.o;have B0:R≠w.heap.size+1:=by omega
      go_wp2;clear H6 H5 l X L H8 m Q H7 h N
      go_roundw
      case rel=>exact⟨j+1+mk.tags.length,nf,rev,D8,C9,ra,rc,by omega,hle,F3,by omega,r,B4.o.setNe B0 _,D3.o.setNew (p:=⟨w.heap.size+1,1,Z⟩) (by simp) _,by simp[World.setCell];omega,(tF (by simp) _).trans D9.o,zc _ _ 1 _ _ (M D8 nf.length C9) B1.o,gC I0.o (λk hk=>by have:=u.o.1 k hk;simp;omega) _,gC F8.o (λk hk=>by have:=u.o.2 k hk;simp;omega) _⟩
      case measure=>
       rw[(UE (B4.o.setNe (p:=⟨w.heap.size+1,1,Z⟩) B0 _)).1.2.2.2];simp;omega
     .have hc:=C2.o;rw[Qb hle]at hc;obtain⟨rfl,rfl⟩:=hc;have A0:Hid (FA (logOf d p0) seq i (gA seq)=Z):=by rw[Hid,B.o,B7.o,Qb hle]
      clear C2 B7 B B5 C3 B9;obtain⟨⟨H6,H5,l,X,L,H8,m,Q,H7,h⟩,N⟩:=BA C1.o;go_wp2;obtain⟨W,D⟩:∃W,W=((((((((((w2.setCell ⟨w.heap.size,0,Z⟩ (H G 0)).setCell ⟨w.heap.size,1,Z⟩ (M Z 0 0)).setCell ⟨w.heap.size,2,Z⟩ (M Z 0 0)).setCell ⟨w.heap.size,3,Z⟩ (M Z 0 0)).setCell ⟨w.heap.size,4,Z⟩ (Y O)).setCell ⟨w.heap.size,5,Z⟩ (H G 0)).setCell ⟨w.heap.size,6,Z⟩ (Y O)).setCell ⟨w.heap.size,7,Z⟩ (H G 0)).setCell ⟨w.heap.size,8,Z⟩ (Y O)).setCell ⟨w.heap.size,9,Z⟩ (H G 0)):=⟨_,rfl⟩;have A:=pJ C1.o (H G 0) (M Z 0 0) (M Z 0 0) (M Z 0 0) (Y O) (H G 0) (Y O) (H G 0) (Y O) (H G 0);rw[<-D]at A;obtain⟨⟨y0,y1,y2,z,y4,y5,y6,y7,y8,y9⟩,_⟩:=BA A;have y:=zA D;rw[<-D];clear D A H6 H5 l X L H8 m Q H7 h N;refine Tb (v:=S #[F #[H G 0,M Z 0 0,M Z 0 0,M Z 0 0,Y O,H G 0,Y O,H G 0,Y O,H G 0],Y O]) (by simp[results,results99,go_sem,y0,y1,y2,z,y4,y5,y6,y7,y8,y9]) rfl ?_;unfold UF;refine⟨_,O,rfl,?_,?_⟩
      .rw[y.o];exact((((((((((D2.o.setNew (p:=⟨w.heap.size,0,Z⟩) (Sb _) _).setNew (p:=⟨w.heap.size,1,Z⟩) (Sb _) _).setNew (p:=⟨w.heap.size,2,Z⟩) (Sb _) _).setNew (p:=⟨w.heap.size,3,Z⟩) (Sb _) _).setNew (p:=⟨w.heap.size,4,Z⟩) (Sb _) _).setNew (p:=⟨w.heap.size,5,Z⟩) (Sb _) _).setNew (p:=⟨w.heap.size,6,Z⟩) (Sb _) _).setNew (p:=⟨w.heap.size,7,Z⟩) (Sb _) _).setNew (p:=⟨w.heap.size,8,Z⟩) (Sb _) _).setNew (p:=⟨w.heap.size,9,Z⟩) (Sb _) _)
      .rw[WE,A0.o];exact⟨rfl,rfl⟩
    .have G6:=G0 hk;have E7:mk.tags=[]:=G1.o (by omega)
     have r:Hid (FA (logOf d p0) seq i (gA seq)=FA (logOf d p0) seq (j+1) (txW seq info (rev++mk.blocks))):=by
      rw[Hid,B.o,I3.o,Qb (by simp[hq,hk]),Qb (by omega),LL,E7,Rb (by rw[TA];simp;omega)];simp[copiesAt]
     clear I3 B E7;obtain⟨⟨H6,H5,l,X,L,H8,m,Q,H7,h⟩,N⟩:=BA A6.o;go_wp2_with (at_builtin;refine VO _ (w.heap.size+2) rfl _ _ rfl (M ra rev.length rc) rev rfl (dA x.o (qA _ _)) a3 c3 mk.blocks rfl (HI.o.below (qA _ _)) (by omega) (by simp;omega) ?_);intro v3 w3 I0 E;obtain⟨rv,B8⟩:∃rv,rv=rev++mk.blocks:=⟨_,rfl⟩;have F5:rv.length<=20*(j+1):=by rw[B8,Yb];omega
     replace I0:=zA (vG I0.o (show _=rv.length by simp[B8]))
     rw[<-B8]at I0 r;clear B8;obtain⟨C8,D5,D4,_,_⟩:=SegI.of_owns I0.o;subst D4;have A1:Below H4.heap.size H4 (H4.alloc (T #[H G 3,H G seq,H G mk.pos,M a2 mk.tags.length c2,M a3 mk.blocks.length c3] 81)):=qA _ _;have I2:∀k,(M ra rev.length rc).ownBlock=J k->w.heap.size+2<=k:=λk hk=>(x.o.lt k hk).1;have A3:∀k,(M C8 rv.length D5).ownBlock=J k->w.heap.size+2<=k:=λk hk=>(I0.o.lt k hk).1;have A5:∀k,(M ma info.length mc).ownBlock=J k->w.heap.size+2<=k:=λk hk=>(A4.o.lt k hk).1;have F7:H4.heap.size+1<=w3.heap.size:=by have:=E.size;simpa using this
     have D9:Hid (w3.heap[w.heap.size]?=_):=(E.block _ (by simp;omega) (λe=>by have:=I2 _ e.symm;omega)).trans (yA A1 A7 H9.o);have B1:Hid (w3.heap[w.heap.size+1]?=_):=(E.block _ (by simp;omega) (λe=>by have:=I2 _ e.symm;omega)).trans (yA A1 B6 A6.o);have B4:Hid (Rd w3 R a c a' c' d p0 (j+1)):=(B2.o.below A1).grown E (λk hk=>by have:=I2 k hk;omega);have D3:Hid (But R w.heap.size w w3):=(q.o.trans (But.of_below A1) (by omega)).grown E (λk hk=>by have:=I2 k hk;omega) (by simp;omega);have G3:=zA (EF (dA A4.o A1) (dA x.o A1) (by decide) E);have u:=zA (And.intro A3 A5);clear H6 H5 l X L H8 m Q H7 h N I2 A3 A5 E H9 A6 q A4 x B2 HT HI C4 A1;obtain⟨⟨H6,H5,l,X,L,H8,m,Q,H7,h⟩,N⟩:=BA B1.o;have B0:R≠w.heap.size+1:=by omega
     have G5:w.heap.size+1<w3.heap.size:=by omega
     go_wp2;clear H6 H5 l X L H8 m Q H7 h N
     go_roundw
     case rel=>exact⟨j+1,info,rv,ma,mc,C8,D5,by omega,by omega,by omega,F5,r,B4.o.setNe B0 _,D3.o.setNew (p:=⟨w.heap.size+1,3,Z⟩) (by simp) _,by simp[World.setCell];omega,(tF (by simp) _).trans D9.o,zc _ _ 3 _ _ (M C8 rv.length D5) B1.o,gC G3.o (λk hk=>by have:=u.o.2 k hk;simp;omega) _,gC I0.o (λk hk=>by have:=u.o.1 k hk;simp;omega) _⟩
     case measure=>
      rw[(UE (B4.o.setNe (p:=⟨w.heap.size+1,3,Z⟩) B0 _)).1.2.2.2];simp;omega
    .have F6:Hid (FA (logOf d p0) seq i (gA seq)=J (j+1,txW seq info rev)):=by rw[Hid,B.o,I3.o,Qb (by simp[hq,hk]),Rb hk]
     have A2:∀k,(M ra rev.length rc).ownBlock=J k->w.heap.size+2<=k:=λk hk=>(x.o.lt k hk).1;have A5:∀k,(M ma info.length mc).ownBlock=J k->w.heap.size+2<=k:=λk hk=>(A4.o.lt k hk).1;have u:=zA (And.intro A5 A2);clear I3 B A2 A5 HT HI C4;obtain⟨⟨H6,H5,l,X,L,H8,m,Q,H7,h⟩,N⟩:=BA H9.o;obtain⟨⟨y0,y1,y2,z,y4,y5,y6,y7,y8,y9⟩,yf⟩:=BA A6.o;go_wp2;clear y0 y1 y2 z y4 y5 y6 y7 y8 y9 yf;obtain⟨W,D⟩:∃W,W=(((((((((((H4.setCell ⟨w.heap.size,0,Z⟩ (H G seq)).setCell ⟨w.heap.size,1,Z⟩ (M ma info.length mc)).setCell ⟨w.heap.size,2,Z⟩ (M Z 0 0)).setCell ⟨w.heap.size,3,Z⟩ (M ra rev.length rc)).setCell ⟨w.heap.size,4,Z⟩ (Y O)).setCell ⟨w.heap.size,5,Z⟩ (H G 0)).setCell ⟨w.heap.size,6,Z⟩ (Y O)).setCell ⟨w.heap.size,7,Z⟩ (H G 0)).setCell ⟨w.heap.size,8,Z⟩ (Y O)).setCell ⟨w.heap.size,9,Z⟩ (H G 0)).alloc (T #[H G 4,H G seq,H G mk.pos,M a2 mk.tags.length c2,M a3 mk.blocks.length c3] 81)):=⟨_,rfl⟩;have A:=JE H9.o (H G seq) (M ma info.length mc) (M Z 0 0) (M ra rev.length rc) (Y O) (H G 0) (Y O) (H G 0) (Y O) (H G 0) (T #[H G 4,H G seq,H G mk.pos,M a2 mk.tags.length c2,M a3 mk.blocks.length c3] 81);rw[<-D]at A;obtain⟨⟨y0,y1,y2,z,y4,y5,y6,y7,y8,y9⟩,_⟩:=BA A;have y:=zA D;rw[<-D];clear D A H6 H5 l X L H8 m Q H7 h N;refine Tb (v:=S #[F #[H G seq,M ma info.length mc,M Z 0 0,M ra rev.length rc,Y O,H G 0,Y O,H G 0,Y O,H G 0],Y I]) (by simp[results,results99,go_sem,y0,y1,y2,z,y4,y5,y6,y7,y8,y9]) rfl ?_;unfold UF;refine⟨_,I,rfl,?_,?_⟩
     .rw[y.o];exact(But.trans ((((((((((q.o.setNew (p:=⟨w.heap.size,0,Z⟩) (Sb _) _).setNew (p:=⟨w.heap.size,1,Z⟩) (Sb _) _).setNew (p:=⟨w.heap.size,2,Z⟩) (Sb _) _).setNew (p:=⟨w.heap.size,3,Z⟩) (Sb _) _).setNew (p:=⟨w.heap.size,4,Z⟩) (Sb _) _).setNew (p:=⟨w.heap.size,5,Z⟩) (Sb _) _).setNew (p:=⟨w.heap.size,6,Z⟩) (Sb _) _).setNew (p:=⟨w.heap.size,7,Z⟩) (Sb _) _).setNew (p:=⟨w.heap.size,8,Z⟩) (Sb _) _).setNew (p:=⟨w.heap.size,9,Z⟩) (Sb _) _) (But.of_below (qA _ _)) (by simp[World.setCell];omega))
     .rw[WE,F6.o];refine⟨rfl,?_,_,_,rfl,⟨?_,?_,?_⟩,rfl⟩
      .rw[y.o];refine Rd.below ?_ (qA _ _)
       repeat refine Rd.setNe ?_ (show R≠w.heap.size by omega) _
       exact B2.o
      .rw[y.o];refine qB (dA ?_ (qA _ _)) (show w.heap.size<=w.heap.size+2 by omega)
       repeat refine gC ?_ (λk e=>by have:=u.o.1 k e;simp;omega) _
       exact A4.o
      .exact Kc _ _ _ _
      .rw[y.o];refine qB (dA ?_ (qA _ _)) (show w.heap.size<=w.heap.size+2 by omega)
       repeat refine gC ?_ (λk e=>by have:=u.o.2 k e;simp;omega) _
       exact x.o
   .have B3:(decide (er=0)&&decide (mk.seq=seq))=O:=by
     rw[Og];by_cases he:er=0
     .right;exact xg λhq=>hok ⟨he,hq⟩
     .left;exact xg he
    have A0:Hid (FA (logOf d p0) seq i (gA seq)=Z):=by
     rw[Hid,B.o,I3.o,Rb];by_cases he:er=0
     .exact .inr (.inl λhq=>hok ⟨he,hq⟩)
     .exact .inl he
    dsimp only;rw[B3];clear I3 B hok B3 C7;obtain⟨⟨H6,H5,l,X,L,H8,m,Q,H7,h⟩,N⟩:=BA H9.o;go_wp2;obtain⟨W,D⟩:∃W,W=(((((((((((H4.setCell ⟨w.heap.size,0,Z⟩ (H G 0)).setCell ⟨w.heap.size,1,Z⟩ (M Z 0 0)).setCell ⟨w.heap.size,2,Z⟩ (M Z 0 0)).setCell ⟨w.heap.size,3,Z⟩ (M Z 0 0)).setCell ⟨w.heap.size,4,Z⟩ (Y O)).setCell ⟨w.heap.size,5,Z⟩ (H G 0)).setCell ⟨w.heap.size,6,Z⟩ (Y O)).setCell ⟨w.heap.size,7,Z⟩ (H G 0)).setCell ⟨w.heap.size,8,Z⟩ (Y O)).setCell ⟨w.heap.size,9,Z⟩ (H G 0)).alloc (T #[H G mk.kind,H G mk.seq,H G mk.pos,M a2 mk.tags.length c2,M a3 mk.blocks.length c3] 81)):=⟨_,rfl⟩;have A:=JE H9.o (H G 0) (M Z 0 0) (M Z 0 0) (M Z 0 0) (Y O) (H G 0) (Y O) (H G 0) (Y O) (H G 0) (T #[H G mk.kind,H G mk.seq,H G mk.pos,M a2 mk.tags.length c2,M a3 mk.blocks.length c3] 81);rw[<-D]at A;obtain⟨⟨y0,y1,y2,z,y4,y5,y6,y7,y8,y9⟩,_⟩:=BA A;have y:=zA D;rw[<-D];clear D A H6 H5 l X L H8 m Q H7 h N;refine Tb (v:=S #[F #[H G 0,M Z 0 0,M Z 0 0,M Z 0 0,Y O,H G 0,Y O,H G 0,Y O,H G 0],Y O]) (by simp[results,results99,go_sem,y0,y1,y2,z,y4,y5,y6,y7,y8,y9]) rfl ?_;unfold UF;refine⟨_,O,rfl,?_,?_⟩
    .rw[y.o];exact(But.trans ((((((((((q.o.setNew (p:=⟨w.heap.size,0,Z⟩) (Sb _) _).setNew (p:=⟨w.heap.size,1,Z⟩) (Sb _) _).setNew (p:=⟨w.heap.size,2,Z⟩) (Sb _) _).setNew (p:=⟨w.heap.size,3,Z⟩) (Sb _) _).setNew (p:=⟨w.heap.size,4,Z⟩) (Sb _) _).setNew (p:=⟨w.heap.size,5,Z⟩) (Sb _) _).setNew (p:=⟨w.heap.size,6,Z⟩) (Sb _) _).setNew (p:=⟨w.heap.size,7,Z⟩) (Sb _) _).setNew (p:=⟨w.heap.size,8,Z⟩) (Sb _) _).setNew (p:=⟨w.heap.size,9,Z⟩) (Sb _) _) (But.of_below (qA _ _)) (by simp[World.setCell];omega))
    .rw[WE,A0.o];exact⟨rfl,rfl⟩
theorem BN(h:w.heap[B]?=J (T #[z0,z1,z2,z3,z4] t (0,0)))(v0 v1 v2 L X:E):
  (((((w.setCell ⟨B,0,Z⟩ v0).setCell ⟨B,1,Z⟩ v1).setCell ⟨B,2,Z⟩ v2).setCell ⟨B,3,Z⟩ L).setCell ⟨B,4,Z⟩ X).heap[B]?=J (T #[v0,v1,v2,L,X] t (0,0)):=by
 have D:=zc w B 0 _ _ v0 h;have A:=zc _ B 1 _ _ v1 D;have C:=zc _ B 2 _ _ v2 A;have b:=zc _ B 3 _ _ L C;exact zc _ B 4 _ _ X b
theorem yK(h:w.heap[B]?=J (T #[z0,z1,z2,z3,z4] t (0,0)))(v0 v1 v2 L D:E)(o:Obj):
  ((((((w.setCell ⟨B,0,Z⟩ v0).setCell ⟨B,1,Z⟩ v1).setCell ⟨B,2,Z⟩ v2).setCell ⟨B,3,Z⟩ L).setCell ⟨B,4,Z⟩ D).alloc o).heap[B]?=J (T #[v0,v1,v2,L,D] t (0,0)):=by
 have A:=BN h v0 v1 v2 L D;exact yA (qA _ o) (Wb.1 A).1 A
def pH (w w':K)(d:Dk)(e:Ending):Prop:=
 ∃(k q p:Int) (a2:Option Addr) (n2 c2:Nat) (a3:Option Addr) (n3 c3:Nat),e=N (S #[F #[H G k,H G q,H G p,M a2 n2 c2,M a3 n3 c3],H G (MA d)])/\True/\(MA d=0->q=(pA d).seq/\p=(pA d).pos)/\Below w.heap.size w w'
theorem oU(a:Option Addr)(c:Nat)(a':Option Addr)(c':Nat)(d:Dk)(w:K)(hD:IsDk w (F #[M a d.safe.length c,M a' d.wr.length c']) d):
  Calls prog 98 #[F #[M a d.safe.length c,M a' d.wr.length c']] w λe w'=>pH w w' d e:=by
 have HD:=zA hD;clear hD;go_enter func98,ntmps98;go_wp2_with fail;refine(vK _ d 0 _ (HD.o.below (vA (qA _ _) (qA _ _)))).mono ?_;rintro e w1 ⟨rfl,n⟩;have l:=zA (JB n);have y:w.heap.size+1<w1.heap.size:=by have:=n.size;simp at this;omega
 have r:=zA (vA (vA (qA _ _) (qA _ _)) n);clear n HD;by_cases hE:readE d 0=0
 .rw[hE];have HE:=zA hE;clear hE;go_wp2_with fail;refine(QV (jA d 0) _).mono ?_;rintro e x ⟨v2,rfl,hN,m⟩;obtain⟨O,c2,N,c3,rfl,_,_,_,_⟩:=hN;obtain⟨B0,u⟩:∃B0,B0=EA (jA d 0):=⟨_,rfl⟩;rw[<-u];obtain⟨mk,er⟩:=B0;have L:Hid (MA d=if er≠0\/mk.kind≠1 then 1 else 0):=by rw[Hid,MA,pA,<-u,HE.o];simp
  have z:Hid (pA d=mk):=by rw[Hid,pA,<-u]
  clear u;have A9:=zA (yA m y l.o);have A4:w.heap.size+1<x.heap.size:=Xb y m.size;have s:=zA (vA r.o m);clear m l r;dsimp only;by_cases he:er=0
  .subst he;by_cases hk:mk.kind=1
   .have A0:Hid (MA d=0):=by rw[Hid,L.o,Qb (by simp[hk])]
    clear L;obtain⟨⟨i,Y,A8,A5,U⟩,D,J,A7,C,A6⟩:=LA A9.o;go_wp2;obtain⟨W,B⟩:∃W,W=((((((x.setCell ⟨w.heap.size+1,0,Z⟩ (H G 1)).setCell ⟨w.heap.size+1,1,Z⟩ (H G mk.seq)).setCell ⟨w.heap.size+1,2,Z⟩ (H G mk.pos)).setCell ⟨w.heap.size+1,3,Z⟩ (M O mk.tags.length c2)).setCell ⟨w.heap.size+1,4,Z⟩ (M N mk.blocks.length c3)).alloc (T #[H G 1,H G mk.seq,H G mk.pos,M O mk.tags.length c2,M N mk.blocks.length c3] 81)):=⟨_,rfl⟩;have A:=yK A9.o (H G 1) (H G mk.seq) (H G mk.pos) (M O mk.tags.length c2) (M N mk.blocks.length c3) (T #[H G 1,H G mk.seq,H G mk.pos,M O mk.tags.length c2,M N mk.blocks.length c3] 81);rw[<-B]at A;obtain⟨⟨j,R,k,X,b⟩,_⟩:=LA A;have h:=zA B;rw[<-B];clear B A i Y A8 A5 U D J A7 C A6;refine Tb (v:=S #[F #[H G 1,H G mk.seq,H G mk.pos,M O mk.tags.length c2,M N mk.blocks.length c3],H G 0]) (by simp[results,results98,go_sem,j,R,k,X,b]) rfl ?_;rw[pH,A0.o];refine⟨_,_,_,_,_,_,_,_,_,rfl,?_,?_,?_⟩
    .exact trivial
    .intro q;exact⟨by rw[z.o],by rw[z.o]⟩
    .rw[h.o];exact((((((s.o.setCell (p:=⟨w.heap.size+1,0,Z⟩) (by simp) _).setCell (p:=⟨w.heap.size+1,1,Z⟩) (by simp) _).setCell (p:=⟨w.heap.size+1,2,Z⟩) (by simp) _).setCell (p:=⟨w.heap.size+1,3,Z⟩) (by simp) _).setCell (p:=⟨w.heap.size+1,4,Z⟩) (by simp) _).alloc (by simp[World.setCell];omega) _)
   .have Q:Hid (MA d=1):=by rw[Hid,L.o,Rb (.inr hk)]
    have A2:(mk.kind !=1)=I:=by simpa using hk
    clear L;obtain⟨⟨i,Y,A8,A5,U⟩,D,J,A7,C,A6⟩:=LA A9.o;go_wp2;obtain⟨W,B⟩:∃W,W=((((((x.setCell ⟨w.heap.size+1,0,Z⟩ (H G 0)).setCell ⟨w.heap.size+1,1,Z⟩ (H G 0)).setCell ⟨w.heap.size+1,2,Z⟩ (H G 0)).setCell ⟨w.heap.size+1,3,Z⟩ (M Z 0 0)).setCell ⟨w.heap.size+1,4,Z⟩ (M Z 0 0)).alloc (T #[H G mk.kind,H G mk.seq,H G mk.pos,M O mk.tags.length c2,M N mk.blocks.length c3] 81)):=⟨_,rfl⟩;have A:=yK A9.o (H G 0) (H G 0) (H G 0) (M Z 0 0) (M Z 0 0) (T #[H G mk.kind,H G mk.seq,H G mk.pos,M O mk.tags.length c2,M N mk.blocks.length c3] 81);rw[<-B]at A;obtain⟨⟨j,R,k,X,b⟩,_⟩:=LA A;have h:=zA B;rw[<-B];clear B A i Y A8 A5 U D J A7 C A6;refine Tb (v:=S #[F #[H G 0,H G 0,H G 0,M Z 0 0,M Z 0 0],H G (1)]) (by simp[results,results98,go_sem,j,R,k,X,b]) rfl ?_;rw[pH,Q.o];refine⟨_,_,_,_,_,_,_,_,_,rfl,?_,?_,?_⟩
    .exact trivial
    .intro q;cases q
    .rw[h.o];exact((((((s.o.setCell (p:=⟨w.heap.size+1,0,Z⟩) (by simp) _).setCell (p:=⟨w.heap.size+1,1,Z⟩) (by simp) _).setCell (p:=⟨w.heap.size+1,2,Z⟩) (by simp) _).setCell (p:=⟨w.heap.size+1,3,Z⟩) (by simp) _).setCell (p:=⟨w.heap.size+1,4,Z⟩) (by simp) _).alloc (by simp[World.setCell];omega) _)
  .have Q:Hid (MA d=1):=by rw[Hid,L.o,Rb (.inl he)]
   have A3:(er !=0)=I:=by simpa using he
   clear L;obtain⟨⟨i,Y,A8,A5,U⟩,D,J,A7,C,A6⟩:=LA A9.o;go_wp2;obtain⟨W,B⟩:∃W,W=((((((x.setCell ⟨w.heap.size+1,0,Z⟩ (H G 0)).setCell ⟨w.heap.size+1,1,Z⟩ (H G 0)).setCell ⟨w.heap.size+1,2,Z⟩ (H G 0)).setCell ⟨w.heap.size+1,3,Z⟩ (M Z 0 0)).setCell ⟨w.heap.size+1,4,Z⟩ (M Z 0 0)).alloc (T #[H G mk.kind,H G mk.seq,H G mk.pos,M O mk.tags.length c2,M N mk.blocks.length c3] 81)):=⟨_,rfl⟩;have A:=yK A9.o (H G 0) (H G 0) (H G 0) (M Z 0 0) (M Z 0 0) (T #[H G mk.kind,H G mk.seq,H G mk.pos,M O mk.tags.length c2,M N mk.blocks.length c3] 81);rw[<-B]at A;obtain⟨⟨j,R,k,X,b⟩,_⟩:=LA A;have h:=zA B;rw[<-B];clear B A i Y A8 A5 U D J A7 C A6;refine Tb (v:=S #[F #[H G 0,H G 0,H G 0,M Z 0 0,M Z 0 0],H G (1)]) (by simp[results,results98,go_sem,j,R,k,X,b]) rfl ?_;rw[pH,Q.o];refine⟨_,_,_,_,_,_,_,_,_,rfl,?_,?_,?_⟩
   .exact trivial
   .intro q;cases q
   .rw[h.o];exact((((((s.o.setCell (p:=⟨w.heap.size+1,0,Z⟩) (by simp) _).setCell (p:=⟨w.heap.size+1,1,Z⟩) (by simp) _).setCell (p:=⟨w.heap.size+1,2,Z⟩) (by simp) _).setCell (p:=⟨w.heap.size+1,3,Z⟩) (by simp) _).setCell (p:=⟨w.heap.size+1,4,Z⟩) (by simp) _).alloc (by simp[World.setCell];omega) _)
 .have Q:Hid (MA d=readE d 0):=by rw[Hid,MA,Rb hE]
  have A1:(readE d 0 !=0)=I:=by simpa using hE
  have HE:=zA hE;generalize readE d 0=E at *;clear hE;obtain⟨⟨i,Y,A8,A5,U⟩,D,J,A7,C,A6⟩:=LA l.o;go_wp2;obtain⟨W,B⟩:∃W,W=(((((w1.setCell ⟨w.heap.size+1,0,Z⟩ (H G 0)).setCell ⟨w.heap.size+1,1,Z⟩ (H G 0)).setCell ⟨w.heap.size+1,2,Z⟩ (H G 0)).setCell ⟨w.heap.size+1,3,Z⟩ (M Z 0 0)).setCell ⟨w.heap.size+1,4,Z⟩ (M Z 0 0)):=⟨_,rfl⟩;have A:=BN l.o (H G 0) (H G 0) (H G 0) (M Z 0 0) (M Z 0 0);rw[<-B]at A;obtain⟨⟨j,R,k,X,b⟩,_⟩:=LA A;have h:=zA B;rw[<-B];clear B A i Y A8 A5 U D J A7 C A6;refine Tb (v:=S #[F #[H G 0,H G 0,H G 0,M Z 0 0,M Z 0 0],H G (E)]) (by simp[results,results98,go_sem,j,R,k,X,b]) rfl ?_;rw[pH,Q.o];refine⟨_,_,_,_,_,_,_,_,_,rfl,?_,?_,?_⟩
  .exact trivial
  .intro q;exact absurd q HE.o
  .rw[h.o];exact(((((r.o.setCell (p:=⟨w.heap.size+1,0,Z⟩) (by simp) _).setCell (p:=⟨w.heap.size+1,1,Z⟩) (by simp) _).setCell (p:=⟨w.heap.size+1,2,Z⟩) (by simp) _).setCell (p:=⟨w.heap.size+1,3,Z⟩) (by simp) _).setCell (p:=⟨w.heap.size+1,4,Z⟩) (by simp) _)
theorem fB(h:w.heap[B]?=J (T #[v0,v1,v2] t (0,0))):
  (w.cell? ⟨B,0,Z⟩=J v0/\w.cell? ⟨B,1,Z⟩=J v1/\w.cell? ⟨B,2,Z⟩=J v2)/\∀k,w.frozen? ⟨B,k,Z⟩=O:=by
 refine⟨⟨?_,?_,?_⟩,λk=>jd w _ _ _ _ h⟩<;>(rw[Hc w _ _ _ _ _ h];rfl)
theorem sE(h:w.heap[B]?=J (T #[z0,z1,z2] t (0,0)))(v0 v1 v2:E):
  (((w.setCell ⟨B,0,Z⟩ v0).setCell ⟨B,1,Z⟩ v1).setCell ⟨B,2,Z⟩ v2).heap[B]?=J (T #[v0,v1,v2] t (0,0)):=by
 have C:=zc w B 0 _ _ v0 h;have A:=zc _ B 1 _ _ v1 C;exact zc _ B 2 _ _ v2 A
theorem rJ(h:w.heap[B]?=J (T #[z0,z1,z2] t (0,0)))(v0 v1 v2:E)(o:Obj):
  ((((w.setCell ⟨B,0,Z⟩ v0).setCell ⟨B,1,Z⟩ v1).setCell ⟨B,2,Z⟩ v2).alloc o).heap[B]?=J (T #[v0,v1,v2] t (0,0)):=by
 have A:=sE h v0 v1 v2;exact yA (qA _ o) (Wb.1 A).1 A
theorem VD{base:Nat}(h:w.ownsRow base e size v n xs)(hb:∀k,v.ownBlock=J k->k≠B):(((w.setCell ⟨B,0,Z⟩ v0).setCell ⟨B,1,Z⟩ v1).setCell ⟨B,2,Z⟩ v2).ownsRow base e size v n xs:=
 gC (gC (gC h (p:=⟨B,0,Z⟩) hb v0) (p:=⟨B,1,Z⟩) hb v1) (p:=⟨B,2,Z⟩) hb v2
theorem OwnR.ne{base:Nat}{x:RX}(h:OwnR w base x)(hB:B<base):(∀k,x.m.ownBlock=J k->k≠B)/\(∀k,x.d.ownBlock=J k->k≠B)/\∀k,x.r.ownBlock=J k->k≠B:=
 ⟨λk D=>by have:=(h.1.lt k D).1;omega,λk D=>by have:=(h.2.1.lt k D).1;omega,λk D=>by have:=(h.2.2.lt k D).1;omega⟩
theorem OwnR.set3{base:Nat}{x:RX}(h:OwnR w base x)(D:B<base):OwnR (((w.setCell ⟨B,0,Z⟩ v0).setCell ⟨B,1,Z⟩ v1).setCell ⟨B,2,Z⟩ v2) base x:=
 ⟨VD h.1 (h.ne D).1,VD h.2.1 (h.ne D).2.1,VD h.2.2 (h.ne D).2.2⟩
theorem OwnR.base{b D:Nat}{x:RX}(h:OwnR w b x)(hb:D<=b):OwnR w D x:=⟨qB h.1 hb,qB h.2.1 hb,qB h.2.2 hb⟩
theorem OwnR.but{base:Nat}{x:RX}(h:OwnR w base x)(hb:But R w.heap.size w w')(D:R<base):OwnR w' base x:=⟨NE h.1 hb D,NE h.2.1 hb D,NE h.2.2 hb D⟩
def MJ (w:K)(R:Nat):Nat:=match w.cell? ⟨R,3,Z⟩ with|some (H _ n)=>n.toNat|_=>0
theorem Rd.left{a:Option Addr}{c:Nat}{L:Option Addr}{X:Nat}{D i:Nat}(h:Rd w R a c L X d D i):MJ w R=24 - i:=by
 rw[MJ,(UE h).1.2.2.2];simp
def ScPost (w w':K)(d:Dk)(e:Ending):Prop:=
 ∃v,e=N (S #[v,H G (MA d)])/\Below w.heap.size w w'/\(MA d≠0->v=F #[M Z 0 0,H G 0,H G 0])/\
  (MA d=0->∃(q:List RX) (va:Option Addr) (vc:Nat),v=F #[M va q.length vc,H G ((pA d).seq+(q.length:Int)),H G ((((pA d).pos.toNat+(GA d).2)%24:Nat):Int)]/\q.map (·.t)=(GA d).1/\w'.ownsRow w.heap.size 52 10 (M va q.length vc) q.length (cellsX q)/\∀x∈q,OwnR w' w.heap.size x)
theorem LV(a:Option Addr)(c:Nat)(a':Option Addr)(c':Nat)(d:Dk)(w:K)(hD:IsDk w (F #[M a d.safe.length c,M a' d.wr.length c']) d):
  Calls prog 53 #[F #[M a d.safe.length c,M a' d.wr.length c']] w λe w'=>ScPost w w' d e:=by
 have HD:=zA hD;clear hD;go_enter func53,ntmps53;go_wp2_with fail;refine(oU a c a' c' d _ (HD.o.below (vA (qA _ _) (qA _ _)))).mono ?_;rintro e A ⟨k,z,p,a2,n2,c2,a3,n3,c3,rfl,_,B5,A5⟩;have K0:=zA (sB A5);have KB:=zA (JB A5);have E8:w.heap.size+1<A.heap.size:=by have:=A5.size;simp at this;omega
 have F6:w.heap.size<A.heap.size:=by omega
 have B8:=zA (vA (vA (qA _ _) (qA _ _)) A5);clear A5;by_cases hE:MA d=0
 .obtain⟨rfl,rfl⟩:=B5 hE;rw[hE];have C5:=zA hE
  have E4:cA d=I/\(1<=(pA d).seq/\(pA d).seq<=2147483647)/\0<=(pA d).pos/\(pA d).pos<=23:=by
   have h:=hE;unfold MA at h;split at h
   .rename_i h1;exact absurd h h1
   .rename_i h1;split at h
    .cases h
    .rename_i h2
     have h3:(EA (jA d 0)).2=0:=by
      by_cases D:(EA (jA d 0)).2=0
      .exact D
      .exact absurd (.inl D) h2
     have h4:=dG h3
     have h5:readE d 0=0:=by
      by_cases D:readE d 0=0
      .exact D
      .exact absurd D h1
     refine⟨?_,?_⟩
     .unfold readE at h5;split at h5
      .rename_i D;exact(ug.1 D).1
      .cases h5
     .unfold goodM at h4;split at h4
      .cases h4
      .split at h4
       .cases h4
       .rename_i D;show(1<=(EA (jA d 0)).1.seq/\_)/\_;unfold pA;omega
  obtain⟨hg,⟨G3,G7⟩,F4,F3⟩:=E4;have HL:Hid (GA d=scanP (logOf d (pA d).pos) 0 (pA d).seq []):=rfl;obtain⟨C,hp⟩:∃C:Nat,(pA d).pos=(C:Int):=⟨(pA d).pos.toNat,by omega⟩;have C2:Hid ((pA d).pos.toNat=C):=by rw[Hid,hp];rfl
  rw[hp]at HL|-;have F5:C<24:=by omega
  have G1:=zA hp;generalize hsq0:(pA d).seq=z at *;have E0:=zA hsq0;clear hE B5 hp F4 F3 hsq0;obtain⟨⟨H4,i⟩,j⟩:=XA K0.o;go_wp2;clear H4 i j;obtain⟨W0,A9⟩:∃W0,W0=((A.alloc (T #[H G k,H G z,H G (C:Int),M a2 n2 c2,M a3 n3 c3] 81)).alloc (T #[M Z 0 0,H G z,H G (C:Int)] 57)).alloc (T #[M a d.safe.length c,M a' d.wr.length c',H G (C:Int),H G 24] 144):=⟨_,rfl⟩;have B4:Below A.heap.size A W0:=by rw[A9];exact vA (vA (qA _ _) (qA _ _)) (qA _ _)
  have L:W0.heap[A.heap.size+1]?=J (T #[M Z 0 0,H G z,H G (C:Int)] 57 (0,0))/\W0.heap[A.heap.size+1+1]?=J (T #[M a d.safe.length c,M a' d.wr.length c',H G (C:Int),H G 24] 144 (0,0))/\A.heap.size+1+1<W0.heap.size:=by
   rw[A9];obtain⟨_,K2,K3,hs⟩:=dF (Ub _ _);exact⟨K2,K3,hs⟩
  rw[<-A9];clear A9;have D8:=zA L.1;have C9:(C+0)%24=C:=by omega
  have C4:Hid (Rd W0 (A.heap.size+1+1) a c a' c' d C 0):=by rw[Hid,Rd,C9];exact L.2.1
  have C7:=L.2.2;have D7:=zA (yA B4 E8 KB.o);have D5:=zA (vA B8.o B4);have N:Hid (scanP (logOf d C) 0 (z+(([]:List RX).length:Int)) (([]:List RX).map (·.t))=GA d):=by rw[Hid,HL.o];simp
  clear L B4 KB B8 K0 HL
  go_loopw [9] (λ_ wr=>∃(pos:Nat) (B:Int) (q:List RX) (U:Option Addr) (X:Nat),pos<=24/\B=z+(q.length:Int)/\q.length<=pos/\Hid (scanP (logOf d C) pos B (q.map (·.t))=GA d)/\Hid (Rd wr (A.heap.size+1+1) a c a' c' d C pos)/\Hid (Below w.heap.size w wr)/\A.heap.size+1+1<wr.heap.size/\Hid (wr.heap[w.heap.size+1]?=J (T #[M Z 0 0,H G 0,H G 0] 57 (0,0)))/\
    Hid (wr.heap[A.heap.size+1]?=J (T #[M U q.length X,H G B,H G (((C+pos)%24:Nat):Int)] 57 (0,0)))/\Hid (wr.ownsRow (A.heap.size+3) 52 10 (M U q.length X) q.length (cellsX q))/\Hid (∀x∈q,OwnR wr (A.heap.size+3) x))
   (λ_ wr=>MJ wr (A.heap.size+1+1))
  case atStart=>exact⟨0,z+(([]:List RX).length:Int),[],Z,0,Vb _,rfl,Vb _,N,C4,D5,C7,D7,by rw[C9];simpa using D8,Kc _ _ _ _,λx D=>(by cases D)⟩
  case round=>
   clear D8 C4 C7 D7 D5 N;obtain⟨pos,B,q,U,X,E3,C8,G6,N,B1,HB,F9,KB,KF,HO,HX⟩:=hrel;rw[B1.o.left];have A4:=zA C8;clear C8;have D2:w.heap.size<=A.heap.size+1+1:=by omega
   by_cases hlt:B<2147483647
   .obtain⟨⟨H4,i,x2⟩,j⟩:=fB KF.o;go_wp2_with fail;refine(XZ (A.heap.size+1+1) a c a' c' d C pos B wr w B1.o E3 HD.o hg HB.o D2).mono ?_;rintro e G9 ⟨v,b,rfl,H6,hT⟩;have G0:=H6.size;have r:Hid (G9.heap[w.heap.size+1]?=_):=(H6.block _ (by omega) (by omega)).trans KB.o;have H7:Hid (G9.heap[A.heap.size+1]?=_):=(H6.block _ (by omega) (by omega)).trans KF.o;have A8:Hid (Below w.heap.size w G9):=H6.below HB.o HB.o.size D2;have Q:=zA (NE HO.o H6 (by omega));have A2:Hid (∀x∈q,OwnR G9 (A.heap.size+3) x):=λx D=>(HX.o x D).but H6 (by omega);clear H4 i x2 j KB KF HB HO HX B1
    cases hrun:FA (logOf d C) B pos (gA B) with
    |none=>
     rw[WE,hrun]at hT;obtain⟨rfl,rfl⟩:=hT;have m:Hid (GA d=(q.map (·.t),pos)):=by rw[Hid,<-N.o,scanP,td hlt,hrun]
     clear hrun N H6;have B6:w.heap.size+1<G9.heap.size:=by omega
     have B2:A.heap.size+1<G9.heap.size:=by omega
     obtain⟨H0,H3⟩:∃H0:Nat,H0=(C+pos)%24:=⟨_,rfl⟩;rw[<-H3]at H7;have A3:=zA H3;clear H3;obtain⟨⟨z0,z1,z2⟩,zf⟩:=fB r.o;obtain⟨⟨H4,i,x2⟩,j⟩:=fB H7.o;go_wp2;clear H4 i x2 j;obtain⟨W,H1⟩:∃W,W=((((G9.setCell ⟨w.heap.size+1,0,Z⟩ (M U q.length X)).setCell ⟨w.heap.size+1,1,Z⟩ (H G B)).setCell ⟨w.heap.size+1,2,Z⟩ (H G (H0:Int))).alloc (T #[H G 0,M Z 0 0,M Z 0 0,M Z 0 0,Y O,H G 0,Y O,H G 0,Y O,H G 0] 52)):=⟨_,rfl⟩;have H5:=rJ r.o (M U q.length X) (H G B) (H G (H0:Int)) (T #[H G 0,M Z 0 0,M Z 0 0,M Z 0 0,Y O,H G 0,Y O,H G 0,Y O,H G 0] 52);rw[<-H1]at H5;obtain⟨⟨y0,y1,y2⟩,_⟩:=fB H5;have HW:=zA H1;rw[<-H1];clear H1 H5 z0 z1 z2 zf;refine Tb (v:=S #[F #[M U q.length X,H G B,H G (H0:Int)],H G 0]) (by simp[results,results53,go_sem,y0,y1,y2]) rfl ?_;rw[ScPost,C5.o];refine⟨_,rfl,?_,λh=>absurd rfl h,λ_=>⟨q,U,X,?_,?_,?_,?_⟩⟩
     .rw[HW.o];exact(((A8.o.setCell (p:=⟨w.heap.size+1,0,Z⟩) (by simp) _).setCell (p:=⟨w.heap.size+1,1,Z⟩) (by simp) _).setCell (p:=⟨w.heap.size+1,2,Z⟩) (by simp) _).alloc (by simp[World.setCell];omega) _
     .rw[C2.o,m.o,E0.o,<-A4.o,A3.o]
     .rw[m.o]
     .rw[HW.o];refine qB (dA (VD Q.o ?_) (qA _ _)) (show w.heap.size<=A.heap.size+3 by omega);intro k H2;have:=(Q.o.lt k H2).1;omega
     .intro x D;rw[HW.o];exact OwnR.base (OwnR.below (OwnR.set3 (A2.o x D) (by omega)) (qA _ _)) (by omega)
    |some nt=>
     obtain⟨n,t⟩:=nt;rw[WE,hrun]at hT;obtain⟨rfl,D3,tm,tr,rfl,D6,ht⟩:=hT;have hn:=mE (logOf d C) B 24 pos (gA B) n t (by rw[TA];omega) hrun;rw[TA]at hn;have B7:Hid (scanP (logOf d C) n (B+1) (q.map (·.t)++[t])=GA d):=by rw[Hid,<-N.o,scanP.eq_def (logOf d C) pos,td hlt,hrun]
     have A7:Hid (OwnR G9 (A.heap.size+3) ⟨tm,M Z 0 0,tr,t⟩):=D6.base (by omega);obtain⟨y,u,E9⟩:∃y u,t=txW B y u:=⟨_,_,ht⟩;subst E9;obtain⟨ma,mc,_,_,ra,rc,e1,_,e3,_⟩:=A7.o.tx;simp only at e1 e3;subst e1 e3;have D1:=zA D3;clear hrun N H6 D6 ht D3;have B6:w.heap.size+1<G9.heap.size:=by omega
     have B2:A.heap.size+1<G9.heap.size:=by omega
     have F7:q.length<=24:=by omega
     obtain⟨⟨H4,i,x2⟩,j⟩:=fB H7.o;go_wp2_with (at_builtin;refine jK rfl _ _ rfl (A.heap.size+3) _ q rfl (dA Q.o (vA (qA _ _) (qA _ _))) (G9.heap.size+1) ⟨M ma (txW B y u).info.length mc,M Z 0 0,M ra (txW B y u).rev.length rc,txW B y u⟩ rfl (wK (by simp[go_sem,txW]) (by simp[go_sem,txW]) (by simp[go_sem,txW]) (by simp[go_sem,txW]) (by simp[go_sem,txW]) (by simp[go_sem,txW]) (by simp[go_sem,txW]) (by simp[go_sem,txW]) (by simp[go_sem,txW]) (by simp[go_sem,txW])) A7.o.one (by omega) (by simp;omega) ?_);intro v3 w3 D4 l;obtain⟨s,A0⟩:∃s,s=q++[(⟨M ma (txW B y u).info.length mc,M Z 0 0,M ra (txW B y u).rev.length rc,txW B y u⟩:RX)]:=⟨_,rfl⟩;have C0:s.length=q.length+1:=by rw[A0];simp
     have A6:=vG D4 (show _=s.length by simp[A0]);rw[<-A0]at A6;have R:Below G9.heap.size G9 _:=vA (qA G9 (T #[H G B,M ma y.length mc,M Z 0 0,M ra u.length rc,Y O,H G 0,Y O,H G 0,Y O,H G 0] 52 (0,0))) (qA _ (T #[H G B,M ma y.length mc,M Z 0 0,M ra u.length rc,Y O,H G 0,Y O,H G 0,Y O,H G 0] 52 (0,0)));have A1:∀k,(M U q.length X).ownBlock=J k->A.heap.size+3<=k:=λk H2=>(Q.o.lt k H2).1;have F8:G9.heap.size+2<=w3.heap.size:=by have:=l.size;simpa using this
     have F1:Hid (∀x∈s,OwnR w3 (A.heap.size+3) x):=by
      intro x D;rw[A0]at D
      have E5:OwnR G9 (A.heap.size+3) x:=by
       rcases Mc.1 D with h|h
       .exact A2.o x h
       .rw[Rc.1 h];exact A7.o
      exact(E5.below R).grown (dA Q.o R) l
     have E2:Hid (scanP (logOf d C) n (B+1) (s.map (·.t))=GA d):=by rw[Hid,A0,Ed];exact B7.o
     have D9:Hid (B+1=z+(s.length:Int)):=by rw[Hid,C0,A4.o];omega
     have E6:Hid (w3.heap[w.heap.size+1]?=_):=(l.block _ (by simp;omega) (λe=>by have:=A1 _ e.symm;omega)).trans (yA R B6 r.o);have E1:Hid (w3.heap[A.heap.size+1]?=_):=(l.block _ (by simp;omega) (λe=>by have:=A1 _ e.symm;omega)).trans (yA R B2 H7.o);have B3:Hid (Rd w3 (A.heap.size+1+1) a c a' c' d C n):=(D1.o.below R).grown l (λk H2=>by have:=A1 k H2;omega);have F0:Hid (Below w.heap.size w w3):=(vA A8.o R).grown l (vA A8.o R).size (λk H2=>by have:=A1 k H2;omega);have C6:=zA A6
     obtain⟨B9,B0,E7⟩:∃B9 B0,v3=M B9 s.length B0:=by
      rcases A6.2 with⟨e,h0⟩|⟨g,cap,H8,e,_⟩
      .exact absurd h0 (by omega)
      .exact⟨_,_,e⟩
     subst E7;obtain⟨H0,H3⟩:∃H0:Nat,H0=(C+n)%24:=⟨_,rfl⟩;have A3:=zA H3;have C1:=B3.o;rw[Rd,<-H3]at C1;obtain⟨⟨r0,r1,r2,r3⟩,rf⟩:=UE C1;have G5:IntKind.i64.wrap (B+1)=B+1:=by rw[Bc];have:=A4.o;omega
     clear H4 i x2 j A0 D4 A6 R A1 l A2 A7 B7 r H7 D1 A8 Q H3 C1 C0;obtain⟨⟨H4,i,x2⟩,j⟩:=fB E1.o;have G8:A.heap.size+1<w3.heap.size:=by omega
     have G2:A.heap.size+1+1<w3.heap.size:=by omega
     have C3:s.length<=n:=by have h1:=D9.o;have h2:=A4.o;omega
     go_wp2;clear H4 i x2 j r0 r1 r2 r3 rf;refine⟨⟨_,_,_,_,_,_,_,_,_,_,_,_,_,_,_,_,_,_,_,_,_,_,_,_,_,_,_,_,_,?rel,rfl⟩,?measure⟩
     case rel=>exact⟨n,B+1,s,B9,B0,hn.2,D9.o,C3,E2,((B3.o.setNe (p:=⟨A.heap.size+1,0,Z⟩) (by simp) _).setNe (p:=⟨A.heap.size+1,1,Z⟩) (by simp) _).setNe (p:=⟨A.heap.size+1,2,Z⟩) (by simp) _,((F0.o.setCell (p:=⟨A.heap.size+1,0,Z⟩) (by simp;omega) _).setCell (p:=⟨A.heap.size+1,1,Z⟩) (by simp;omega) _).setCell (p:=⟨A.heap.size+1,2,Z⟩) (by simp;omega) _,by simp[World.setCell];omega,(tF (p:=⟨A.heap.size+1,2,Z⟩) (by simp;omega) _).trans ((tF (p:=⟨A.heap.size+1,1,Z⟩) (by simp;omega) _).trans ((tF (p:=⟨A.heap.size+1,0,Z⟩) (by simp;omega) _).trans E6.o)),by rw[<-A3.o];exact sE E1.o _ _ _,VD C6.o (λk H2=>by have:=(C6.o.lt k H2).1;omega),λx D=>(F1.o x D).set3 (by omega)⟩
     case measure=>
      rw[(((B3.o.setNe (p:=⟨A.heap.size+1,0,Z⟩) (by simp) _).setNe (p:=⟨A.heap.size+1,1,Z⟩) (by simp) _).setNe (p:=⟨A.heap.size+1,2,Z⟩) (by simp) _).left];omega
   .have m:Hid (GA d=(q.map (·.t),pos)):=by rw[Hid,<-N.o,scanP,Bd hlt]
    have r:=KB;have H7:=KF;have Q:=HO;have A2:=HX;clear KB KF HO HX N;have B6:w.heap.size+1<wr.heap.size:=by omega
    have B2:A.heap.size+1<wr.heap.size:=by omega
    obtain⟨H0,H3⟩:∃H0:Nat,H0=(C+pos)%24:=⟨_,rfl⟩;rw[<-H3]at H7;have A3:=zA H3;clear H3;obtain⟨⟨z0,z1,z2⟩,zf⟩:=fB r.o;obtain⟨⟨H4,i,x2⟩,j⟩:=fB H7.o;go_wp2;clear H4 i x2 j;obtain⟨W,H1⟩:∃W,W=(((wr.setCell ⟨w.heap.size+1,0,Z⟩ (M U q.length X)).setCell ⟨w.heap.size+1,1,Z⟩ (H G B)).setCell ⟨w.heap.size+1,2,Z⟩ (H G (H0:Int))):=⟨_,rfl⟩;have H5:=sE r.o (M U q.length X) (H G B) (H G (H0:Int));rw[<-H1]at H5;obtain⟨⟨y0,y1,y2⟩,_⟩:=fB H5;have HW:=zA H1;rw[<-H1];clear H1 H5 z0 z1 z2 zf;refine Tb (v:=S #[F #[M U q.length X,H G B,H G (H0:Int)],H G 0]) (by simp[results,results53,go_sem,y0,y1,y2]) rfl ?_;rw[ScPost,C5.o];refine⟨_,rfl,?_,λh=>absurd rfl h,λ_=>⟨q,U,X,?_,?_,?_,?_⟩⟩
    .rw[HW.o];exact((HB.o.setCell (p:=⟨w.heap.size+1,0,Z⟩) (by simp) _).setCell (p:=⟨w.heap.size+1,1,Z⟩) (by simp) _).setCell (p:=⟨w.heap.size+1,2,Z⟩) (by simp) _
    .rw[C2.o,m.o,E0.o,<-A4.o,A3.o]
    .rw[m.o]
    .rw[HW.o];refine qB (VD Q.o ?_) (show w.heap.size<=A.heap.size+3 by omega);intro k H2;have:=(Q.o.lt k H2).1;omega
    .intro x D;rw[HW.o];exact OwnR.base (OwnR.set3 (A2.o x D) (by omega)) (by omega)
 .have G4:(MA d !=0)=I:=by simpa using hE
  have HE:=zA hE;clear B5 hE;generalize hEE:MA d=E at *;have F2:=zA hEE;clear hEE;obtain⟨⟨z0,z1,z2⟩,zf⟩:=fB KB.o;go_wp2;obtain⟨W,H1⟩:∃W,W=((((A.setCell ⟨w.heap.size+1,0,Z⟩ (M Z 0 0)).setCell ⟨w.heap.size+1,1,Z⟩ (H G 0)).setCell ⟨w.heap.size+1,2,Z⟩ (H G 0)).alloc (T #[H G k,H G z,H G p,M a2 n2 c2,M a3 n3 c3] 81)):=⟨_,rfl⟩;have H5:=rJ KB.o (M Z 0 0) (H G 0) (H G 0) (T #[H G k,H G z,H G p,M a2 n2 c2,M a3 n3 c3] 81);rw[<-H1]at H5;obtain⟨⟨y0,y1,y2⟩,_⟩:=fB H5;have HW:=zA H1;rw[<-H1];clear H1 H5 z0 z1 z2 zf;refine Tb (v:=S #[F #[M Z 0 0,H G 0,H G 0],H G E]) (by simp[results,results53,go_sem,y0,y1,y2]) rfl ?_;rw[ScPost,F2.o];refine⟨_,rfl,?_,λ_=>rfl,λh=>absurd h HE.o⟩;rw[HW.o];exact(((B8.o.setCell (p:=⟨w.heap.size+1,0,Z⟩) (by simp) _).setCell (p:=⟨w.heap.size+1,1,Z⟩) (by simp) _).setCell (p:=⟨w.heap.size+1,2,Z⟩) (by simp) _).alloc (by simp[World.setCell];omega) _
theorem iX(log:List ByteArray):∀(f pos:Nat) (seq:Int) (D:List Tx),log.length - pos<=f->(scanP log pos seq D).1.length<=D.length+f:=by
 intro f
 induction f with
 |zero=>
  intro pos seq D A;rw[scanP];split
  .rw[FA,Bd (by omega)];exact Sb _
  .exact Sb _
 |succ f ih=>
  intro pos seq D A;rw[scanP];split
  .split
   .exact Gg _ _
   .rename_i n t B;have hb:=mE log seq _ pos _ n t (Sb _) B;have:=ih n (seq+1) (D++[t]) (by omega);rw[Yb,Ze]at this;omega
  .exact Gg _ _
def fndL (d:Dk):List Tx:=if MA d=0 then(GA d).1 else[]
def fndN (d:Dk):Int:=if MA d=0 then(pA d).seq+((GA d).1.length:Int) else 0
def fndP (d:Dk):Int:=if MA d=0 then((((pA d).pos.toNat+(GA d).2)%24:Nat):Int) else 0
theorem OH(d:Dk):(fndL d).length<=24:=by
 unfold fndL;split
 .have:=iX (logOf d (pA d).pos) 24 0 (pA d).seq [] (by rw[TA];omega)
  simpa[GA] using this
 .exact Vb _
theorem ScPost.found{e:Ending}(h:ScPost w w' d e):∃L X,e=N (S #[F #[M L (fndL d).length X,H G (fndN d),H G (fndP d)],H G (MA d)])/\SegTx w' L (fndL d)/\Below w.heap.size w w':=by
 obtain⟨v,rfl,hb,J,E⟩:=h;by_cases hE:MA d=0
 .obtain⟨q,L,X,rfl,C,K,b⟩:=E hE;obtain⟨a,c,D,I,_⟩:=SegTx.of_owns K b;simp only[Value.slice.injEq]at D;obtain⟨rfl,_,rfl⟩:=D;have B:fndL d=q.map (·.t):=by rw[fndL,Rb hE,C]
  have A:q.length=(GA d).1.length:=by rw[<-C,xd]
  refine⟨L,X,?_,by rw[B];exact I,hb⟩;rw[B,fndN,fndP,Rb hE,Rb hE,xd,A]
 .rw[J hE];refine⟨Z,0,?_,.inl (by rw[fndL,Qb hE]),hb⟩;rw[fndL,fndN,fndP,Qb hE,Qb hE,Qb hE];rfl
