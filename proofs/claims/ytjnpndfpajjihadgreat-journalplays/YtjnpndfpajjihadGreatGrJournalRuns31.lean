import Derived.Test.YtjnpndfpajjihadGreatGrJournalRuns3
import Derived.Lib.SliceRun
set_option maxRecDepth 100000
set_option maxHeartbeats 40000000
namespace Go.Proofs.YtjnpndfpajjihadGreat
open Go.Proofs.Tryz
open Go.RowKit
open Value renaming int -> H,slice -> M,pointer -> C,string -> A,bool -> Y,agg -> F
open IntKind renaming i64 -> G
open Option renaming none -> Z,some -> J
open Go renaming World -> K,Value -> E
open Obj renaming cells -> T
open Ending renaming returned -> N
variable{B:Nat}{t:Tx}{va vd vr:Value}{w:World}
theorem AJ(a:Option Addr)(c:Nat)(ss:List (Int×ByteArray))(w:K)(h:SegW w a ss)(r:ss.length<=maxLen)(l:ss.length*24<=140737488355328):
  Calls prog 44 #[M a ss.length c] w λe p=>∃X,e=N X/\p.ownsRow w.heap.size 99 2 X ss.length (cellsC ss)/\Below w.heap.size w p:=by
 have A0:∀(w:K) (a:Option Addr) (n c d i:Nat),(binOp .eql 46 (M a n c) (M Z d i)).run prog w=.ok (Y a.isNone) w:=λw a n c d i=>Xf w _ _ a n c d i underlying46;obtain⟨L,O,y,z,A3⟩:=Gc fF;rcases a with _|ad
 .have A2:ss=[]:=by rcases h with h|⟨b,q,m,_⟩;exact h;cases m
  subst A2;go_enter func44,ntmps44;go_wp2;go_ret;exact⟨_,rfl,Kc _ _ _ _,Ub _ _⟩
 .have A1:Hid (∀j u,(cellsC ss)[j]?=J u->w.cell? (ad.add j)=J u):=by
   rcases h with h|⟨b,q,m,A4,s⟩
   .rw[h];intro j u D;simp[cellsC]at D
   .intro j u D;cases m;rw[qd];exact SegC.news s j u D
  clear h;go_enter func44,ntmps44;go_wp2_with (at_builtin;refine wd _ rfl _ _ 46 rfl w.heap.size 99 L (F #[H G 0,A ⟨#[]⟩]) 2 24 underlying46 O y z A3 rfl (by decide) _ _ _ rfl (De w #[] 0 (Sb _) (Vb _) (by simp)) ad ss.length c (cellsC ss) rfl ?qc1 ?qc2 ?qc3 ?qc4 ?qc5 ?qc6 ?_)
  case qc1=>exact nG ss
  case qc2=>intro j u D;exact Yf _ (A1.o j u D)
  case qc3=>exact sG ss
  case qc4=>rw[Dc];exact r
  case qc5=>rw[Dc];exact l
  case qc6=>simp
  intro X I C B E;have x:Hid (I.ownsRow w.heap.size 99 2 X ss.length (cellsC ss)):=by unfold Hid;simpa using C
  have R:Hid (Below w.heap.size w I):=(qA w _).grown B (by simp) (by intro k Q;simp[Value.ownBlock]at Q;omega);clear C B E;go_wp2;go_ret;exact⟨X,rfl,x.o,R.o⟩
theorem zR(a:Option Addr)(c:Nat)(ss:List Int)(w:K)(h:SegI w a ss)(r:ss.length<=maxLen)(l:ss.length*8<=140737488355328):
  Calls prog 45 #[M a ss.length c] w λe p=>∃X,e=N X/\p.ownsRow w.heap.size 3 1 X ss.length (cellsI ss)/\Below w.heap.size w p:=by
 have A0:∀(w:K) (a:Option Addr) (n c d i:Nat),(binOp .eql 47 (M a n c) (M Z d i)).run prog w=.ok (Y a.isNone) w:=λw a n c d i=>Xf w _ _ a n c d i underlying47;obtain⟨L,O,y,z,F⟩:=Gc zE;rcases a with _|ad
 .have A1:ss=[]:=by rcases h with h|⟨b,q,m,_⟩;exact h;cases m
  subst A1;go_enter func45,ntmps45;go_wp2;go_ret;exact⟨_,rfl,Kc _ _ _ _,Ub _ _⟩
 .have A:Hid (∀j u,(cellsI ss)[j]?=J u->w.cell? (ad.add j)=J u):=by
   rcases h with h|⟨b,q,m,A2,s⟩
   .rw[h];intro j u D;simp[cellsI]at D
   .intro j u D;cases m;rw[qd];exact SegI.news s j u D
  clear h;go_enter func45,ntmps45;go_wp2_with (at_builtin;refine wd _ rfl _ _ 47 rfl w.heap.size 3 L (H G 0) 1 8 underlying47 O y z F rfl (by decide) _ _ _ rfl (De w #[] 0 (Sb _) (Vb _) (by simp)) ad ss.length c (cellsI ss) rfl ?qc1 ?qc2 ?qc3 ?qc4 ?qc5 ?qc6 ?_)
  case qc1=>exact sF ss
  case qc2=>intro j u D;exact Yf _ (A.o j u D)
  case qc3=>exact CG
  case qc4=>rw[Dc];exact r
  case qc5=>rw[Dc];exact l
  case qc6=>simp
  intro X I C B E;have x:Hid (I.ownsRow w.heap.size 3 1 X ss.length (cellsI ss)):=by unfold Hid;simpa using C
  have R:Hid (Below w.heap.size w I):=(qA w _).grown B (by simp) (by intro k Q;simp[Value.ownBlock]at Q;omega);clear C B E;go_wp2;go_ret;exact⟨X,rfl,x.o,R.o⟩
def BoxTx (w:K)(B:Nat)(t:Tx)(va vd vr:E):Prop:=
 w.heap[B]?=J (T #[H G t.seq,va,vd,vr,Y t.h0.on,H G t.h0.left,Y t.h1.on,H G t.h1.left,Y t.h2.on,H G t.h2.left] 52 (0,0))/\
 w.ownsRow (B+1) 99 2 va t.info.length (cellsC t.info)/\w.ownsRow (B+1) 99 2 vd t.data.length (cellsC t.data)/\w.ownsRow (B+1) 3 1 vr t.rev.length (cellsI t.rev)
theorem BoxTx.lt(h:BoxTx w B t va vd vr):B<w.heap.size:=(Wb.1 h.1).1
theorem BoxTx.below{w':K}(h:BoxTx w B t va vd vr)(hb:Below w.heap.size w w'):BoxTx w' B t va vd vr:=
 ⟨yA hb h.lt h.1,dA h.2.1 hb,dA h.2.2.1 hb,dA h.2.2.2 hb⟩
theorem BoxTx.set{t':Tx}{D Q L:E}(h:BoxTx w B t va vd vr)(k:Nat)(u:E)
  (X:(#[H G t.seq,va,vd,vr,Y t.h0.on,H G t.h0.left,Y t.h1.on,H G t.h1.left,Y t.h2.on,H G t.h2.left]:Array E).setIfInBounds k u=#[H G t'.seq,D,Q,L,Y t'.h0.on,H G t'.h0.left,Y t'.h1.on,H G t'.h1.left,Y t'.h2.on,H G t'.h2.left])
  (h1:w.ownsRow (B+1) 99 2 D t'.info.length (cellsC t'.info)) (h2:w.ownsRow (B+1) 99 2 Q t'.data.length (cellsC t'.data)) (R:w.ownsRow (B+1) 3 1 L t'.rev.length (cellsI t'.rev)):
  BoxTx (w.setCell ⟨B,k,Z⟩ u) B t' D Q L:=by
 refine⟨?_,Jc h1 (by simp) _,Jc h2 (by simp) _,Jc R (by simp) _⟩;rw[zc w B k _ _ u h.1,<-X]
theorem BoxTx.is(h:BoxTx w B t va vd vr)(Q:t.info.length<=maxLen)(L:t.data.length<=maxLen)(b:t.rev.length<=maxLen):
  IsTx w (F #[H G t.seq,va,vd,vr,Y t.h0.on,H G t.h0.left,Y t.h1.on,H G t.h1.left,Y t.h2.on,H G t.h2.left]) t:=by
 obtain⟨a,c,rfl,X,_⟩:=SegC.of_owns h.2.1;obtain⟨A,C,rfl,R,_⟩:=SegC.of_owns h.2.2.1;obtain⟨r,d,rfl,D,_⟩:=SegI.of_owns h.2.2.2;exact⟨a,c,A,C,r,d,rfl,X,R,D,Q,L,b⟩
theorem qH(v:E)(t:Tx)(w:K)(hT:IsTx w v t)(r1:t.info.length<=1000)(r2:t.data.length<=1000)(r3:t.rev.length<=1000):
  Calls Tryz.prog 107 #[v] w λe w'=>∃va vd vr,e=N (C (J ⟨w.heap.size,0,Z⟩))/\BoxTx w' w.heap.size t va vd vr/\Below w.heap.size w w':=by
 obtain⟨a,c,a',y,r,d,rfl,z,hD,hR,n1,n2,n3⟩:=hT;have HM:=zA z;have HD:=zA hD;have HR:=zA hR;clear z hD hR;go_enter Tryz.func107,Tryz.ntmps107;go_wp2_with fail;refine(AJ a c t.info _ (HM.o.below (qA _ _)) n1 (by omega)).mono ?_;rintro e m ⟨v1,rfl,I,B1⟩;obtain⟨A7,c1,rfl,_,_⟩:=SegC.of_owns I;have A5:w.heap.size<m.heap.size:=by have:=B1.size;simp at this;omega
 have q:=zA (TG B1);have B3:=zA (vA (qA _ _) B1);have l:Hid (m.ownsRow (w.heap.size+1) 99 2 (M A7 t.info.length c1) t.info.length (cellsC t.info)):=qB I (by simp);clear B1 I;obtain⟨⟨B0,i,A9,R,O,A8,h,S,b,X⟩,U⟩:=BA q.o;go_wp2_with fail;refine(AJ a' y t.data _ (HD.o.below (B3.o.setCell (p:=⟨w.heap.size,1,Z⟩) (by simp) (M A7 t.info.length c1))) n2 (by omega)).mono ?_;rintro e j ⟨v2,rfl,B2,B⟩;obtain⟨D,c2,rfl,_,_⟩:=SegC.of_owns B2;have A2:=B.size;simp only[World.size_setCell]at A2;have A6:w.heap.size<j.heap.size:=by omega
 have n:Hid (j.heap[w.heap.size]?=J (T #[H G t.seq,M A7 t.info.length c1,M a' t.data.length y,M r t.rev.length d,Y t.h0.on,H G t.h0.left,Y t.h1.on,H G t.h1.left,Y t.h2.on,H G t.h2.left] 52 (0,0))):=yA B (by simp;omega) (zc m w.heap.size 1 _ _ (M A7 t.info.length c1) q.o);have B4:=zA ((B3.o.setCell (p:=⟨w.heap.size,1,Z⟩) (by simp) (M A7 t.info.length c1)).trans (B.mono (by simp;omega)));have L:=zA (dA (Jc l.o (a:=⟨w.heap.size,1,Z⟩) (by simp) (M A7 t.info.length c1)) B);have k:Hid (j.ownsRow (w.heap.size+1) 99 2 (M D t.data.length c2) t.data.length (cellsC t.data)):=qB B2 (by simp;omega);clear B B2 B0 i A9 R O A8 h S b X U q B3 l;obtain⟨⟨B0,i,A9,R,O,A8,h,S,b,X⟩,U⟩:=BA n.o;go_wp2_with fail;refine(zR r d t.rev _ (HR.o.below (B4.o.setCell (p:=⟨w.heap.size,2,Z⟩) (by simp) (M D t.data.length c2))) n3 (by omega)).mono ?_;rintro e Q ⟨v3,rfl,F,A⟩;obtain⟨s,c3,rfl,_,_⟩:=SegI.of_owns F;have A3:=A.size;simp only[World.size_setCell]at A3;have A4:w.heap.size<Q.heap.size:=by omega
 have K3:Hid (Q.heap[w.heap.size]?=J (T #[H G t.seq,M A7 t.info.length c1,M D t.data.length c2,M r t.rev.length d,Y t.h0.on,H G t.h0.left,Y t.h1.on,H G t.h1.left,Y t.h2.on,H G t.h2.left] 52 (0,0))):=yA A (by simp;omega) (zc j w.heap.size 2 _ _ (M D t.data.length c2) n.o);have A0:=zA ((B4.o.setCell (p:=⟨w.heap.size,2,Z⟩) (by simp) (M D t.data.length c2)).trans (A.mono (by simp;omega)));have u:=zA (dA (Jc L.o (a:=⟨w.heap.size,2,Z⟩) (by simp) (M D t.data.length c2)) A);have x:=zA (dA (Jc k.o (a:=⟨w.heap.size,2,Z⟩) (by simp) (M D t.data.length c2)) A);have A1:Hid (Q.ownsRow (w.heap.size+1) 3 1 (M s t.rev.length c3) t.rev.length (cellsI t.rev)):=qB F (by simp;omega);clear A F B0 i A9 R O A8 h S b X U n B4 L k;obtain⟨⟨B0,i,A9,R,O,A8,h,S,b,X⟩,U⟩:=BA K3.o;go_wp2;go_ret;exact⟨_,_,_,rfl,⟨zc Q w.heap.size 3 _ _ (M s t.rev.length c3) K3.o,Jc u.o (by simp) _,Jc x.o (by simp) _,Jc A1.o (by simp) _⟩,A0.o.setCell (p:=⟨w.heap.size,3,Z⟩) (by simp) (M s t.rev.length c3)⟩
