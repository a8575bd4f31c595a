import Derived.Test.YtjnpndfpajjihadGreatGrJournalRuns1
import Derived.Test.YtjnpndfpajjihadGreatGrJournalRuns2
set_option maxRecDepth 100000
set_option maxHeartbeats 40000000
namespace Go.Proofs.YtjnpndfpajjihadGreat
open Go.RowKit
open Value renaming int -> H,slice -> M,string -> A,bool -> Y,agg -> F,tuple -> S
open IntKind renaming i64 -> G
open Option renaming none -> Z,some -> J
open Bool renaming false -> O,true -> I
open Go renaming World -> K,Value -> E
open Obj renaming cells -> T
open Ending renaming returned -> N
open _root_.ByteArray renaming empty -> U
variable{R b base n o:Nat}{a:Option Addr}{l:List (Int×ByteArray)}{t:Tx}{v:Value}{w w':World}{z:Bool}
theorem SegW.setNe(h:SegW w a l){p:Addr}(hb:∀b B,a=J ⟨b,B,Z⟩->b≠p.block)(u:E):SegW (w.setCell p u) a l:=by
 rcases h with h|⟨b,B,rfl,D,L⟩
 .exact .inl h
 .have:=hb b B rfl;exact .inr ⟨b,B,rfl,by simpa[World.setCell] using D,λi Q=>⟨lC (L i Q).1 this,lC (L i Q).2 this⟩⟩
def cellsC:List (Int×ByteArray)->List E
 |[]=>[]
 |x::r=>H G x.1:: A x.2::cellsC r
theorem nG(l:List (Int×ByteArray)):(cellsC l).length=l.length*2:=by
 induction l with
 |nil=>rfl
 |cons x r ih=>simp[cellsC,ih];omega
theorem FE(l r:List (Int×ByteArray)):cellsC (l++r)=cellsC l++cellsC r:=by
 induction l with
 |nil=>rfl
 |cons x r ih=>simp[cellsC,ih]
theorem sG(l:List (Int×ByteArray)):∀u∈cellsC l,u.oneCell'=I:=by
 induction l with
 |nil=>intro u A;simp[cellsC]at A
 |cons x r ih=>
  intro u A;simp only[cellsC,List.mem_cons]at A;rcases A with rfl|rfl|A
  .rfl
  .rfl
  .exact ih u A
theorem UN(l:List (Int×ByteArray))(i:Nat)(h:i<l.length):(cellsC l)[i*2]?=J (H G (l.getD i (0,U)).1)/\(cellsC l)[i*2+1]?=J (A (l.getD i (0,U)).2):=by
 induction l generalizing i with
 |nil=>simp at h
 |cons x r ih=>
  cases i with
  |zero=>exact⟨rfl,rfl⟩
  |succ i=>
   have B:(i+1)*2=i*2+1+1:=by omega
   have e2:(i+1)*2+1=i*2+1+1+1:=by omega
   rw[cellsC,B,fe,fe,fe,fe]
   simpa using ih i (by simpa using h)
theorem SegC.of_owns(h:w.ownsRow base 99 2 v n (cellsC l)):∃a c,v=M a l.length c/\SegW w a l/\∀b B,a=J ⟨b,B,Z⟩->base<=b:=by
 have A:l.length=n:=by have:=h.1;rw[nG]at this;omega
 subst A;rcases h.2 with⟨rfl,D⟩|⟨g,cap,A0,rfl,hb,L,rest⟩
 .exact⟨Z,0,by rw[D],.inl (Tc D),λ_ _ h=>by cases h⟩
 .refine⟨_,cap,rfl,.inr ⟨g,0,rfl,(Wb.1 L).1,λi Q=>?_⟩,λ_ _ h=>by cases h;exact hb⟩;have e:=UN l i Q;rw[Dc,h.cellAt (i*2) (by omega),h.cellAt (i*2+1) (by omega)];exact e
theorem fF:(Tryz.prog.info? 99).map (λi=>(i.zero,i.size,i.bytes))=J (J (F #[H G 0,A ⟨#[]⟩]),2,24):=by kernel_rfl
theorem SegC.news{off:Nat}(Q:∀i,i<l.length->w.cell? ⟨b,off+i*2,Z⟩=J (H G (l.getD i (0,U)).1)/\w.cell? ⟨b,off+i*2+1,Z⟩=J (A (l.getD i (0,U)).2))(j:Nat)(u:E)(D:(cellsC l)[j]?=J u):w.cell? ⟨b,off+j,Z⟩=J u:=by
 have A0:j<l.length*2:=by
  have:=(gd.1 D).1;rw[nG]at this;omega
 obtain⟨i,hi⟩:∃i,i=j/2:=⟨_,rfl⟩;have B:i<l.length:=by omega
 have e:=UN l i B;have g:=Q i B;by_cases h0:j%2=0
 .have L:j=i*2:=by omega
  rw[L]at D|-;rw[e.1]at D;cases D;exact g.1
 .have L:j=i*2+1:=by omega
  rw[L]at D|-;rw[e.2]at D;cases D;have:off+(i*2+1)=off+i*2+1:=by omega
  rw[this];exact g.2
def txz:Tx:=⟨0,[],[],[],⟨O,0⟩,⟨O,0⟩,⟨O,0⟩⟩
def Ten (w:K)(b o:Nat)(t:Tx)(a:Option Addr)(c:Nat)(B:Option Addr)(D:Nat)(r:Option Addr)(d:Nat):Prop:=
 w.cell? ⟨b,o,Z⟩=J (H G t.seq)/\w.cell? ⟨b,o+1,Z⟩=J (M a t.info.length c)/\w.cell? ⟨b,o+2,Z⟩=J (M B t.data.length D)/\w.cell? ⟨b,o+3,Z⟩=J (M r t.rev.length d)/\w.cell? ⟨b,o+4,Z⟩=J (Y t.h0.on)/\
  w.cell? ⟨b,o+5,Z⟩=J (H G t.h0.left)/\w.cell? ⟨b,o+6,Z⟩=J (Y t.h1.on)/\w.cell? ⟨b,o+7,Z⟩=J (H G t.h1.left)/\w.cell? ⟨b,o+8,Z⟩=J (Y t.h2.on)/\w.cell? ⟨b,o+9,Z⟩=J (H G t.h2.left)
def TxAt (w:K)(b o:Nat)(t:Tx):Prop:=
 ∃a c B D r d,Ten w b o t a c B D r d/\IsTx w (F #[H G t.seq,M a t.info.length c,M B t.data.length D,M r t.rev.length d,Y t.h0.on,H G t.h0.left,Y t.h1.on,H G t.h1.left,Y t.h2.on,H G t.h2.left]) t
theorem TxAt.below(h:TxAt w b o t)(hb:Below w.heap.size w w')(Q:b<w.heap.size):TxAt w' b o t:=by
 obtain⟨a,c,J,C,r,d,⟨D,M,B,E,K,O,F,N,A,I⟩,L⟩:=h;exact⟨a,c,J,C,r,d,⟨xA hb Q D,xA hb Q M,xA hb Q B,xA hb Q E,xA hb Q K,xA hb Q O,xA hb Q F,xA hb Q N,xA hb Q A,xA hb Q I⟩,L.below hb⟩
theorem IsTx.rows{q D p j i Q k:E}{B r:Option Addr}{c L X m d:Nat}(h:IsTx w (F #[q,M a n c,M B L X,M r m d,D,p,j,i,Q,k]) t):
  SegW w a t.info/\SegW w B t.data/\SegI w r t.rev/\t.info.length<=maxLen/\t.data.length<=maxLen/\t.rev.length<=maxLen:=by
 obtain⟨a2,c2,a3,c3,b2,d2,e,h⟩:=h;simp only[Value.agg.injEq]at e
 injection e with e
 simp only[List.cons.injEq,Value.slice.injEq,and_true]at e;obtain⟨_,⟨rfl,rfl,rfl⟩,⟨rfl,rfl,rfl⟩,⟨rfl,rfl,rfl⟩,_⟩:=e;exact h
def SegTx (w:K)(a:Option Addr)(l:List Tx):Prop:=
 l=[]\/∃b B,a=J ⟨b,B,Z⟩/\b<w.heap.size/\∀i,i<l.length->TxAt w b (B+i*10) (l.getD i txz)
theorem SegTx.below{l:List Tx}(h:SegTx w a l)(hb:Below w.heap.size w w'):SegTx w' a l:=by
 rcases h with h|⟨b,D,rfl,B,L⟩
 .exact .inl h
 .exact .inr ⟨b,D,rfl,Xb B hb.size,λi Q=>(L i Q).below hb B⟩
theorem PH{l:List Tx}{k:Nat}(h:k<l.length):l[k]?=J (l.getD k txz):=by
 rw[List.getD,Ic h];rfl
structure But (R base:Nat)(w w':World):Prop where
 os:w'.os=w.os
 tape:w'.tape=w.tape
 output:w'.output=w.output
 size:w.heap.size<=w'.heap.size
 block:∀k,k<base->k≠R->w'.heap[k]?=w.heap[k]?
theorem But.of_below(h:Below base w w'):But R base w w':=⟨h.os,h.tape,h.output,h.size,λk B _=>h.block k B⟩
theorem But.trans{B:Nat}{D L:K}(h:But R base w D)(k:But R B D L)(hb:base<=B):But R base w L:=
 ⟨k.os.trans h.os,k.tape.trans h.tape,k.output.trans h.output,ac h.size k.size,λj X Q=>(k.block j (by omega) Q).trans (h.block j X Q)⟩
theorem But.cell(h:But R base w w')(hb:b<base)(D:b≠R)(B:w.cell? ⟨b,o,Z⟩=J v):w'.cell? ⟨b,o,Z⟩=J v:=
 (Cd (h.block b hb D)).trans B
theorem NE{e:TypeId}{size:Nat}{L:List E}(h:w.ownsRow base e size v n L)(hb:But R w.heap.size w w')(hR:R<base):w'.ownsRow base e size v n L:=by
 refine⟨h.1,?_⟩;rcases h.2 with h0|⟨g,cap,B,Q,X,D,r⟩
 .exact .inl h0
 .exact .inr ⟨g,cap,B,Q,X,(hb.block g (Wb.1 D).1 (by omega)).trans D,r⟩
def yC:Mk:=⟨0,0,0,[],[]⟩
theorem KC(w:K)(base:Nat):IsMkN w base (F #[H G 0,H G 0,H G 0,M Z 0 0,M Z 0 0]) yC:=⟨Z,0,Z,0,rfl,.inl rfl,.inl rfl,Vb _,Vb _,λ_ _ h=>(by cases h),λ_ _ h=>(by cases h)⟩
theorem BI{o:Obj}(hb:Below (w.alloc o).heap.size (w.alloc o) w'):w'.heap[w.heap.size]?=J o:=
 (hb.block _ (by simp)).trans (Cc w o)
def at8 (s:ByteArray)(k:Nat):Int:=((s.get! k).toNat:Int)
def mA (s:ByteArray):Nat->Int
 |0=>0
 |k+1=>256*mA s k+at8 s (k+5)
theorem SC(s:ByteArray)(k:Nat)(h:k<s.size):((s[k]'h).toNat:Int)=at8 s k:=by
 unfold at8
 congr 2
 exact(getElem!_pos s.data k h).symm
theorem oB(s:ByteArray)(k:Nat):0<=at8 s k/\at8 s k<=255:=by
 unfold at8;have:=(s.get! k).toNat_lt;omega
theorem aY(s:ByteArray)(k:Nat)(h:k<=4):0<=mA s k/\mA s k<256^k:=by
 induction k with
 |zero=>exact⟨Le _,by show(0:Int)<1;decide⟩
 |succ k ih=>
  have:=ih (by omega);have:=oB s (k+5);rw[mA,Int.pow_succ];omega
theorem dD(s:ByteArray)(k:Nat)(h:k<=4):0<=mA s k/\mA s k<=4294967295:=by
 have h1:=aY s k h
 have:(256:Int)^k<=256^4:=by
  match k,h with
  |0,_=>decide
  |1,_=>decide
  |2,_=>decide
  |3,_=>decide
  |4,_=>decide
 omega
theorem ZD(s:ByteArray)(k:Nat):wrap64 (at8 s k)=at8 s k:=by
 have:=oB s k;unfold wrap64;omega
theorem RG(w:K)(o B:Obj):((w.alloc o).alloc B).heap[w.heap.size+1]?=J B:=by
 have:=Cc (w.alloc o) B
 simpa using this
theorem PD{o:Obj}(hb:Below (w.heap.size+1) (w.alloc o) w'):w'.heap[w.heap.size]?=J o:=
 (hb.block _ (by omega)).trans (Cc w o)
def GC (m:Mk)(z:Bool):Mk×Int:=if goodM m=0/\z=I then(m,0) else(yC,1)
theorem nJ{m:Mk}(z:Bool)(h:¬goodM m=0):GC m z=(yC,1):=Qb λe=>h e.1
theorem cJ(m:Mk)(h:z=O):GC m z=(yC,1):=Qb λe=>by rw[h]at e;exact absurd e.2 (by decide)
theorem aJ{m:Mk}(h:goodM m=0)(B:z=I):GC m z=(m,0):=Rb ⟨h,B⟩
def IsTxN (w:K)(base:Nat)(v:E)(t:Tx):Prop:=
 ∃a c D L b d,v=F #[H G t.seq,M a t.info.length c,M D t.data.length L,M b t.rev.length d,Y t.h0.on,H G t.h0.left,Y t.h1.on,H G t.h1.left,Y t.h2.on,H G t.h2.left]/\
  (SegW w a t.info/\SegW w D t.data/\SegI w b t.rev/\t.info.length<=maxLen/\t.data.length<=maxLen/\t.rev.length<=maxLen)/\
  (∀x B,a=J ⟨x,B,Z⟩->base<=x)/\(∀x B,D=J ⟨x,B,Z⟩->base<=x)/\∀x B,b=J ⟨x,B,Z⟩->base<=x
theorem IsTxN.is(h:IsTxN w base v t):IsTx w v t:=by
 obtain⟨a,c,A,B,b,d,rfl,h,_⟩:=h;exact⟨a,c,A,B,b,d,rfl,h⟩
open Go.Proofs.Tryz
theorem gD(w:K):
  Calls prog 123 #[] w λe w'=>e=N (S #[F #[H G 0,H G 0,H G 0,M Z 0 0,M Z 0 0],H G 1])/\Below w.heap.size w w':=by
 go_enter func123,ntmps123;go_wp2;refine Tb (v:=S #[F #[H G 0,H G 0,H G 0,M Z 0 0,M Z 0 0],H G 1]) (by simp[results,results123,go_sem]) rfl ⟨rfl,qA _ _⟩
theorem vZ(s:ByteArray)(w:K)(h:¬s.size=32):
  Calls prog 80 #[A s] w λe w'=>∃Q,e=N (S #[Q,H G 1])/\IsMkN w' w.heap.size Q yC/\Below w.heap.size w w':=by
 go_enter func80,ntmps80;go_wp2_with fail;refine(gD _).mono ?_;rintro e B ⟨rfl,L⟩;have A0:w.heap.size<B.heap.size:=by have:=L.size;simp at this;omega
 obtain⟨⟨E,C,J,X,D⟩,f0,f1,f2,f3,f4⟩:=LA (BI L);have I:=zA (vA (qA _ _) L);clear L;go_wp2;refine Tb (v:=S #[F #[H G 0,H G 0,H G 0,M Z 0 0,M Z 0 0],H G 1]) (by simp[results,results80,go_sem,E,C,J,X,D]) rfl ⟨_,rfl,KC _ _,?_⟩
 repeat refine Zb ?_ (by simp) _
 exact I.o
theorem AV(s:ByteArray)(w:K)(h:s.size=32)(L:isMagic s=O):
  Calls prog 80 #[A s] w λe w'=>∃X,e=N (S #[X,H G 1])/\IsMkN w' w.heap.size X yC/\Below w.heap.size w w':=by
 have A0:((s.extract 0 4).toList==[87,66,75,49])=O:=by rw[isMagic,Rb (by omega)]at L;exact L
 clear L;go_enter func80,ntmps80;go_wp2_with fail;refine(gD _).mono ?_;rintro e B ⟨rfl,Q⟩;have A1:w.heap.size<B.heap.size:=by have:=Q.size;simp at this;omega
 obtain⟨⟨E,C,J,c,D⟩,f0,f1,f2,f3,f4⟩:=LA (BI Q);have I:=zA (vA (qA _ _) Q);clear Q;go_wp2;refine Tb (v:=S #[F #[H G 0,H G 0,H G 0,M Z 0 0,M Z 0 0],H G 1]) (by simp[results,results80,go_sem,E,C,J,c,D]) rfl ⟨_,rfl,KC _ _,?_⟩
 repeat refine Zb ?_ (by simp) _
 exact I.o
theorem zZ(s:ByteArray)(w:K)(h:s.size=32)(hm:isMagic s=I)(B8:¬at8 s 4=1)(B7:¬at8 s 4=2)(B9:¬at8 s 4=3):
  Calls prog 80 #[A s] w λe w'=>∃v2,e=N (S #[v2,H G (GC ⟨at8 s 4,mA s 4,0,[],[]⟩ (eB s 9)).2])/\IsMkN w' w.heap.size v2 (GC ⟨at8 s 4,mA s 4,0,[],[]⟩ (eB s 9)).1/\Below w.heap.size w w':=by
 have A3:((s.extract 0 4).toList==[87,66,75,49])=I:=by rw[isMagic,Rb (by omega)]at hm;exact hm
 clear hm;have hB:∀k (hk:k<s.size),((s[k]'hk).toNat:Int)=at8 s k:=SC s;have hW:=ZD s;have A7:∀k,IntKind.i64.wrap (at8 s k)=at8 s k:=λk=>by have:=oB s k;rw[Bc];omega
 go_enter func80,ntmps80;go_wp2
 go_loopw [6] (λi wr=>∃k:Nat,k<=4/\i=H G ((k+5:Nat):Int)/\wr.heap[w.heap.size+1]?=J (T #[H G (at8 s 4),H G (mA s k),H G 0,M Z 0 0,M Z 0 0] 81 (0,0))/\
  Below (w.heap.size+1) (w.alloc (T #[H G 0,H G 0,H G 0,M Z 0 0,M Z 0 0] 81)) wr) (λi _=>9 - (intOf i).toNat)
 case atStart=>
  refine⟨0,Vb _,rfl,?_,(Ub _ _).alloc (by simp) _⟩;exact RG w _ _
 case round=>
  obtain⟨k,hk,rfl,B5,L⟩:=hrel;have B6:=zA B5;obtain⟨⟨X,U,a,B4,Y⟩,r,y,x,z,e4⟩:=LA B5;clear B5;have A5:w.heap.size+1<wr.heap.size:=(Wb.1 B6.o).1;have A1:w.heap.size<wr.heap.size:=by omega
  by_cases hlt:k<4
  .obtain⟨q,d⟩:∃q,q=mA s k:=⟨_,rfl⟩;have l:=dD s k (by omega);have c:mA s (k+1)=256*mA s k+at8 s (k+5):=rfl;have b:=dD s (k+1) (by omega);rw[c]at b;rw[<-d]at U l b;have u:=zA d;clear d c;have u1:IntKind.i64.wrap (256*q)=256*q:=by rw[Bc];omega
   have u2:IntKind.i64.wrap (256*q+at8 s (k+5))=256*q+at8 s (k+5):=by rw[Bc];omega
   have A0:(k:Int)+5<9:=by omega
   go_wp2
   go_region
   all_goals
    go_wp2
    go_roundw
    case rel=>
     refine⟨k+1,by omega,by go_num,?_,(L.setCell (by simp) _).drew⟩;refine(zc wr _ _ _ _ _ B6.o).trans ?_;rw[mA,<-u.o];rfl
    case measure=>simp[intOf];omega
  .obtain rfl:k=4:=by omega
   have B1:=zA L;obtain⟨⟨B0,C,A9,D,E⟩,B2,f1,B3,Q,O⟩:=LA (PD L)
   replace B1:=zA (vA (qA _ _) (B1.o.mono (by simp)))
   clear L hlt hk;go_wp2_with fail;refine(cG _ ⟨at8 s 4,mA s 4,0,[],[]⟩ _ ⟨Z,0,Z,0,rfl,.inl rfl,.inl rfl,Vb _,Vb _⟩ (by simp)).mono ?_;rintro e n ⟨rfl,B⟩;have A6:w.heap.size+1<n.heap.size:=by have:=B.size;omega
   have A2:w.heap.size<n.heap.size:=by omega
   replace X:=xA B (by omega) X
   replace U:=xA B (by omega) U
   replace a:=xA B (by omega) a
   replace B4:=xA B (by omega) B4
   replace Y:=xA B (by omega) Y
   replace B0:=xA B (by omega) B0
   replace C:=xA B (by omega) C
   replace A9:=xA B (by omega) A9
   replace D:=xA B (by omega) D
   replace E:=xA B (by omega) E
   replace B2:=bA B (by omega) B2
   replace f1:=bA B (by omega) f1
   replace B3:=bA B (by omega) B3
   replace Q:=bA B (by omega) Q
   replace O:=bA B (by omega) O
   replace B1:=zA (vA B1.o B)
   clear B r y x z e4;by_cases hg:goodM ⟨at8 s 4,mA s 4,0,[],[]⟩=0
   .go_wp2_with fail;refine(KM s 9 _ (by omega) (by omega)).mono ?_;rintro e w2 ⟨rfl,rfl⟩
    cases hz:eB s 9 with
    |true=>
     have hd:=aJ hg hz;go_wp2;refine Tb (v:=S #[F #[H G (at8 s 4),H G (mA s 4),H G 0,M Z 0 0,M Z 0 0],H G 0]) (by simp[results,results80,go_sem,B0,C,A9,D,E]) rfl ⟨_,by rw[hd],?_,?_⟩
     .rw[hd];exact⟨Z,0,Z,0,rfl,.inl rfl,.inl rfl,Vb _,Vb _,λ_ _ h=>(by cases h),λ_ _ h=>(by cases h)⟩
     .repeat refine Zb ?_ (by simp) _
      exact B1.o
    |false=>
     have hd:=cJ ⟨at8 s 4,mA s 4,0,[],[]⟩ hz;go_wp2_with fail;refine(gD _).mono ?_;rintro e j ⟨rfl,A8⟩;have p:w.heap.size<j.heap.size:=by have:=A8.size;omega
     replace B0:=xA A8 (by omega) B0
     replace C:=xA A8 (by omega) C
     replace A9:=xA A8 (by omega) A9
     replace D:=xA A8 (by omega) D
     replace E:=xA A8 (by omega) E
     replace B2:=bA A8 (by omega) B2
     replace f1:=bA A8 (by omega) f1
     replace B3:=bA A8 (by omega) B3
     replace Q:=bA A8 (by omega) Q
     replace O:=bA A8 (by omega) O
     have R:=zA (vA B1.o A8);clear A8 X U a B4 Y;go_wp2;refine Tb (v:=S #[F #[H G 0,H G 0,H G 0,M Z 0 0,M Z 0 0],H G 1]) (by simp[results,results80,go_sem,B0,C,A9,D,E]) rfl ⟨_,by rw[hd],by rw[hd];exact KC _ _,?_⟩
     repeat refine Zb ?_ (by simp) _
     exact R.o
   .have A4:(goodM ⟨at8 s 4,mA s 4,0,[],[]⟩ !=0)=I:=by simpa using hg
    have hd:=nJ (m:=⟨at8 s 4,mA s 4,0,[],[]⟩) (eB s 9) hg;go_wp2_with fail;refine(gD _).mono ?_;rintro e j ⟨rfl,A8⟩;have p:w.heap.size<j.heap.size:=by have:=A8.size;omega
    replace B0:=xA A8 (by omega) B0
    replace C:=xA A8 (by omega) C
    replace A9:=xA A8 (by omega) A9
    replace D:=xA A8 (by omega) D
    replace E:=xA A8 (by omega) E
    replace B2:=bA A8 (by omega) B2
    replace f1:=bA A8 (by omega) f1
    replace B3:=bA A8 (by omega) B3
    replace Q:=bA A8 (by omega) Q
    replace O:=bA A8 (by omega) O
    have R:=zA (vA B1.o A8);clear A8 X U a B4 Y;go_wp2;refine Tb (v:=S #[F #[H G 0,H G 0,H G 0,M Z 0 0,M Z 0 0],H G 1]) (by simp[results,results80,go_sem,B0,C,A9,D,E]) rfl ⟨_,by rw[hd],by rw[hd];exact KC _ _,?_⟩
    repeat refine Zb ?_ (by simp) _
    exact R.o
theorem mK(s:ByteArray)(n:Nat)(x:Int)(w:K)(D:x=(n:Int))(B:s.size<=32)(L:n<=100):
  Calls prog 124 #[A s,H G x] w λe w'=>e=N (Y (eB s n))/\w=w':=by
 subst D;exact KM s n w B L
theorem JW(s:ByteArray)(w:K)(h:s.size=32)(hm:isMagic s=I)(hk:at8 s 4=1):
  Calls prog 80 #[A s] w λe w'=>∃v2,e=N (S #[v2,H G (GC ⟨1,mA s 4,at8 s 9,[],[]⟩ (eB s 10)).2])/\IsMkN w' w.heap.size v2 (GC ⟨1,mA s 4,at8 s 9,[],[]⟩ (eB s 10)).1/\Below w.heap.size w w':=by
 have A6:((s.extract 0 4).toList==[87,66,75,49])=I:=by rw[isMagic,Rb (by omega)]at hm;exact hm
 clear hm;have HK:=zA hk;clear hk;have hB:∀k (hk:k<s.size),((s[k]'hk).toNat:Int)=at8 s k:=SC s;have hW:=ZD s;have B0:∀k,IntKind.i64.wrap (at8 s k)=at8 s k:=λk=>by have:=oB s k;rw[Bc];omega
 go_enter func80,ntmps80;go_wp2
 go_loopw [6] (λi wr=>∃k:Nat,k<=4/\i=H G ((k+5:Nat):Int)/\wr.heap[w.heap.size+1]?=J (T #[H G (at8 s 4),H G (mA s k),H G 0,M Z 0 0,M Z 0 0] 81 (0,0))/\
  Below (w.heap.size+1) (w.alloc (T #[H G 0,H G 0,H G 0,M Z 0 0,M Z 0 0] 81)) wr) (λi _=>9 - (intOf i).toNat)
 case atStart=>
  refine⟨0,Vb _,rfl,?_,(Ub _ _).alloc (by simp) _⟩;exact RG w _ _
 case round=>
  obtain⟨k,hk,rfl,R,L⟩:=hrel;have C:=zA R;obtain⟨⟨Y,c,l,j,d⟩,e0,e1,e2,e3,e4⟩:=LA R;clear R;have A8:w.heap.size+1<wr.heap.size:=(Wb.1 C.o).1;have A3:w.heap.size<wr.heap.size:=by omega
  by_cases hlt:k<4
  .obtain⟨q,y⟩:∃q,q=mA s k:=⟨_,rfl⟩;have A0:=dD s k (by omega);have x:mA s (k+1)=256*mA s k+at8 s (k+5):=rfl;have u:=dD s (k+1) (by omega);rw[x]at u;rw[<-y]at c A0 u;have HQ:=zA y;clear y x;have u1:IntKind.i64.wrap (256*q)=256*q:=by rw[Bc];omega
   have u2:IntKind.i64.wrap (256*q+at8 s (k+5))=256*q+at8 s (k+5):=by rw[Bc];omega
   have A2:(k:Int)+5<9:=by omega
   go_wp2
   go_region
   all_goals
    go_wp2
    go_roundw
    case rel=>
     refine⟨k+1,by omega,by go_num,?_,(L.setCell (by simp) _).drew⟩;refine(zc wr _ _ _ _ _ C.o).trans ?_;rw[mA,<-HQ.o];rfl
    case measure=>simp[intOf];omega
  .obtain rfl:k=4:=by omega
   obtain⟨⟨B3,D,B2,E,B4⟩,B6,f1,B5,O,B7⟩:=LA (PD L);have B8:=zA (vA (qA _ _) (L.mono (by simp)));clear hlt hk;have hk:=HK.o;have b:=C.o;rw[hk]at Y b
   replace C:=zA b
   clear b;rw[show(((4:Nat)+5:Nat):Int)=9 from rfl,hk];obtain⟨B9,X⟩:∃B9,B9=wr.setCell ⟨w.heap.size+1,2,Z⟩ (H G (at8 s 9)):=⟨_,rfl⟩
   have U:B9.heap[w.heap.size+1]?=J (T #[H G 1,H G (mA s 4),H G (at8 s 9),M Z 0 0,M Z 0 0] 81 (0,0)):=by
    rw[X];exact(zc wr _ _ _ _ _ C.o).trans rfl
   have n:Below (w.heap.size+1) (w.alloc (T #[H G 0,H G 0,H G 0,M Z 0 0,M Z 0 0] 81)) B9:=by rw[X];exact L.setCell (by simp) _
   have r:=zA U;have p:=zA n;clear U n L;go_wp2_with fail;rw[<-X];clear X Y c l j d e0 e1 e2 e3 e4 B3 D B2 E B4 B6 f1 B5 O B7 B8 C;obtain⟨⟨Y,c,l,j,d⟩,_⟩:=LA r.o;obtain⟨⟨B3,D,B2,E,B4⟩,B6,f1,B5,O,B7⟩:=LA (PD p.o);have A5:w.heap.size+1<B9.heap.size:=(Wb.1 r.o).1;have B8:=zA (vA (qA _ _) (p.o.mono (by simp)));refine(cG _ ⟨1,mA s 4,at8 s 9,[],[]⟩ _ ⟨Z,0,Z,0,rfl,.inl rfl,.inl rfl,Vb _,Vb _⟩ (by simp)).mono ?_;rintro e w1 ⟨rfl,B⟩;have A9:w.heap.size+1<w1.heap.size:=by have:=B.size;omega
   have A4:w.heap.size<w1.heap.size:=by omega
   replace Y:=xA B (by omega) Y
   replace c:=xA B (by omega) c
   replace l:=xA B (by omega) l
   replace j:=xA B (by omega) j
   replace d:=xA B (by omega) d
   replace B3:=xA B (by omega) B3
   replace D:=xA B (by omega) D
   replace B2:=xA B (by omega) B2
   replace E:=xA B (by omega) E
   replace B4:=xA B (by omega) B4
   replace B6:=bA B (by omega) B6
   replace f1:=bA B (by omega) f1
   replace B5:=bA B (by omega) B5
   replace O:=bA B (by omega) O
   replace B7:=bA B (by omega) B7
   replace B8:=zA (vA B8.o B)
   clear B;by_cases hg:goodM ⟨1,mA s 4,at8 s 9,[],[]⟩=0
   .go_wp2_with fail;refine(mK s (10) _ _ (by omega) (by omega) (by omega)).mono ?_;rintro e w2 ⟨rfl,rfl⟩
    cases hz:eB s (10) with
    |true=>
     have hd:=aJ hg hz;have Q:=zA hd;clear hd hz;go_wp2;refine Tb (v:=S #[F #[H G 1,H G (mA s 4),H G (at8 s 9),M Z 0 0,M Z 0 0],H G 0]) (by simp[results,results80,go_sem,B3,D,B2,E,B4]) rfl ⟨_,by rw[Q.o],?_,?_⟩
     .rw[Q.o];exact⟨Z,0,Z,0,rfl,.inl rfl,.inl rfl,Vb _,Vb _,λ_ _ h=>(by cases h),λ_ _ h=>(by cases h)⟩
     .repeat refine Zb ?_ (by simp) _
      exact B8.o
    |false=>
     have hd:=cJ ⟨1,mA s 4,at8 s 9,[],[]⟩ hz;have Q:=zA hd;clear hd hz;go_wp2_with fail;refine(gD _).mono ?_;rintro e z ⟨rfl,B1⟩;have A1:w.heap.size<z.heap.size:=by have:=B1.size;omega
     replace B3:=xA B1 (by omega) B3
     replace D:=xA B1 (by omega) D
     replace B2:=xA B1 (by omega) B2
     replace E:=xA B1 (by omega) E
     replace B4:=xA B1 (by omega) B4
     replace B6:=bA B1 (by omega) B6
     replace f1:=bA B1 (by omega) f1
     replace B5:=bA B1 (by omega) B5
     replace O:=bA B1 (by omega) O
     replace B7:=bA B1 (by omega) B7
     have a:=zA (vA B8.o B1);clear B1;go_wp2;refine Tb (v:=S #[F #[H G 0,H G 0,H G 0,M Z 0 0,M Z 0 0],H G 1]) (by simp[results,results80,go_sem,B3,D,B2,E,B4]) rfl ⟨_,by rw[Q.o],by rw[Q.o];exact KC _ _,?_⟩
     repeat refine Zb ?_ (by simp) _
     exact a.o
   .have A7:(goodM ⟨1,mA s 4,at8 s 9,[],[]⟩ !=0)=I:=by simpa using hg
    have hd:=nJ (m:=⟨1,mA s 4,at8 s 9,[],[]⟩) (eB s (10)) hg;have Q:=zA hd;clear hd;go_wp2_with fail;refine(gD _).mono ?_;rintro e z ⟨rfl,B1⟩;have A1:w.heap.size<z.heap.size:=by have:=B1.size;omega
    replace B3:=xA B1 (by omega) B3
    replace D:=xA B1 (by omega) D
    replace B2:=xA B1 (by omega) B2
    replace E:=xA B1 (by omega) E
    replace B4:=xA B1 (by omega) B4
    replace B6:=bA B1 (by omega) B6
    replace f1:=bA B1 (by omega) f1
    replace B5:=bA B1 (by omega) B5
    replace O:=bA B1 (by omega) O
    replace B7:=bA B1 (by omega) B7
    have a:=zA (vA B8.o B1);clear B1;go_wp2;refine Tb (v:=S #[F #[H G 0,H G 0,H G 0,M Z 0 0,M Z 0 0],H G 1]) (by simp[results,results80,go_sem,B3,D,B2,E,B4]) rfl ⟨_,by rw[Q.o],by rw[Q.o];exact KC _ _,?_⟩
    repeat refine Zb ?_ (by simp) _
    exact a.o
theorem zS(s:ByteArray)(w:K)(h:s.size=32)(p:isMagic s=I)(hk:at8 s 4=2)(h9:10<at8 s 9):
  Calls prog 80 #[A s] w λe w'=>∃v2,e=N (S #[v2,H G 1])/\IsMkN w' w.heap.size v2 yC/\Below w.heap.size w w':=by
 have A2:((s.extract 0 4).toList==[87,66,75,49])=I:=by rw[isMagic,Rb (by omega)]at p;exact p
 clear p;have c:=zA hk;clear hk;have hB:∀k (hk:k<s.size),((s[k]'hk).toNat:Int)=at8 s k:=SC s;have hW:=ZD s;have A5:∀k,IntKind.i64.wrap (at8 s k)=at8 s k:=λk=>by have:=oB s k;rw[Bc];omega
 go_enter func80,ntmps80;go_wp2
 go_loopw [6] (λi wr=>∃k:Nat,k<=4/\i=H G ((k+5:Nat):Int)/\wr.heap[w.heap.size+1]?=J (T #[H G (at8 s 4),H G (mA s k),H G 0,M Z 0 0,M Z 0 0] 81 (0,0))/\
  Below (w.heap.size+1) (w.alloc (T #[H G 0,H G 0,H G 0,M Z 0 0,M Z 0 0] 81)) wr) (λi _=>9 - (intOf i).toNat)
 case atStart=>
  refine⟨0,Vb _,rfl,?_,(Ub _ _).alloc (by simp) _⟩;exact RG w _ _
 case round=>
  obtain⟨k,hk,rfl,C,D⟩:=hrel;have B:=zA C;obtain⟨⟨A8,j,x2,x3,x4⟩,e0,e1,e2,e3,e4⟩:=LA C;clear C;have A3:w.heap.size+1<wr.heap.size:=(Wb.1 B.o).1;have A1:w.heap.size<wr.heap.size:=by omega
  by_cases hlt:k<4
  .obtain⟨q,x⟩:∃q,q=mA s k:=⟨_,rfl⟩;have Q:=dD s k (by omega);have A6:mA s (k+1)=256*mA s k+at8 s (k+5):=rfl;have A7:=dD s (k+1) (by omega);rw[A6]at A7;rw[<-x]at j Q A7;have a:=zA x;clear x A6;have u1:IntKind.i64.wrap (256*q)=256*q:=by rw[Bc];omega
   have u2:IntKind.i64.wrap (256*q+at8 s (k+5))=256*q+at8 s (k+5):=by rw[Bc];omega
   have A0:(k:Int)+5<9:=by omega
   go_wp2
   go_region
   all_goals
    go_wp2
    go_roundw
    case rel=>
     refine⟨k+1,by omega,by go_num,?_,(D.setCell (by simp) _).drew⟩;refine(zc wr _ _ _ _ _ B.o).trans ?_;rw[mA,<-a.o];rfl
    case measure=>simp[intOf];omega
  .obtain rfl:k=4:=by omega
   obtain⟨⟨y,u,O,L,r⟩,R,f1,U,Y,X⟩:=LA (PD D);have b:=zA (vA (qA _ _) (D.mono (by simp)));clear hlt hk;have hk:=c.o;have E:=B.o;rw[hk]at A8 E
   replace B:=zA E
   clear E;rw[show(((4:Nat)+5:Nat):Int)=9 from rfl,hk];clear D;go_wp2_with fail;refine(gD _).mono ?_;rintro e d ⟨rfl,m⟩;have A4:w.heap.size<d.heap.size:=by have:=m.size;omega
   replace y:=xA m (by omega) y
   replace u:=xA m (by omega) u
   replace O:=xA m (by omega) O
   replace L:=xA m (by omega) L
   replace r:=xA m (by omega) r
   replace R:=bA m (by omega) R
   replace f1:=bA m (by omega) f1
   replace U:=bA m (by omega) U
   replace Y:=bA m (by omega) Y
   replace X:=bA m (by omega) X
   have A9:=zA (vA b.o m);clear m;go_wp2;refine Tb (v:=S #[F #[H G 0,H G 0,H G 0,M Z 0 0,M Z 0 0],H G 1]) (by simp[results,results80,go_sem,y,u,O,L,r]) rfl ⟨_,rfl,KC _ _,?_⟩
   repeat refine Zb ?_ (by simp) _
   exact A9.o
theorem QU(s:ByteArray)(w:K)(h:s.size=32)(p:isMagic s=I)(hk:at8 s 4=3)(h9:20<at8 s 9):
  Calls prog 80 #[A s] w λe w'=>∃v2,e=N (S #[v2,H G 1])/\IsMkN w' w.heap.size v2 yC/\Below w.heap.size w w':=by
 have A2:((s.extract 0 4).toList==[87,66,75,49])=I:=by rw[isMagic,Rb (by omega)]at p;exact p
 clear p;have c:=zA hk;clear hk;have hB:∀k (hk:k<s.size),((s[k]'hk).toNat:Int)=at8 s k:=SC s;have hW:=ZD s;have A5:∀k,IntKind.i64.wrap (at8 s k)=at8 s k:=λk=>by have:=oB s k;rw[Bc];omega
 go_enter func80,ntmps80;go_wp2
 go_loopw [6] (λi wr=>∃k:Nat,k<=4/\i=H G ((k+5:Nat):Int)/\wr.heap[w.heap.size+1]?=J (T #[H G (at8 s 4),H G (mA s k),H G 0,M Z 0 0,M Z 0 0] 81 (0,0))/\
  Below (w.heap.size+1) (w.alloc (T #[H G 0,H G 0,H G 0,M Z 0 0,M Z 0 0] 81)) wr) (λi _=>9 - (intOf i).toNat)
 case atStart=>
  refine⟨0,Vb _,rfl,?_,(Ub _ _).alloc (by simp) _⟩;exact RG w _ _
 case round=>
  obtain⟨k,hk,rfl,C,D⟩:=hrel;have B:=zA C;obtain⟨⟨A8,j,x2,x3,x4⟩,e0,e1,e2,e3,e4⟩:=LA C;clear C;have A3:w.heap.size+1<wr.heap.size:=(Wb.1 B.o).1;have A1:w.heap.size<wr.heap.size:=by omega
  by_cases hlt:k<4
  .obtain⟨q,x⟩:∃q,q=mA s k:=⟨_,rfl⟩;have Q:=dD s k (by omega);have A6:mA s (k+1)=256*mA s k+at8 s (k+5):=rfl;have A7:=dD s (k+1) (by omega);rw[A6]at A7;rw[<-x]at j Q A7;have a:=zA x;clear x A6;have u1:IntKind.i64.wrap (256*q)=256*q:=by rw[Bc];omega
   have u2:IntKind.i64.wrap (256*q+at8 s (k+5))=256*q+at8 s (k+5):=by rw[Bc];omega
   have A0:(k:Int)+5<9:=by omega
   go_wp2
   go_region
   all_goals
    go_wp2
    go_roundw
    case rel=>
     refine⟨k+1,by omega,by go_num,?_,(D.setCell (by simp) _).drew⟩;refine(zc wr _ _ _ _ _ B.o).trans ?_;rw[mA,<-a.o];rfl
    case measure=>simp[intOf];omega
  .obtain rfl:k=4:=by omega
   obtain⟨⟨y,u,O,L,r⟩,R,f1,U,Y,X⟩:=LA (PD D);have b:=zA (vA (qA _ _) (D.mono (by simp)));clear hlt hk;have hk:=c.o;have E:=B.o;rw[hk]at A8 E
   replace B:=zA E
   clear E;rw[show(((4:Nat)+5:Nat):Int)=9 from rfl,hk];clear D;go_wp2_with fail;refine(gD _).mono ?_;rintro e d ⟨rfl,m⟩;have A4:w.heap.size<d.heap.size:=by have:=m.size;omega
   replace y:=xA m (by omega) y
   replace u:=xA m (by omega) u
   replace O:=xA m (by omega) O
   replace L:=xA m (by omega) L
   replace r:=xA m (by omega) r
   replace R:=bA m (by omega) R
   replace f1:=bA m (by omega) f1
   replace U:=bA m (by omega) U
   replace Y:=bA m (by omega) Y
   replace X:=bA m (by omega) X
   have A9:=zA (vA b.o m);clear m;go_wp2;refine Tb (v:=S #[F #[H G 0,H G 0,H G 0,M Z 0 0,M Z 0 0],H G 1]) (by simp[results,results80,go_sem,y,u,O,L,r]) rfl ⟨_,rfl,KC _ _,?_⟩
   repeat refine Zb ?_ (by simp) _
   exact A9.o
