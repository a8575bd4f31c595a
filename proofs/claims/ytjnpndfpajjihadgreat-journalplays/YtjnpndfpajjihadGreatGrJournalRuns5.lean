import Derived.Test.YtjnpndfpajjihadGreatGrJournalRuns0
import Derived.Lib.SliceRun
set_option maxRecDepth 100000
set_option maxHeartbeats 40000000
namespace Go.Proofs.YtjnpndfpajjihadGreat
open Go.Proofs.Tryz
open Go.RowKit
open Value renaming int -> H,slice -> M,string -> A,bool -> Y,agg -> F,tuple -> S
open IntKind renaming i64 -> G
open Option renaming none -> Z,some -> J
open Bool renaming false -> O,true -> I
open Go renaming World -> K,Value -> E
open Obj renaming cells -> T
open Ending renaming returned -> N
open _root_.ByteArray renaming empty -> U
variable{b base n off:Nat}{ss:List ByteArray}{v:Value}{w:World}{ws:List (Int×ByteArray)}
def cellsS (ss:List ByteArray):List E:=ss.map Value.string
def cellsW:List (Int×ByteArray)->List E
 |[]=>[]
 |x::r=>H G x.1:: A x.2::cellsW r
theorem UI(ss:List ByteArray):(cellsS ss).length=ss.length*1:=by simp[cellsS]
theorem DI(ws:List (Int×ByteArray)):(cellsW ws).length=ws.length*2:=by
 induction ws with
 |nil=>rfl
 |cons x r ih=>simp[cellsW,ih];omega
theorem OO(l r:List (Int×ByteArray)):cellsW (l++r)=cellsW l++cellsW r:=by
 induction l with
 |nil=>rfl
 |cons x t ih=>simp[cellsW,ih]
theorem lI(l r:List ByteArray):cellsS (l++r)=cellsS l++cellsS r:=by simp[cellsS]
theorem JH:∀u∈cellsS ss,u.oneCell'=I:=by
 intro u A;obtain⟨s,_,rfl⟩:=Wc.1 A;rfl
theorem gI(ws:List (Int×ByteArray)):∀u∈cellsW ws,u.oneCell'=I:=by
 induction ws with
 |nil=>intro u A;cases A
 |cons x r ih=>
  intro u A;simp only[cellsW,List.mem_cons]at A;rcases A with rfl|rfl|A
  .rfl
  .rfl
  .exact ih u A
theorem ZO(ss:List ByteArray)(i:Nat)(h:i<ss.length):(cellsS ss)[i]?=J (A (ss.getD i U)):=by
 rw[cellsS,Ld,xE ss i U h];rfl
theorem WP(ws:List (Int×ByteArray))(i:Nat)(h:i<ws.length):
  (cellsW ws)[i*2]?=J (H G (ws.getD i (0,U)).1)/\(cellsW ws)[i*2+1]?=J (A (ws.getD i (0,U)).2):=by
 induction ws generalizing i with
 |nil=>simp at h
 |cons x r ih=>
  cases i with
  |zero=>simp[cellsW]
  |succ k=>
   have:=ih k (by simpa using h);rw[show(k+1)*2=k*2+1+1 from by omega]
   simpa[cellsW] using this
theorem SegS.news(h:∀i,i<ss.length->w.cell? ⟨b,off+i,Z⟩=J (A (ss.getD i U))):
  ∀j u,(cellsS ss)[j]?=J u->w.cell? ⟨b,off+j,Z⟩=J u:=by
 intro j u B;have D:j<ss.length:=by have:=(gd.1 B).1;simpa[cellsS] using this
 rw[h j D,<-ZO ss j D,B]
theorem SegW.news(h:∀i,i<ws.length->
  w.cell? ⟨b,off+i*2,Z⟩=J (H G (ws.getD i (0,U)).1)/\w.cell? ⟨b,off+i*2+1,Z⟩=J (A (ws.getD i (0,U)).2)):
  ∀j u,(cellsW ws)[j]?=J u->w.cell? ⟨b,off+j,Z⟩=J u:=by
 intro j u D;have A0:j<ws.length*2:=by have:=(gd.1 D).1;rwa [DI]at this
 have C:j/2<ws.length:=by omega
 have e:=WP ws (j/2) C;have g:=h (j/2) C;rcases Nat.mod_two_eq_zero_or_one j with h0|h0
 .have B:j=j/2*2:=by omega
  rw[B]at D|-;rw[g.1,<-e.1,D]
 .have B:j=j/2*2+1:=by omega
  rw[B]at D|-;rw[show off+(j/2*2+1)=off+j/2*2+1 from by omega,g.2,<-e.2,D]
theorem SegS.of_owns(h:w.ownsRow base 9 1 v n (cellsS ss)):∃a c,v=M a ss.length c/\SegS w a ss/\∀b off,a=J ⟨b,off,Z⟩->base<=b:=by
 have A:ss.length=n:=by have:=h.1;rw[UI]at this;omega
 subst A;rcases h.2 with⟨rfl,B⟩|⟨g,cap,A0,rfl,hb,D,rest⟩
 .exact⟨Z,0,by rw[B],.inl (Tc B),λ_ _ h=>by cases h⟩
 .refine⟨_,cap,rfl,.inr ⟨g,0,rfl,(Wb.1 D).1,λi L=>?_⟩,λ_ _ h=>by cases h;exact hb⟩;rw[Dc,h.cellAt i (by omega),ZO ss i L]
theorem SegW.of_owns(h:w.ownsRow base 102 2 v n (cellsW ws)):∃a c,v=M a ws.length c/\SegW w a ws/\∀b off,a=J ⟨b,off,Z⟩->base<=b:=by
 have A:ws.length=n:=by have:=h.1;rw[DI]at this;omega
 subst A;rcases h.2 with⟨rfl,B⟩|⟨g,cap,A0,rfl,hb,D,rest⟩
 .exact⟨Z,0,by rw[B],.inl (Tc B),λ_ _ h=>by cases h⟩
 .refine⟨_,cap,rfl,.inr ⟨g,0,rfl,(Wb.1 D).1,λi L=>?_⟩,λ_ _ h=>by cases h;exact hb⟩;have e:=WP ws i L;rw[Dc,h.cellAt (i*2) (by omega),h.cellAt (i*2+1) (by omega)];exact e
theorem XF:(prog.info? 9).map (λi=>(i.zero,i.size,i.bytes))=J (J (A ⟨#[]⟩),1,16):=by kernel_rfl
theorem DJ:(prog.info? 102).map (λi=>(i.zero,i.size,i.bytes))=J (J (F #[H G 0,A ⟨#[]⟩]),2,24):=by kernel_rfl
theorem dO(a:Option Addr)(c:Nat)(ss:List ByteArray)(w:K)(h:SegS w a ss)(q:ss.length<=maxLen)(l:ss.length*16<=140737488355328):
  Calls prog 46 #[M a ss.length c] w λe p=>∃X,e=N X/\p.ownsRow w.heap.size 9 1 X ss.length (cellsS ss)/\Below w.heap.size w p:=by
 have A0:∀(w:K) (a:Option Addr) (n c d i:Nat),(binOp .eql 42 (M a n c) (M Z d i)).run prog w=.ok (Y a.isNone) w:=λw a n c d i=>Xf w _ _ a n c d i underlying42;obtain⟨L,O,x,y,F⟩:=Gc XF;rcases a with _|ad
 .have A1:ss=[]:=by rcases h with h|⟨b,off,m,_⟩;exact h;cases m
  subst A1;go_enter func46,ntmps46;go_wp2;go_ret;exact⟨_,rfl,Kc _ _ _ _,Ub _ _⟩
 .have z:Hid (∀j u,(cellsS ss)[j]?=J u->w.cell? (ad.add j)=J u):=by
   rcases h with h|⟨b,off,m,A2,r⟩
   .rw[h];intro j u D;simp[cellsS]at D
   .intro j u D;cases m;rw[qd];exact SegS.news r j u D
  clear h;go_enter func46,ntmps46;go_wp2_with (at_builtin;refine wd _ rfl _ _ 42 rfl w.heap.size 9 L (A ⟨#[]⟩) 1 16 underlying42 O x y F rfl (by decide) _ _ _ rfl (De w #[] 0 (Sb _) (Vb _) (by simp)) ad ss.length c (cellsS ss) rfl ?qc1 ?qc2 ?qc3 ?qc4 ?qc5 ?qc6 ?_)
  case qc1=>exact UI ss
  case qc2=>intro j u D;exact Yf _ (z.o j u D)
  case qc3=>exact JH
  case qc4=>rw[Dc];exact q
  case qc5=>rw[Dc];exact l
  case qc6=>simp
  intro X I C B E;have s:Hid (I.ownsRow w.heap.size 9 1 X ss.length (cellsS ss)):=by unfold Hid;simpa using C
  have R:Hid (Below w.heap.size w I):=(qA w _).grown B (by simp) (by intro k Q;simp[Value.ownBlock]at Q;omega);clear C B E;go_wp2;go_ret;exact⟨X,rfl,s.o,R.o⟩
theorem mM(a:Option Addr)(c:Nat)(ss:List (Int×ByteArray))(w:K)(h:SegW w a ss)(q:ss.length<=maxLen)(l:ss.length*24<=140737488355328):
  Calls prog 47 #[M a ss.length c] w λe p=>∃X,e=N X/\p.ownsRow w.heap.size 102 2 X ss.length (cellsW ss)/\Below w.heap.size w p:=by
 have A0:∀(w:K) (a:Option Addr) (n c d i:Nat),(binOp .eql 43 (M a n c) (M Z d i)).run prog w=.ok (Y a.isNone) w:=λw a n c d i=>Xf w _ _ a n c d i underlying43;obtain⟨L,O,x,y,A2⟩:=Gc DJ;rcases a with _|ad
 .have A1:ss=[]:=by rcases h with h|⟨b,off,m,_⟩;exact h;cases m
  subst A1;go_enter func47,ntmps47;go_wp2;go_ret;exact⟨_,rfl,Kc _ _ _ _,Ub _ _⟩
 .have z:Hid (∀j u,(cellsW ss)[j]?=J u->w.cell? (ad.add j)=J u):=by
   rcases h with h|⟨b,off,m,A3,r⟩
   .rw[h];intro j u D;simp[cellsW]at D
   .intro j u D;cases m;rw[qd];exact SegW.news r j u D
  clear h;go_enter func47,ntmps47;go_wp2_with (at_builtin;refine wd _ rfl _ _ 43 rfl w.heap.size 102 L (F #[H G 0,A ⟨#[]⟩]) 2 24 underlying43 O x y A2 rfl (by decide) _ _ _ rfl (De w #[] 0 (Sb _) (Vb _) (by simp)) ad ss.length c (cellsW ss) rfl ?qc1 ?qc2 ?qc3 ?qc4 ?qc5 ?qc6 ?_)
  case qc1=>exact DI ss
  case qc2=>intro j u D;exact Yf _ (z.o j u D)
  case qc3=>exact gI ss
  case qc4=>rw[Dc];exact q
  case qc5=>rw[Dc];exact l
  case qc6=>simp
  intro X I C B E;have s:Hid (I.ownsRow w.heap.size 102 2 X ss.length (cellsW ss)):=by unfold Hid;simpa using C
  have R:Hid (Below w.heap.size w I):=(qA w _).grown B (by simp) (by intro k Q;simp[Value.ownBlock]at Q;omega);clear C B E;go_wp2;go_ret;exact⟨X,rfl,s.o,R.o⟩
def dB (d:Dk)(n:Int)(s:ByteArray):Int:=
 if(cA d&&QA n)=I then(if oA s=I then(if d.wr.length=200 then 11 else 0) else 1) else 2
def kB (d:Dk)(n:Int)(s:ByteArray):Dk:=if dB d n s=0 then⟨d.safe,d.wr++[(n,s)]⟩ else d
theorem JV(v:E)(d:Dk)(n:Int)(s:ByteArray)(w:K)(h:IsDk w v d)(Q:(cA d&&QA n)=O):
  Calls prog 93 #[v,H G n,A s] w λe j=>e=N (S #[v,H G 2])/\Below w.heap.size w j:=by
 have R:Hid (IsDk w v d):=h;obtain⟨a,c,X,i,rfl,_,_,_,_⟩:=h;by_cases hg:cA d=I
 .have hp:QA n=O:=by simpa[hg] using Q
  clear Q;go_enter func93,ntmps93;go_wp2_with fail;refine(mD _ d _ (R.o.below (vA (qA _ _) (qA _ _)))).mono ?_;rintro e B ⟨rfl,L⟩;obtain⟨D,J⟩:=QD L;have k:w.heap.size+1<B.heap.size:=by have:=L.size;simp at this;omega
  go_wp2_with fail;refine(mF _ _).mono ?_;rintro e w2 ⟨rfl,rfl⟩;go_wp2;refine Tb (v:=S #[F #[M a d.safe.length c,M X d.wr.length i],H G 2]) (by simp[results,results93,go_sem,D]) rfl ⟨rfl,?_⟩;have C:Below w.heap.size w B:=vA (vA (qA _ _) (qA _ _)) L;exact(C.setCell (by simp) _).setCell (by simp) _
 .have A0:cA d=O:=by simpa using hg
  clear Q hg;go_enter func93,ntmps93;go_wp2_with fail;refine(mD _ d _ (R.o.below (vA (qA _ _) (qA _ _)))).mono ?_;rintro e B ⟨rfl,L⟩;obtain⟨D,J⟩:=QD L;have k:w.heap.size+1<B.heap.size:=by have:=L.size;simp at this;omega
  go_wp2;refine Tb (v:=S #[F #[M a d.safe.length c,M X d.wr.length i],H G 2]) (by simp[results,results93,go_sem,D]) rfl ⟨rfl,?_⟩;have C:Below w.heap.size w B:=vA (vA (qA _ _) (qA _ _)) L;exact(C.setCell (by simp) _).setCell (by simp) _
theorem vT(v:E)(d:Dk)(n:Int)(s:ByteArray)(w:K)(h:IsDk w v d)(hg:cA d=I)(hp:QA n=I)(hf:oA s=O):
  Calls prog 93 #[v,H G n,A s] w λe Q=>e=N (S #[v,H G 1])/\Below w.heap.size w Q:=by
 have J:Hid (IsDk w v d):=h;obtain⟨a,c,X,i,rfl,_,_,_,_⟩:=h;go_enter func93,ntmps93;go_wp2_with fail;refine(mD _ d _ (J.o.below (vA (qA _ _) (qA _ _)))).mono ?_;rintro e B ⟨rfl,L⟩;obtain⟨D,A1⟩:=QD L;have A0:w.heap.size+1<B.heap.size:=by have:=L.size;simp at this;omega
 go_wp2_with fail;refine(mF _ _).mono ?_;rintro e R ⟨rfl,rfl⟩;go_wp2_with fail;refine(FF _ _).mono ?_;rintro e R ⟨rfl,rfl⟩;go_wp2;refine Tb (v:=S #[F #[M a d.safe.length c,M X d.wr.length i],H G 1]) (by simp[results,results93,go_sem,D]) rfl ⟨rfl,?_⟩;have C:Below w.heap.size w B:=vA (vA (qA _ _) (qA _ _)) L;exact(C.setCell (by simp) _).setCell (by simp) _
theorem dT(v:E)(d:Dk)(n:Int)(s:ByteArray)(w:K)(h:IsDk w v d)(hg:cA d=I)(hp:QA n=I)(hf:oA s=I)(Q:d.wr.length=200):
  Calls prog 93 #[v,H G n,A s] w λe R=>e=N (S #[v,H G 11])/\Below w.heap.size w R:=by
 have j:Hid (IsDk w v d):=h;obtain⟨a,c,X,i,rfl,_,_,_,_⟩:=h;have A1:((d.wr.length:Int)==200)=I:=by rw[Q];rfl
 clear Q;go_enter func93,ntmps93;go_wp2_with fail;refine(mD _ d _ (j.o.below (vA (qA _ _) (qA _ _)))).mono ?_;rintro e B ⟨rfl,L⟩;obtain⟨D,A2⟩:=QD L;have A0:w.heap.size+1<B.heap.size:=by have:=L.size;simp at this;omega
 go_wp2_with fail;refine(mF _ _).mono ?_;rintro e J ⟨rfl,rfl⟩;go_wp2_with fail;refine(FF _ _).mono ?_;rintro e J ⟨rfl,rfl⟩;go_wp2;refine Tb (v:=S #[F #[M a d.safe.length c,M X d.wr.length i],H G 11]) (by simp[results,results93,go_sem,D]) rfl ⟨rfl,?_⟩;have C:Below w.heap.size w B:=vA (vA (qA _ _) (qA _ _)) L;exact(C.setCell (by simp) _).setCell (by simp) _
theorem bU(v:E)(d:Dk)(n:Int)(s:ByteArray)(w:K)(h:IsDk w v d)(hg:cA d=I)(hp:QA n=I)(hf:oA s=I)(hl:¬d.wr.length=200):
  Calls prog 93 #[v,H G n,A s] w λe w'=>∃v2,e=N (S #[v2,H G 0])/\IsDk w' v2 ⟨d.safe,d.wr++[(n,s)]⟩/\Below w.heap.size w w'/\VC w.heap.size v2:=by
 have HI:Hid (IsDk w v d):=h;obtain⟨a,c,x,c',rfl,hS,hW,_,_⟩:=h;have HS:Hid (SegS w a d.safe):=hS;have HW:Hid (SegW w x d.wr):=hW;clear hS hW;have B6:((d.wr.length:Int)==200)=O:=by simp;omega
 have m:=(fD hg).1;have C4:Hid (d.safe.length=37):=m;have B2:=(fD hg).2;clear hl m;obtain⟨i0,hi,A2,A4,A5⟩:=Gc DJ;go_enter func93,ntmps93;go_wp2_with fail;refine(mD _ d _ (HI.o.below (vA (qA _ _) (qA _ _)))).mono ?_;rintro e C1 ⟨rfl,B9⟩;have B4:w.heap.size+1<C1.heap.size:=by have:=B9.size;simp at this;omega
 have z:=xA B9 (b:=w.heap.size) (o:=0) (v:=M a d.safe.length c) (by simp;omega) (by simp[go_sem]);have x1:=xA B9 (b:=w.heap.size) (o:=1) (v:=M x d.wr.length c') (by simp;omega) (by simp[go_sem]);have y0:=xA B9 (b:=w.heap.size+1) (o:=0) (v:=M Z 0 0) (by simp) (by simp[go_sem]);have y1:=xA B9 (b:=w.heap.size+1) (o:=1) (v:=M Z 0 0) (by simp) (by simp[go_sem]);have f0:=bA B9 (b:=w.heap.size+1) (o:=0) (v:=O) (by simp) (by simp[go_sem]);have f1:=bA B9 (b:=w.heap.size+1) (o:=1) (v:=O) (by simp) (by simp[go_sem]);go_wp2_with fail;refine(mF _ _).mono ?_;rintro e w2 ⟨rfl,rfl⟩;go_wp2_with fail;refine(FF _ _).mono ?_;rintro e w2 ⟨rfl,rfl⟩;go_wp2_with fail;have l:Below w.heap.size w C1:=vA (vA (qA _ _) (qA _ _)) B9;refine(mM x c' d.wr _ (HW.o.below l) (by unfold maxLen;omega) (by omega)).mono ?_;rintro e w3 ⟨v3,rfl,C5,R⟩;have U:=R.size;go_wp2_with (at_builtin;refine wd _ rfl _ _ 43 rfl C1.heap.size 102 i0 (F #[H G 0,A ⟨#[]⟩]) 2 24 underlying43 hi A2 A4 A5 rfl (by decide) _ _ _ rfl (C5.alloc _) ⟨w3.heap.size,0,Z⟩ 1 1 (cellsW [(n,s)]) rfl ?qc1 ?qc2 ?qc3 ?qc4 ?qc5 ?qc6 ?_)
 case qc1=>rfl
 case qc2=>
  intro j u C0
  match j,C0 with
  |0,C0=>simp[cellsW]at C0;subst C0;simp[Addr.add]
  |1,C0=>simp[cellsW]at C0;subst C0;simp[Addr.add]
 case qc3=>exact gI _
 case qc4=>unfold maxLen;omega
 case qc5=>omega
 case qc6=>simp;omega
 intro v4 q D C8 C9;have C:Below C1.heap.size C1 q:=(R.alloc U _).grown C8 (by simp;omega) (λk hk=>(C5.lt k hk).1);rw[<-OO]at D;obtain⟨L,c4,A3,Y,X⟩:=SegW.of_owns D;have A9:Hid (SegW q L (d.wr++[(n,s)])):=Y;have C3:Hid (∀b off,L=J ⟨b,off,Z⟩->C1.heap.size<=b):=X;clear D C8 C9 C5 R U Y X;subst A3;have B3:=C.size;have A7:=xA C (by omega) z;go_wp2_with fail;have C6:=vA l C;refine(dO a c d.safe _ (HS.o.below C6) (by rw[C4.o];decide) (by rw[C4.o];decide)).mono ?_;rintro e r ⟨v6,rfl,C7,B⟩;obtain⟨C2,y,B1,i,p⟩:=SegS.of_owns C7;have A6:Hid (SegS r C2 d.safe):=i;have Q:Hid (∀b off,C2=J ⟨b,off,Z⟩->q.heap.size<=b):=p;have B0:Hid (SegW r L (d.wr++[(n,s)])):=A9.o.below B;have A0:Hid (Below w.heap.size w r):=vA C6 B;have B5:=B.size;have A1:=xA B (by omega) (xA C (by omega) y0);have A8:=xA B (by omega) (xA C (by omega) y1);have B8:=bA B (by omega) (bA C (by omega) f0);have B7:=bA B (by omega) (bA C (by omega) f1);clear C7 i p z x1 A7 y0 y1 f0 f1;subst B1;go_wp2;refine Tb (v:=S #[F #[M C2 d.safe.length y,M L (d.wr.length+1) c4],H G 0]) (by simp[results,results93,go_sem,A1,A8]) rfl ⟨_,rfl,⟨C2,y,L,c4,by simp,?_,?_,?_,?_⟩,?_,⟨C2,_,y,L,_,c4,rfl,λb off e=>by have:=Q.o b off e;omega,λb off e=>by have:=C3.o b off e;omega⟩⟩
 .exact(A6.o.setCell Q.o (by simp;omega) _).setCell Q.o (by simp;omega) _
 .exact(B0.o.setCell C3.o (by simp;omega) _).setCell C3.o (by simp;omega) _
 .show d.safe.length<=maxLen;rw[C4.o];decide
 .show(d.wr++[(n,s)]).length<=maxLen;simp[maxLen];omega
 .exact(A0.o.setCell (by simp) _).setCell (by simp) _
theorem aZ(v:E)(d:Dk)(n:Int)(s:ByteArray)(w:K)(h:IsDk w v d):
  Calls prog 93 #[v,H G n,A s] w λe R=>∃Q,e=N (S #[Q,H G (dB d n s)])/\IsDk R Q (kB d n s)/\(dB d n s≠0->Q=v)/\Below w.heap.size w R/\(Q=v\/VC w.heap.size Q):=by
 have back:∀k:Int,dB d n s=k->k≠0->Calls prog 93 #[v,H G n,A s] w (λe R=>e=N (S #[v,H G k])/\Below w.heap.size w R)->
   Calls prog 93 #[v,H G n,A s] w λe R=>∃Q,e=N (S #[Q,H G (dB d n s)])/\IsDk R Q (kB d n s)/\(dB d n s≠0->Q=v)/\Below w.heap.size w R/\(Q=v\/VC w.heap.size Q):=by
  intro k F L j;have C:kB d n s=d:=by rw[kB,Qb (by rw[F];exact L)]
  rw[F,C];exact j.mono λe R X=>⟨v,X.1,h.below X.2,λ_=>rfl,X.2,.inl rfl⟩
 cases hgp:(cA d&&QA n) with
 |false=>exact back 2 (by simp only[dB,hgp];rfl) (by decide) (JV v d n s w h hgp)
 |true=>
  have D:cA d=I:=by simp at hgp;exact hgp.1
  have B:QA n=I:=by simp at hgp;exact hgp.2
  cases hf:oA s with
  |false=>exact back 1 (by simp only[dB,hgp,hf];rfl) (by decide) (vT v d n s w h D B hf)
  |true=>
   by_cases hl:d.wr.length=200
   .exact back 11 (by simp only[dB,hgp,hf,hl];rfl) (by decide) (dT v d n s w h D B hf hl)
   .have a:dB d n s=0:=by simp[dB,hgp,hf,hl]
    have C:kB d n s=⟨d.safe,d.wr++[(n,s)]⟩:=by rw[kB,Rb a]
    rw[a,C]
    exact(bU v d n s w h D B hf hl).mono λe R X=>by
     obtain⟨Q,i,c,M,J⟩:=X;exact⟨Q,i,c,λh=>absurd rfl h,M,.inr J⟩
def SB (n:Int):List (Int×ByteArray)->List ByteArray
 |[]=>[]
 |x::r=>if x.1=n then x.2::SB n r else SB n r
def xB (d:Dk)(n k:Nat):List ByteArray:=d.safe.getD n U::SB n (d.wr.take k)
def ways (d:Dk)(n:Nat):List ByteArray:=d.safe.getD n U::SB n d.wr
theorem TJ(n:Int)(l:List (Int×ByteArray))(x:Int×ByteArray):SB n (l++[x])=if x.1=n then SB n l++[x.2] else SB n l:=by
 induction l with
 |nil=>simp[SB]
 |cons y r ih=>by_cases h:y.1=n<;>by_cases h':x.1=n<;>simp[SB,h,h']<;>simpa[h'] using ih
theorem BX(n:Int)(l:List (Int×ByteArray)):(SB n l).length<=l.length:=by
 induction l with
 |nil=>simp[SB]
 |cons y r ih=>by_cases h:y.1=n<;>simp[SB,h]<;>omega
theorem ZQ(d:Dk)(n k:Nat)(x:Int×ByteArray)(h:d.wr[k]?=J x)(B:x.1=n):xB d n (k+1)=xB d n k++[x.2]:=by
 rw[xB,Oc,h];simp only[Option.toList_some];rw[TJ,Rb B];rfl
theorem RN(d:Dk)(n k:Nat)(x:Int×ByteArray)(h:d.wr[k]?=J x)(B:¬x.1=n):xB d n (k+1)=xB d n k:=by
 rw[xB,Oc,h];simp only[Option.toList_some];rw[TJ,Qb B];rfl
theorem oG(d:Dk)(n k:Nat)(h:d.wr.length<=200):1<=(xB d n k).length/\(xB d n k).length<=201:=by
 have:=BX n (d.wr.take k);have h2:(d.wr.take k).length<=d.wr.length:=by rw[Nc];omega
 simp only[xB,List.length_cons];omega
open Go.Proofs.Tryz
theorem ZH(n:Int)(w:K):
  Calls prog 87 #[H G n] w λe B=>e=N (Y (QA n))/\w=B:=by
 by_cases h0:0<=n<;>by_cases h1:n<=36
 all_goals
  go_enter func87,ntmps87;go_wp2;go_ret;refine⟨?_,rfl⟩;have e1:decide (0<=n)=decide (0<=n):=rfl
  have e:QA n=(decide (0<=n)&&decide (n<=36)):=by
   rw[QA]
   congr 1
   exact decide_eq_decide.2 (by omega)
  rw[e];simp[h0,h1]
theorem DZ(a:Option Addr)(c:Nat)(z:Option Addr)(c':Nat)(d:Dk)(w:K)(hS:SegS w a d.safe)(hW:SegW w z d.wr)(hn:d.safe.length<=maxLen)(hm:d.wr.length<=maxLen):
  Calls prog 78 #[F #[M a d.safe.length c,M z d.wr.length c']] w λe y=>e=N (Y (cA d))/\Below w.heap.size w y:=by
 unfold maxLen at hn hm;have r:=zA hS;have u:=zA hW;clear hS hW;go_enter func78,ntmps78;go_wp2
 go_loop [10] (λi=>∃k:Nat,k<=d.safe.length/\i=H G k/\Hid ((d.safe.take k).all oA=I)) (λi=>d.safe.length - (intOf i).toNat)
 case atStart=>exact⟨0,Vb _,rfl,by simp[Hid]⟩
 case round=>
  obtain⟨k,hk,rfl,A⟩:=hrel;by_cases hlt:k<d.safe.length
  .obtain⟨b,A3,rfl,hb,l⟩:=r.o.resolve_left (by intro e;rw[e]at hlt;simp at hlt);obtain⟨s,A7⟩:∃s,s=d.safe.getD k U:=⟨_,rfl⟩;have h:=l k hlt;have E:Hid (d.safe[k]?=J s):=by rw[A7];exact xE _ _ _ hlt
   rw[<-A7]at h;clear A7 l;have A1:(k:Int)<(d.safe.length:Int):=by omega
   by_cases hf:oA s=I
   .have L:((s.size:Int) !=32)=O:=by simp only[oA]at hf;simp only[bne,hf];rfl
    have R:=zA hf;clear hf;go_wp2
    go_round
    case rel=>exact⟨k+1,by omega,by go_num,CI _ _ _ _ E.o A R.o⟩
    case measure=>simp[intOf];omega
   .have D:oA s=O:=by simpa using hf
    have L:((s.size:Int) !=32)=I:=by simp only[oA]at D;simp only[bne,D];rfl
    have R:=zA D;clear hf D;go_wp2;go_ret;exact⟨by rw[cA,NH _ _ _ _ E.o R.o];simp,(Ub _ _).alloc (Sb _) _⟩
  .have p:Hid (d.safe.all oA=I):=by
    have e:k=d.safe.length:=by omega
    have:=A.o;rw[e,Lc]at this;exact this
   clear A;go_wp2
   go_loopw [21] (λi wr=>∃k:Nat,k<=d.wr.length/\i=H G k/\Hid ((d.wr.take k).all wrB=I)/\wr.cell? ⟨w.heap.size,0,Z⟩=J (M a d.safe.length c)/\wr.cell? ⟨w.heap.size,1,Z⟩=J (M z d.wr.length c')/\w.heap.size<wr.heap.size/\Below w.heap.size w wr) (λi _=>d.wr.length - (intOf i).toNat)
   case atStart=>exact⟨0,Vb _,rfl,by simp[Hid],by simp[go_sem],by simp[go_sem],by simp,(Ub _ _).alloc (Sb _) _⟩
   case round=>
    obtain⟨j,hj,rfl,A,B2,B3,A9,B⟩:=hrel;by_cases hlj:j<d.wr.length
    .obtain⟨b',A0,rfl,Q,B1⟩:=u.o.resolve_left (by intro e;rw[e]at hlj;simp at hlj);obtain⟨x,X⟩:∃x,x=d.wr.getD j (0,U):=⟨_,rfl⟩;obtain⟨A4,A5⟩:=B1 j hlj;rw[<-X]at A4 A5;have E:Hid (d.wr[j]?=J x):=by rw[X];exact xE _ _ _ hlj
     clear X B1;have g1:=xA B Q A4;have g2:=xA B Q A5;clear A4 A5;obtain⟨n,s⟩:=x;have A2:(j:Int)<(d.wr.length:Int):=by omega
     cases hf:oA s with
     |false=>
      have L:((s.size:Int) !=32)=I:=by simp only[oA]at hf;simp only[bne,hf];rfl
      have C:wrB (n,s)=O:=by simp[wrB,hf]
      have A8:=zA C;clear hf C;go_wp2;go_ret;exact⟨by rw[cA,NH _ _ _ _ E.o A8.o];simp,B.alloc (by omega) _⟩
     |true=>
      have L:((s.size:Int) !=32)=O:=by simp only[oA]at hf;simp only[bne,hf];rfl
      cases hp:QA n with
      |false=>
       have C:wrB (n,s)=O:=by simp[wrB,hp]
       have A8:=zA C;clear hf C;go_wp2_with (go_at_call 87;refine(ZH _ _).mono ?_;rintro e y ⟨rfl,rfl⟩);go_ret;exact⟨by rw[cA,NH _ _ _ _ E.o A8.o];simp,B.alloc (by omega) _⟩
      |true=>
       have B0:wrB (n,s)=I:=by simp[wrB,hp,hf]
       have q:=zA B0;clear hf B0;go_wp2_with (go_at_call 87;refine(ZH _ _).mono ?_;rintro e y ⟨rfl,rfl⟩)
       go_roundw
       case rel=>
        refine⟨j+1,by omega,by go_num,CI _ _ _ _ E.o A q.o,?_,?_,by simp;omega,B.alloc (by omega) _⟩
        .exact xA (qA _ _) A9 B2
        .exact xA (qA _ _) A9 B3
       case measure=>simp[intOf];omega
    .have m:Hid (d.wr.all wrB=I):=by
      have e:j=d.wr.length:=by omega
      have:=A.o;rw[e,Lc]at this;exact this
     clear A;by_cases h37:d.safe.length=37
     .have S:((d.safe.length:Int)==37)=I:=by simp;omega
      have A6:=zA h37;clear h37;go_wp2;go_ret;refine⟨?_,B⟩;rw[cA,p.o,m.o,A6.o];simp;omega
     .have S:((d.safe.length:Int)==37)=O:=by simp;omega
      have A6:=zA h37;clear h37;go_wp2;go_ret;refine⟨?_,B⟩;rw[cA];simp[A6.o]
theorem ZE(v:E)(d:Dk)(w:K)(h:IsDk w v d):
  Calls prog 78 #[v] w λe L=>e=N (Y (cA d))/\Below w.heap.size w L:=by
 obtain⟨a,c,C,D,rfl,F,A,Q,B⟩:=h;exact DZ a c C D d w F A Q B
theorem QY(b off c:Nat)(a':Option Addr)(c':Nat)(d:Dk)(n:Nat)(w:K)(hn:d.safe.length=37)(hp:n<37)(hm:d.wr.length<=200)(hb:b<w.heap.size)
  (hc:∀i,i<d.safe.length->w.cell? ⟨b,off+i,Z⟩=J (A (d.safe.getD i U))) (hw:SegW w a' d.wr):
  Calls prog 79 #[F #[M (J ⟨b,off,Z⟩) 37 c,M a' d.wr.length c'],H G n] w λe w'=>∃v',e=N v'/\w'.ownsRow w.heap.size 9 1 v' (ways d n).length (cellsS (ways d n))/\Below w.heap.size w w':=by
 have HW:=zA hw;obtain⟨z,Q⟩:∃z,z=d.safe.getD n U:=⟨_,rfl⟩;have X:=hc n (by omega);rw[<-Q]at X;have A1:(n:Int)<37:=by omega
 have y:Hid (xB d n 0=[z]):=by rw[Q];rfl
 clear hn hw hc Q;obtain⟨i0,hi,B1,A9,l⟩:=Gc XF;go_enter func79,ntmps79;go_wp2
 go_loopw [5,17] (λv i wr=>∃k:Nat,k<=d.wr.length/\i=H G k/\Hid (wr.ownsRow w.heap.size 9 1 v (xB d n k).length (cellsS (xB d n k)))/\Below w.heap.size w wr) (λ_ i _=>d.wr.length - (intOf i).toNat)
 case atStart=>
  refine⟨0,Vb _,rfl,?_,vA (qA _ _) (qA _ _)⟩;rw[y.o];have h:=Rf (e:=9) (size:=1) (w.alloc (T #[M (J ⟨b,off,Z⟩) 37 c,M a' d.wr.length c'] 45)) #[A z] 1 (qA w _).size (by decide) rfl;unfold Hid
  simpa[cellsS] using h
 case round=>
  obtain⟨k,Y,rfl,A2,C⟩:=hrel;have A6:=C.size;by_cases hlt:k<d.wr.length
  .obtain⟨b',A0,rfl,A8,L⟩:=HW.o.resolve_left (by intro e;rw[e]at hlt;simp at hlt);obtain⟨x,S⟩:∃x,x=d.wr.getD k (0,U):=⟨_,rfl⟩;obtain⟨A5,E⟩:=L k hlt;rw[<-S]at A5 E;have q:Hid (d.wr[k]?=J x):=by rw[S];exact xE _ _ _ hlt
   clear S L;have g1:=xA C A8 A5;have g2:=xA C A8 E;clear A5 E;have hl:=oG d n k hm;obtain⟨m,s⟩:=x;by_cases he:m=n
   .have a:(m==(n:Int))=I:=by rw[he];simp
    have A3:Hid (xB d n (k+1)=xB d n k++[s]):=ZQ d n k (m,s) q.o he;clear he;go_wp2_with (at_builtin;refine wd _ rfl _ _ 42 rfl w.heap.size 9 i0 (A ⟨#[]⟩) 1 16 underlying42 hi B1 A9 l rfl (by decide) _ _ _ rfl ((A2.o.alloc _).alloc _) ⟨wr.heap.size+1,0,Z⟩ 1 1 (cellsS [s]) rfl ?qc1 ?qc2 ?qc3 ?qc4 ?qc5 ?qc6 ?_)
    case qc1=>rfl
    case qc2=>
     intro j u A4
     match j,A4 with
     |0,A4=>simp[cellsS]at A4;subst A4;simp[go_sem]
    case qc3=>exact JH
    case qc4=>unfold maxLen;omega
    case qc5=>omega
    case qc6=>omega
    intro v4 r B D _;have p:Below w.heap.size w r:=((C.alloc A6 _).alloc (by simp;omega) _).grown D (by simp;omega) (λk Y=>(A2.o.lt k Y).1);rw[<-lI,<-A3.o]at B;have B0:(xB d n k).length+1=(xB d n (k+1)).length:=by rw[A3.o];simp
    rw[B0]at B;have R:=zA B;clear B D A2 C;go_wp2
    go_roundw
    case rel=>exact⟨k+1,by omega,by go_num,R,p⟩
    case measure=>simp[intOf];omega
   .have a:(m==(n:Int))=O:=by simpa using he
    have A3:Hid (xB d n (k+1)=xB d n k):=RN d n k (m,s) q.o he;have R:=zA (A2.o.alloc (T #[H G m,A s] 102));clear he A2;go_wp2
    go_roundw
    case rel=>exact⟨k+1,by omega,by go_num,by rw[A3.o];exact R,C.alloc A6 _⟩
    case measure=>simp[intOf];omega
  .have e:k=d.wr.length:=by omega
   have A7:xB d n k=ways d n:=by rw[e,xB,Lc];rfl
   rw[A7]at A2;clear A7 e;go_wp2;go_ret;exact⟨_,rfl,A2.o,C⟩
theorem IK(v:E)(d:Dk)(n:Nat)(w:K)(h:IsDk w v d)(L:d.safe.length=37)(X:n<37)(i:d.wr.length<=200):
  Calls prog 79 #[v,H G n] w λe Q=>∃R,e=N R/\Q.ownsRow w.heap.size 9 1 R (ways d n).length (cellsS (ways d n))/\Below w.heap.size w Q:=by
 obtain⟨a,c,C,D,rfl,j,B,h1,h2⟩:=h;obtain⟨b,A,rfl,hb,F⟩:=j.resolve_left (by intro e;rw[e]at L;simp at L);have:=QY b A c C D d n w L X i hb F B;rw[<-L]at this;exact this
theorem pU(n:Int)(z:ByteArray)(l:List (Int×ByteArray)):(z::SB n l).getD (SB n l).length U=fC n z l:=by
 induction l generalizing z with
 |nil=>rfl
 |cons x r ih=>
  by_cases h:x.1=n
  .simp only[SB,fC,if_pos h,List.length_cons];exact ih x.2
  .simp only[SB,fC,if_neg h];exact ih z
theorem LN(d:Dk)(n:Nat):(ways d n).getD ((ways d n).length - 1) U=rB d n:=by
 have:=pU n (d.safe.getD n U) d.wr;rw[ways,Td,Cg,this,rB,pd]
theorem OK(v:E)(d:Dk)(n:Int)(w:K)(h:IsDk w v d):
  Calls prog 41 #[v,H G n] w λe s=>e=N (S #[A (jA d n),H G (readE d n)])/\Below w.heap.size w s:=by
 have l:Hid (IsDk w v d):=h;obtain⟨a,c,a',c',rfl,_,_,_,_⟩:=h;by_cases hg:cA d=I
 .by_cases hp:QA n=I
  .have B:Hid (jA d n=rB d n/\readE d n=0):=by simp[Hid,jA,readE,hg,hp]
   obtain⟨k,rfl,Z⟩:=iM hp;go_enter func41,ntmps41;go_wp2_with fail;refine(ZE _ d _ (l.o.below (qA _ _))).mono ?_;rintro e C ⟨rfl,i⟩;obtain⟨X,u⟩:=QD i;have A2:w.heap.size<C.heap.size:=by have:=i.size;simp at this;omega
   go_wp2_with fail;refine(ZH _ _).mono ?_;rintro e b ⟨rfl,rfl⟩;go_wp2_with fail;have J:=vA (qA _ _) i;refine(IK _ d k _ (l.o.below J) (fD hg).1 Z (fD hg).2).mono ?_;rintro e Y ⟨v3,rfl,D,Q⟩;have j:Hid (Below w.heap.size w Y):=vA J Q;obtain⟨a3,c3,m,r,_⟩:=SegS.of_owns D
   have p:1<=(ways d k).length/\(ways d k).length<=201:=by
    have:=oG d k d.wr.length (fD hg).2;rw[xB,Lc]at this;exact this
   obtain⟨b3,o3,M,_,R⟩:=r.resolve_left (by intro e;rw[e]at p;simp at p);have F:=R ((ways d k).length - 1) (by omega);rw[LN]at F;obtain⟨L,q⟩:∃L,(ways d k).length=L+1:=⟨(ways d k).length - 1,by omega⟩;rw[q]at m p F;rw[Cg]at F;rw[m,M];clear i J Q X u D r R m M q;go_wp2
   go_ret2
   exact⟨by rw[B.o.1,B.o.2];rfl,j.o⟩
  .have B:Hid (jA d n=U/\readE d n=2):=by simp[Hid,jA,readE,hp]
   have A1:QA n=O:=by simpa using hp
   clear hp;go_enter func41,ntmps41;go_wp2_with fail;refine(ZE _ d _ (l.o.below (qA _ _))).mono ?_;rintro e C ⟨rfl,i⟩;go_wp2_with fail;refine(ZH _ _).mono ?_;rintro e b ⟨rfl,rfl⟩;have j:Hid (Below w.heap.size w C):=vA (qA _ _) i;clear i;go_wp2
   go_ret2
   exact⟨by rw[B.o.1,B.o.2];rfl,j.o⟩
 .have B:Hid (jA d n=U/\readE d n=2):=by simp[Hid,jA,readE,hg]
  have A0:cA d=O:=by simpa using hg
  clear hg;go_enter func41,ntmps41;go_wp2_with fail;refine(ZE _ d _ (l.o.below (qA _ _))).mono ?_;rintro e C ⟨rfl,i⟩;have j:Hid (Below w.heap.size w C):=vA (qA _ _) i;clear i;go_wp2
  go_ret2
  exact⟨by rw[B.o.1,B.o.2];rfl,j.o⟩
