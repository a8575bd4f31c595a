import Derived.Test.YtjnpndfpajjihadGreatGrJournalRuns5
import Derived.Test.YtjnpndfpajjihadGreatGrJournalRuns2
set_option maxRecDepth 100000
set_option maxHeartbeats 40000000
namespace Go.Proofs.YtjnpndfpajjihadGreat
open Go.Proofs.Tryz
open Go.RowKit
open Value renaming int -> H,slice -> M,string -> A,agg -> F,tuple -> S
open IntKind renaming i64 -> G
open Option renaming none -> Z,some -> J
open Bool renaming false -> O,true -> I
open Go renaming World -> K,Value -> E
open Obj renaming cells -> T
open Ending renaming returned -> N
variable{Q:Exit->Act->World->Prop}{a:Option Addr}{o:Oper}{ops:Array Oper}{p:Addr}{ss:List ByteArray}{w:World}
theorem DX{a:Act}{r:Act->K->Prop}{E:Prop}(m:o.guard=Z)(s x:Operand)
  (z:o.op=.call {callee:=.builtin .append,args:=#[s,x],argTypes:=#[42,42]})
  (hs:a.eval s=M Z 0 0) (l:Option Addr) (c:Nat) (ss:List ByteArray) (hx:a.eval x=M l ss.length c) (q:SegS w l ss) (n:ss.length<=maxLen) (k:ss.length*16<=140737488355328)
  (h:∀i c2 X,Hid (SegS X i ss/\∀b R,i=J ⟨b,R,Z⟩->w.heap.size<=b/\b<X.heap.size)->Below w.heap.size w X->r (a.put o.dst (M i ss.length c2)) X):
  if Region.wanted o (yielded ops a.tmps)=I then Oper.wp prog o a w r Q else E:=by
 obtain⟨A1,A0,F,A2,D⟩:=Gc XF;refine vJ m s x 42 z 9 A1 (A ⟨#[]⟩) 1 16 underlying42 A0 F A2 D rfl (by decide) hs l ss.length c (cellsS ss) hx (UI ss) ?_ ?_ JH n k ?_
 .intro B;rcases q with h|⟨b,R,d,_⟩
  .rw[h];rfl
  .rw[B]at d;cases d
 .intro ad B j u C;rcases q with h|⟨b,R,d,A3,hc⟩
  .rw[h]at C;simp[cellsS]at C
  .rw[B]at d;cases d;rw[qd];exact SegS.news hc j u C
 .intro v' X y hb;obtain⟨i,c2,rfl,L,_⟩:=SegS.of_owns y;exact h i c2 X ⟨L,λb R e=>y.lt b (by rw[e];rfl)⟩ hb
theorem XW{a:Act}{q:Act->K->Prop}{E:Prop}(k:o.guard=Z)(s x:Operand)
  (y:o.op=.call {callee:=.builtin .append,args:=#[s,x],argTypes:=#[43,43]})
  (z:a.eval s=M Z 0 0) (i:Option Addr) (c:Nat) (ss:List (Int×ByteArray)) (hx:a.eval x=M i ss.length c) (n:SegW w i ss) (l:ss.length<=maxLen) (d:ss.length*24<=140737488355328)
  (h:∀e c2 R,Hid (R.ownsRow w.heap.size 102 2 (M e ss.length c2) ss.length (cellsW ss))->Below w.heap.size w R->q (a.put o.dst (M e ss.length c2)) R):
  if Region.wanted o (yielded ops a.tmps)=I then Oper.wp prog o a w q Q else E:=by
 obtain⟨J,L,A1,A0,D⟩:=Gc DJ;refine vJ k s x 43 y 102 J (F #[H G 0,A ⟨#[]⟩]) 2 24 underlying43 L A1 A0 D rfl (by decide) z i ss.length c (cellsW ss) hx (DI ss) ?_ ?_ (gI ss) l d ?_
 .intro B;rcases n with h|⟨b,m,X,_⟩
  .rw[h];rfl
  .rw[B]at X;cases X
 .intro ad B j u C;rcases n with h|⟨b,m,X,A2,hc⟩
  .rw[h]at C;simp[cellsW]at C
  .rw[B]at X;cases X;rw[qd];exact SegW.news hc j u C
 .intro v' R r hb;obtain⟨e,c2,rfl,h2,h3⟩:=SegW.of_owns r;exact h e c2 R r hb
theorem XR(v:E)(d:Dk)(w:K)(h:IsDk w v d)(s:d.safe.length*16<=140737488355328)(u:d.wr.length*24<=140737488355328):
  Calls prog 122 #[v] w λe q=>∃m c2 n c3 B,e=N (F #[M m d.safe.length c2,M n d.wr.length c3])/\SegS q m d.safe/\(∀b l,m=J ⟨b,l,Z⟩->w.heap.size<=b/\b<B)/\
   q.ownsRow B 102 2 (M n d.wr.length c3) d.wr.length (cellsW d.wr)/\w.heap.size<=B/\B<=q.heap.size/\Below w.heap.size w q:=by
 obtain⟨a,c,L,I,rfl,z,x,A1,j⟩:=h;have X:=zA z;have Y:=zA x;clear z x;go_enter func122,ntmps122;go_wp2
 go_region_law (first|(refine DX rfl _ (.tmp 4) rfl (by simp[Act.eval]) a c d.safe (by simp[Act.eval]) (X.o.below (vA (qA _ _) (qA _ _)).drew) A1 s ?_;intro m c2 y D A;have A0:w.heap.size+1<y.heap.size:=(by have:=A.size;simp at this;omega);have x1:=xA A (b:=w.heap.size) (o:=1) (v:=M L d.wr.length I) (by simp;omega) (by simp[go_sem]);have i:=xA A (b:=w.heap.size+1) (o:=0) (v:=M Z 0 0) (by simp) (by simp[go_sem]);have Q:=xA A (b:=w.heap.size+1) (o:=1) (v:=M Z 0 0) (by simp) (by simp[go_sem]);have R:=bA A (b:=w.heap.size+1) (o:=0) (v:=O) (by simp) (by simp[go_sem]);have f1:=bA A (b:=w.heap.size+1) (o:=1) (v:=O) (by simp) (by simp[go_sem]))|(refine XW rfl _ (.tmp 7) rfl (by simp[Act.eval]) L I d.wr (by simp[Act.eval]) (Y.o.below (vA (vA (qA _ _) (qA _ _)).drew A)) j u ?_;intro n c3 w3 A3 C;have k:=xA C (by omega) i;have S:=xA C (by omega) Q;have f2:=bA C (by omega) R;have f3:=bA C (by omega) f1))
 all_goals
  have A4:=C.size;have U:=zA (vA (vA (vA (qA _ _) (qA _ _)).drew A) C);have A2:=zA (D.o.1.below C);have r:=zA D.o.2;clear A D;go_wp2;refine Tb (v:=F #[M m d.safe.length c2,M n d.wr.length c3]) (by simp[results,results122,go_sem,k,S]) rfl ⟨m,c2,n,c3,y.heap.size,rfl,?_,?_,?_,by omega,by simp[World.setCell];exact A4,?_⟩
  .exact(A2.o.setCell (λb l e=>(r.o b l e).1) (by simp) _).setCell (λb l e=>(r.o b l e).1) (by simp) _
  .intro b l e;have:=r.o b l e;simp at this;omega
  .exact Jc (Jc A3.o (by simp;omega) _) (by simp;omega) _
  .exact(U.o.setCell (by simp) _).setCell (by simp) _
theorem SegS.grown{w':K}{n m:Obj}{row:Option Nat}{B d H:Nat}(h:SegS w a ss)(X:((w.alloc n).alloc m).grownBy w' row)(L:∀k,row=J k->B<=k/\k<H)
  (j:∀b D,a=J ⟨b,D,Z⟩->d<=b/\b<B):SegS w' a ss:=by
 rcases h with h|⟨b,D,rfl,R,l⟩
 .exact .inl h
 .have A0:=j b D rfl;have C:=X.size;simp at C;refine .inr ⟨b,D,rfl,by omega,λi c=>?_⟩;have A:J b≠row:=by intro e;have:=L b e.symm;omega
  refine X.cell (a:=⟨b,D+i,Z⟩) ?_ A;exact xA (qA _ _) (by simp;omega) (xA (qA _ _) R (l i c))
theorem SegS.setNe(h:SegS w a ss)(hb:∀b B,a=J ⟨b,B,Z⟩->b≠p.block)(u:E):SegS (w.setCell p u) a ss:=by
 rcases h with h|⟨b,B,rfl,D,L⟩
 .exact .inl h
 .have:=hb b B rfl;exact .inr ⟨b,B,rfl,by simpa[World.setCell] using D,λi R=>(Cd (w:=w) (a:=⟨b,B+i,Z⟩) (Sc _ _ _ _ this)).trans (L i R)⟩
theorem SegW.setNeR{L:List (Int×ByteArray)}(h:SegW w a L)(hb:∀b B,a=J ⟨b,B,Z⟩->b≠p.block)(u:E):SegW (w.setCell p u) a L:=by
 rcases h with h|⟨b,B,rfl,D,R⟩
 .exact .inl h
 .have:=hb b B rfl
  exact .inr ⟨b,B,rfl,by simpa[World.setCell] using D,λi X=>
   ⟨(Cd (w:=w) (a:=⟨b,B+i*2,Z⟩) (Sc _ _ _ _ this)).trans (R i X).1,
     (Cd (w:=w) (a:=⟨b,B+i*2+1,Z⟩) (Sc _ _ _ _ this)).trans (R i X).2⟩⟩
theorem kS(v:E)(d:Dk)(n:Int)(s:ByteArray)(w:K)(h:IsDk w v d)(hg:cA d=I)(hp:QA n=I)(hf:oA s=I)(hl:¬d.wr.length=200):
  Calls prog 75 #[v,H G n,A s] w λe w'=>∃v2,e=N (S #[v2,H G 0])/\IsDk w' v2 ⟨d.safe,d.wr++[(n,s)]⟩/\Below w.heap.size w w'/\VC w.heap.size v2:=by
 have B5:((s.size:Int) !=32)=O:=by simp only[oA]at hf;simp only[bne,hf];rfl
 clear hf;have HI:Hid (IsDk w v d):=h;obtain⟨a,c,a',c',rfl,_,_,_,_⟩:=h;have B4:((d.wr.length:Int)==200)=O:=by simp;omega
 have r:=zA (fD hg).1;have A9:=(fD hg).2;clear hl;obtain⟨i0,hi,A3,A5,A6⟩:=Gc DJ;go_enter func75,ntmps75;go_wp2_with fail;refine(ZE _ d _ (HI.o.below (vA (qA _ _) (qA _ _)))).mono ?_;rintro e C2 ⟨rfl,D⟩;have B2:w.heap.size+1<C2.heap.size:=by have:=D.size;simp at this;omega
 have x0:=xA D (b:=w.heap.size) (o:=0) (v:=M a d.safe.length c) (by simp;omega) (by simp[go_sem]);have x1:=xA D (b:=w.heap.size) (o:=1) (v:=M a' d.wr.length c') (by simp;omega) (by simp[go_sem]);have y0:=xA D (b:=w.heap.size+1) (o:=0) (v:=M Z 0 0) (by simp) (by simp[go_sem]);have y1:=xA D (b:=w.heap.size+1) (o:=1) (v:=M Z 0 0) (by simp) (by simp[go_sem]);have f0:=bA D (b:=w.heap.size+1) (o:=0) (v:=O) (by simp) (by simp[go_sem]);have f1:=bA D (b:=w.heap.size+1) (o:=1) (v:=O) (by simp) (by simp[go_sem]);go_wp2_with fail;refine(ZH _ _).mono ?_;rintro e w2 ⟨rfl,rfl⟩;go_wp2_with fail;have X:Below w.heap.size w C2:=vA (vA (qA _ _) (qA _ _)) D;refine(XR _ d _ (HI.o.below X) (by rw[r.o];decide) (by omega)).mono ?_;rintro e B7 ⟨C1,c2,a3,c3,B,rfl,A0,z,Q,B0,B3,Y⟩;have y:=zA A0;have C5:=zA z;have C7:=zA Q;have A2:=Y.size;clear x0 x1 A0 Q z;go_wp2_with (at_builtin;refine wd _ rfl _ _ 43 rfl B 102 i0 (F #[H G 0,A ⟨#[]⟩]) 2 24 underlying43 hi A3 A5 A6 rfl (by decide) _ _ _ rfl ((C7.o.alloc _).alloc _) ⟨B7.heap.size+1,0,Z⟩ 1 1 (cellsW [(n,s)]) rfl ?qc1 ?qc2 ?qc3 ?qc4 ?qc5 ?qc6 ?_)
 case qc1=>rfl
 case qc2=>
  intro j u B9
  match j,B9 with
  |0,B9=>simp[cellsW]at B9;subst B9;simp[go_sem]
  |1,B9=>simp[cellsW]at B9;subst B9;simp[go_sem]
 case qc3=>exact gI _
 case qc4=>unfold maxLen;omega
 case qc5=>omega
 case qc6=>simp;omega
 intro v4 C4 C6 B8 _;have C:∀k,(M a3 d.wr.length c3).ownBlock=J k->B<=k/\k<B7.heap.size:=λk hk=>C7.o.lt k hk;have C0:Below C2.heap.size C2 C4:=((Y.alloc A2 _).alloc (by simp;omega) _).grown B8 (by simp;omega) (λk hk=>by have:=C k hk;omega);have o0:=B8.cell (a:=⟨B7.heap.size,0,Z⟩) (v:=M C1 d.safe.length c2) (by simp[go_sem]) (by intro e;have:=C _ e.symm;simp at this);have o1:=B8.cell (a:=⟨B7.heap.size,1,Z⟩) (v:=M a3 d.wr.length c3) (by simp[go_sem]) (by intro e;have:=C _ e.symm;simp at this);have fo:C4.frozen? ⟨B7.heap.size,1,Z⟩=O:=(World.frozen?_of_block (B8.block B7.heap.size (by simp;omega) (by intro e;have:=C _ e.symm;simp at this))).trans (by simp[go_sem]);have A1:=zA (SegS.grown y.o B8 C C5.o)
 have R:C4.heap[B7.heap.size]?=J (T #[M C1 d.safe.length c2,M a3 d.wr.length c3] 45 (0,0)):=by
  rw[B8.block B7.heap.size (by simp;omega) (by intro e;have:=C _ e.symm;simp at this)];rw[kd _ _ _ (by simp)];exact Cc B7 _
 have L:=aW C6 R (by decide);rw[<-OO]at C6;obtain⟨U,c4,i,q,m⟩:=SegW.of_owns C6;have A7:=zA q;have l:=zA m;rw[i]at L;have A4:Hid (∀b B6,U=J ⟨b,B6,Z⟩->b≠B7.heap.size):=λb B6 e=>L b (by rw[e];rfl);have B1:B7.heap.size+1<C4.heap.size:=by have:=B8.size;simp at this;omega
 have y2:=xA C0 (by omega) y0;have y3:=xA C0 (by omega) y1;have f2:=bA C0 (by omega) f0;have f3:=bA C0 (by omega) f1;have A8:=zA (vA X C0);clear C6 B8 R L y0 y1 f0 f1 D X Y C0 q m C C7 y HI;subst i;go_wp2;refine Tb (v:=S #[F #[M C1 d.safe.length c2,M U (d.wr.length+1) c4],H G 0]) (by simp[results,results75,go_sem,y2,y3]) rfl ⟨_,rfl,⟨C1,c2,U,c4,by simp,?_,?_,?_,?_⟩,?_,C1,_,c2,U,_,c4,rfl,(λx o e=>by have:=C5.o x o e;omega),λx o e=>by have:=l.o x o e;omega⟩
 .have C3:∀b B6,C1=J ⟨b,B6,Z⟩->C2.heap.size<=b:=λb B6 e=>(C5.o b B6 e).1;exact(SegS.setCell (SegS.setCell (SegS.setNe A1.o (p:=⟨B7.heap.size,1,Z⟩) (λb B6 e=>by have:=C5.o b B6 e;simp;omega) _) C3 (by simp;omega) _) C3 (by simp;omega) _)
 .have C3:∀b B6,U=J ⟨b,B6,Z⟩->B<=b:=l.o;exact(SegW.setCell (SegW.setCell (SegW.setNeR A7.o (p:=⟨B7.heap.size,1,Z⟩) A4.o _) C3 (by simp;omega) _) C3 (by simp;omega) _)
 .show d.safe.length<=maxLen;rw[r.o];decide
 .show(d.wr++[(n,s)]).length<=maxLen;simp[maxLen];omega
 .exact((A8.o.setCell (by simp;omega) _).setCell (by simp) _).setCell (by simp) _
