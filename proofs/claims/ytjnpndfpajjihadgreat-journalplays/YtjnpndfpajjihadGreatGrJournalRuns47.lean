import Derived.Test.YtjnpndfpajjihadGreatGrJournalRuns8
import Derived.Test.YtjnpndfpajjihadGreatGrJournalRuns46
set_option maxRecDepth 100000
set_option maxHeartbeats 40000000
namespace Go.Proofs.YtjnpndfpajjihadGreat
open Go.Proofs.Tryz
open Go.RowKit
open Value renaming int -> H,slice -> M,string -> A,agg -> F,tuple -> S
open IntKind renaming i64 -> G
open Option renaming none -> Z,some -> J
open Bool renaming false -> O,true -> I
open Go renaming World -> K,Value -> E
open Obj renaming cells -> T
open Ending renaming returned -> N
open _root_.ByteArray renaming empty -> U
theorem yN{i:Array Oper}{o:Oper}{a:Act}{w:K}{q:Act->K->Prop}{Q:Exit->Act->K->Prop}{A2:Prop}(m:o.guard=Z)(s x:Operand)
  (r:o.op=.call {callee:=.builtin .append,args:=#[s,x],argTypes:=#[42,42]})
  (base:Nat) (v:E) (n:Nat) (ss:List ByteArray) (y:a.eval s=v) (X:w.ownsRow base 9 1 v n (cellsS ss)) (k:Addr) (t:ByteArray) (z:a.eval x=M (J k) 1 1)
  (hc:w.cell? (k.add 0)=J (A t)) (A3:n<=1000) (c:base<=w.heap.size)
  (h:∀d c2 b,Hid (b.ownsRow base 9 1 (M d (n+1) c2) (n+1) (cellsS (ss++[t])))->w.grownBy b v.ownBlock->q (a.put o.dst (M d (n+1) c2)) b):
  if Region.wanted o (yielded i a.tmps)=I then Oper.wp prog o a w q Q else A2:=by
 have A0:Region.wanted o (yielded i a.tmps)=I:=by simp[Region.wanted,m]
 rw[Rb A0];obtain⟨L,N,D,A1,C⟩:=Gc XF
 obtain⟨v',b,hrun,B,R,_⟩:=bf (P:=prog) w base 42 o.type 9 L (A ⟨#[]⟩) 1 16 underlying42 N D A1 C rfl (by decide) v n (cellsS ss) X k 1 1 [A t] rfl
  (by
    intro j u l
    match j,l with
    |0,l=>simp at l;subst l;exact hc) (by intro u F;simp at F;subst F;rfl) (by unfold maxLen;omega) (by omega) c
 unfold Oper.wp;simp[execOp,r,resolve,invoke,builtin,y,z,hrun,Result.andThen];have e:cellsS ss++[A t]=cellsS (ss++[t]):=by simp[cellsS]
 rw[e]at B;obtain⟨d,c2,p,_,_⟩:=SegS.of_owns B
 have O:(ss++[t]).length=n+1:=by
  have:=X.1;rw[UI]at this;simp;omega
 rw[O]at p;subst p;exact h d c2 b B R
theorem CX(v:E)(d:Dk)(w:K)(h:IsDk w v d)(hg:cA d=I):
  Calls prog 74 #[v] w λe w'=>∃v2,e=N (S #[v2,H G 0])/\IsDk w' v2 ⟨iC d 37,[]⟩/\Below w.heap.size w w'/\VC w.heap.size v2:=by
 have HI:Hid (IsDk w v d):=h;obtain⟨a,c,a',c',rfl,_,_,_,_⟩:=h;have R:=zA (fD hg);rw[R.o.1]at HI|-;go_enter func74,ntmps74;go_wp2_with fail;refine(ZE _ d _ (HI.o.below (vA (qA _ _) (qA _ _)))).mono ?_;rintro e A ⟨rfl,C⟩;have B1:w.heap.size+1<A.heap.size:=by have:=C.size;simp at this;omega
 have B0:w.heap.size<A.heap.size:=by omega
 have x0:=xA C (b:=w.heap.size) (o:=0) (v:=M a 37 c) (by simp;omega) (by simp[go_sem]);have x1:=xA C (b:=w.heap.size) (o:=1) (v:=M a' d.wr.length c') (by simp;omega) (by simp[go_sem]);have y0:=xA C (b:=w.heap.size+1) (o:=0) (v:=M Z 0 0) (by simp) (by simp[go_sem]);have y1:=xA C (b:=w.heap.size+1) (o:=1) (v:=M Z 0 0) (by simp) (by simp[go_sem]);have f0:=bA C (b:=w.heap.size+1) (o:=0) (v:=O) (by simp) (by simp[go_sem]);have f1:=bA C (b:=w.heap.size+1) (o:=1) (v:=O) (by simp) (by simp[go_sem]);have j:Below w.heap.size w A:=vA (vA (qA _ _) (qA _ _)) C;clear C;go_wp2
 go_loopw [15] (λi wr=>∃(k:Nat) (D:Option Addr) (c2:Nat),k<=37/\i=H G k/\wr.heap[A.heap.size]?=J (T #[M D k c2,M Z 0 0] 45 (0,0))/\Hid (wr.ownsRow (A.heap.size+1) 9 1 (M D k c2) k (cellsS (iC d k)))/\Below A.heap.size A wr) (λi _=>37 - (intOf i).toNat)
 case atStart=>
  refine⟨0,Z,0,Vb _,rfl,?_,Kc _ _ _ _,qA _ _⟩;exact Cc A _
 case round=>
  obtain⟨k,D,c2,hk,rfl,C4,C0,B⟩:=hrel;have B9:=zA C4;clear C4;have A4:A.heap.size<wr.heap.size:=(Wb.1 B9.o).1;by_cases hlt:k<37
  .have A8:(k:Int)<37:=by omega
   have z0:=xA B (by omega) x0;have z1:=xA B (by omega) x1;go_wp2_with fail;refine(IK _ d k _ (HI.o.below (vA j B)) R.o.1 hlt R.o.2).mono ?_;rintro e B7 ⟨v3,rfl,C5,B8⟩;obtain⟨a3,c3,X,n,_⟩:=SegS.of_owns C5
   have hL:1<=(ways d k).length/\(ways d k).length<=201:=by
    have:=oG d k d.wr.length R.o.2;rw[xB,Lc]at this;exact this
   obtain⟨b3,o3,q,A9,y⟩:=n.resolve_left (by intro e;rw[e]at hL;simp at hL);have C1:=y ((ways d k).length - 1) (by omega);rw[LN]at C1;obtain⟨t,z⟩:∃t,t=rB d k:=⟨_,rfl⟩;rw[<-z]at C1;obtain⟨L,u⟩:∃L,(ways d k).length=L+1:=⟨(ways d k).length - 1,by omega⟩;rw[u]at X hL C1;rw[Cg]at C1;rw[X,q];have A1:A.heap.size<B7.heap.size:=by have:=B8.size;omega
   have C3:B7.heap[A.heap.size]?=J (T #[M D k c2,M Z 0 0] 45 (0,0)):=(B8.block _ A4).trans B9.o;have o0:B7.cell? ⟨A.heap.size,0,Z⟩=J (M D k c2):=by rw[Hc B7 _ _ _ _ _ C3];rfl
   have m:=zA C3;have Q:=zA (dA C0.o B8);have HT:=zA z;have s:=vA B B8;clear C0 C5 n y X q u z0 z1 C3 z;have B5:IntKind.i64.wrap (L:Int)=(L:Int):=by rw[Bc];omega
   have B2:0<=(L:Int):=by omega
   have B4:(L:Int)<(L:Int)+1:=by omega
   go_wp2
   go_region_law (refine yN rfl (.tmp 22) (.tmp 29) rfl (A.heap.size+1) (M D k c2) k (iC d k) (by simp[Act.eval]) (Q.o.alloc _) ⟨B7.heap.size,0,Z⟩ t (by simp[Act.eval]) (by simp[go_sem]) (by omega) (by simp;omega) ?_;intro a5 c5 B6 A3 l;have C2:B6.heap[A.heap.size]?=J (T #[M D k c2,M Z 0 0] 45 (0,0)):=((l.block A.heap.size (by simp;omega) (λe=>by have:=Q.o.lt _ e.symm;omega)).trans ((kd B7 _ _ A1).trans m.o));have o5:B6.cell? ⟨A.heap.size,0,Z⟩=J (M D k c2):=(by rw[Hc B6 _ _ _ _ _ C2];rfl);have B3:B6.frozen? ⟨A.heap.size,0,Z⟩=O:=(jd B6 _ _ _ _ C2);have A5:=zA C2;have A6:Below A.heap.size A B6:=(((s.alloc (by omega) _).drew).grown l (by simp;omega) (λk hk=>by have:=Q.o.lt k hk;omega));clear C2 l)
   all_goals
    clear Q m s B8 o0;go_wp2
    go_roundw
    case rel=>
     refine⟨k+1,a5,c5,by omega,by go_num,?_,?_,A6.setCell (by simp) _⟩
     .rw[zc B6 _ _ _ _ _ A5.o];rfl
     .rw[YQ,<-HT.o];exact Jc A3.o (by simp) _
    case measure=>simp[intOf];omega
  .have e:k=37:=by omega
   subst e;obtain⟨a4,c4,Y,r,p⟩:=SegS.of_owns C0.o;rw[RE]at Y;simp only[Value.slice.injEq]at Y;obtain⟨A2,_,A7⟩:=Y;subst A2 A7;have A0:=zA r;have U:=zA p;have o0:wr.cell? ⟨A.heap.size,0,Z⟩=J (M D 37 c2):=by rw[Hc wr _ _ _ _ _ B9.o];rfl
   have o1:wr.cell? ⟨A.heap.size,1,Z⟩=J (M Z 0 0):=by rw[Hc wr _ _ _ _ _ B9.o];rfl
   have y2:=xA B (by omega) y0;have y3:=xA B (by omega) y1;have f2:=bA B (by omega) f0;have f3:=bA B (by omega) f1;have HB:=zA (vA j B);clear C0 r p B j x0 x1 y0 y1 f0 f1 B9;go_wp2;refine Tb (v:=S #[F #[M D 37 c2,M Z 0 0],H G 0]) (by simp[results,results74,go_sem,y2,y3]) rfl ⟨_,rfl,⟨D,c2,Z,0,?_,?_,.inl rfl,?_,?_⟩,?_,D,_,c2,Z,_,_,rfl,(λx o e=>by have:=U.o x o e;omega),λx o e=>by cases e⟩
   .simp only[RE];rfl
   .exact(A0.o.setCell U.o (by simp;omega) _).setCell U.o (by simp;omega) _
   .show(iC d 37).length<=maxLen;rw[RE];decide
   .exact Vb _
   .exact(HB.o.setCell (by simp) _).setCell (by simp) _
theorem ZT(r L:Nat)(h:1<=L):((r:Int) - (r:Int)%(L:Int))/(L:Int)=(r:Int)/(L:Int):=by
 have e:(r:Int) - (r:Int)%(L:Int)=(L:Int)*((r:Int)/(L:Int)):=by
  have:=Int.mul_ediv_add_emod (r:Int) (L:Int);omega
 rw[e,Int.mul_ediv_cancel_left _ (by omega)]
theorem gW(v:E)(d:Dk)(q:Int)(w:K)(h:IsDk w v d)(L:(cA d&&decide (0<=q))=O):
  Calls prog 34 #[v,H G q] w λe X=>e=N (S #[v,H G 2])/\Below w.heap.size w X:=by
 have I:Hid (IsDk w v d):=h;obtain⟨a,c,Q,R,rfl,_,_,_,_⟩:=h
 cases hg:cA d with
 |false=>
  clear L;go_enter func34,ntmps34;go_wp2_with fail;refine(ZE _ d _ (I.o.below (vA (qA _ _) (qA _ _)))).mono ?_;rintro e B ⟨rfl,A⟩;obtain⟨D,J⟩:=QD A;have b:w.heap.size+1<B.heap.size:=by have:=A.size;simp at this;omega
  go_wp2;refine Tb (v:=S #[F #[M a d.safe.length c,M Q d.wr.length R],H G 2]) (by simp[results,results34,go_sem,D]) rfl ⟨rfl,?_⟩;have C:Below w.heap.size w B:=vA (vA (qA _ _) (qA _ _)) A;exact(C.setCell (by simp) _).setCell (by simp) _
 |true=>
  have hq:q<0:=by simpa[hg] using L
  clear L;go_enter func34,ntmps34;go_wp2_with fail;refine(ZE _ d _ (I.o.below (vA (qA _ _) (qA _ _)))).mono ?_;rintro e B ⟨rfl,A⟩;obtain⟨D,J⟩:=QD A;have b:w.heap.size+1<B.heap.size:=by have:=A.size;simp at this;omega
  go_wp2;refine Tb (v:=S #[F #[M a d.safe.length c,M Q d.wr.length R],H G 2]) (by simp[results,results34,go_sem,D]) rfl ⟨rfl,?_⟩;have C:Below w.heap.size w B:=vA (vA (qA _ _) (qA _ _)) A;exact(C.setCell (by simp) _).setCell (by simp) _
theorem eT(v:E)(d:Dk)(q:Nat)(w:K)(h:IsDk w v d)(hg:cA d=I)(hq:q<=9223372036854775807):
  Calls prog 34 #[v,H G q] w λe w'=>∃v2,e=N (S #[v2,H G 0])/\IsDk w' v2 ⟨(wB d q 37).1,[]⟩/\Below w.heap.size w w'/\VC w.heap.size v2:=by
 have HI:Hid (IsDk w v d):=h;obtain⟨a,c,a',c',rfl,_,_,_,_⟩:=h;have R:=zA (fD hg);rw[R.o.1]at HI|-;go_enter func34,ntmps34;go_wp2_with fail;refine(ZE _ d _ (HI.o.below (vA (qA _ _) (qA _ _)))).mono ?_;rintro e C2 ⟨rfl,C⟩;have B7:w.heap.size+1<C2.heap.size:=by have:=C.size;simp at this;omega
 have B5:w.heap.size<C2.heap.size:=by omega
 have x0:=xA C (b:=w.heap.size) (o:=0) (v:=M a 37 c) (by simp;omega) (by simp[go_sem]);have x1:=xA C (b:=w.heap.size) (o:=1) (v:=M a' d.wr.length c') (by simp;omega) (by simp[go_sem]);have y0:=xA C (b:=w.heap.size+1) (o:=0) (v:=M Z 0 0) (by simp) (by simp[go_sem]);have y1:=xA C (b:=w.heap.size+1) (o:=1) (v:=M Z 0 0) (by simp) (by simp[go_sem]);have f0:=bA C (b:=w.heap.size+1) (o:=0) (v:=O) (by simp) (by simp[go_sem]);have f1:=bA C (b:=w.heap.size+1) (o:=1) (v:=O) (by simp) (by simp[go_sem]);have j:Below w.heap.size w C2:=vA (vA (qA _ _) (qA _ _)) C;clear C;go_wp2
 go_loopw [1,22] (λr i wr=>∃(k:Nat) (D:Option Addr) (c2:Nat),k<=37/\i=H G k/\r=H G ((wB d q k).2:Nat)/\wr.heap[C2.heap.size]?=J (T #[M D k c2,M Z 0 0] 45 (0,0))/\Hid (wr.ownsRow (C2.heap.size+1) 9 1 (M D k c2) k (cellsS (wB d q k).1))/\Below C2.heap.size C2 wr) (λ_ i _=>37 - (intOf i).toNat)
 case atStart=>
  refine⟨0,Z,0,Vb _,rfl,rfl,?_,Kc _ _ _ _,qA _ _⟩;exact Cc C2 _
 case round=>
  obtain⟨k,D,c2,hk,rfl,rfl,Y,C7,B⟩:=hrel;have C6:=zA Y;clear Y;have A8:C2.heap.size<wr.heap.size:=(Wb.1 C6.o).1;by_cases hlt:k<37
  .have B3:(k:Int)<37:=by omega
   have z0:=xA B (by omega) x0;have z1:=xA B (by omega) x1;have A3:=yM d q k;obtain⟨r,hr⟩:∃r,r=(wB d q k).2:=⟨_,rfl⟩;rw[<-hr]at A3|-;go_wp2_with fail;refine(IK _ d k _ (HI.o.below (vA j B)) R.o.1 hlt R.o.2).mono ?_;rintro e C3 ⟨v3,rfl,D4,C5⟩;obtain⟨a3,c3,D2,s,_⟩:=SegS.of_owns D4
   have m:1<=(ways d k).length/\(ways d k).length<=201:=by
    have:=oG d k d.wr.length R.o.2;rw[xB,Lc]at this;exact this
   obtain⟨b3,o3,y,B4,A2⟩:=s.resolve_left (by intro e;rw[e]at m;simp at m);obtain⟨t,ht⟩:∃t,t=(ways d k).getD (r%(ways d k).length) U:=⟨_,rfl⟩;have C9:=A2 (r%(ways d k).length) (cf _ (by omega));rw[<-ht]at C9;have HK:Hid (wB d q (k+1)=((wB d q k).1++[t],r/(ways d k).length)):=by rw[ht,hr];rfl
   obtain⟨L,A1⟩:∃L,L=(ways d k).length:=⟨_,rfl⟩;rw[<-A1]at D2 m C9 HK;rw[D2,y];have A5:C2.heap.size<C3.heap.size:=by have:=C5.size;omega
   have D1:C3.heap[C2.heap.size]?=J (T #[M D k c2,M Z 0 0] 45 (0,0)):=(C5.block _ A8).trans C6.o;have o0:C3.cell? ⟨C2.heap.size,0,Z⟩=J (M D k c2):=by rw[Hc C3 _ _ _ _ _ D1];rfl
   have n:=zA D1;have Q:=zA (dA C7.o C5);have A0:=vA B C5;clear C7 D4 s A2 D2 y A1 z0 z1 D1 ht hr;have B9:0<=(r:Int)%(L:Int):=Int.emod_nonneg _ (by omega);have C0:(r:Int)%(L:Int)<(L:Int):=Int.emod_lt_of_pos _ (by omega);have C1:(r:Int)%(L:Int)<=(r:Int):=by have:=Nat.mod_le r L;omega
   have p:((r:Int) - (r:Int)%(L:Int))/(L:Int)=(r:Int)/(L:Int):=ZT r L m.1;have B2:=zA p;clear p
   have B6:C3.cell? ⟨b3,o3+((r:Int)%(L:Int)).toNat,Z⟩=J (A t):=by
    rw[show((r:Int)%(L:Int)).toNat=r%L from by rw[<-Int.natCast_emod,pd]];exact C9
   go_wp2
   go_region_law (refine yN rfl (.tmp 33) (.tmp 38) rfl (C2.heap.size+1) (M D k c2) k (wB d q k).1 (by simp[Act.eval]) (Q.o.alloc _) ⟨C3.heap.size,0,Z⟩ t (by simp[Act.eval]) (by simp[go_sem]) (by omega) (by simp;omega) ?_;intro a5 c5 C4 A7 l;have C8:C4.heap[C2.heap.size]?=J (T #[M D k c2,M Z 0 0] 45 (0,0)):=((l.block C2.heap.size (by simp;omega) (λe=>by have:=Q.o.lt _ e.symm;omega)).trans ((kd C3 _ _ A5).trans n.o));have o5:C4.cell? ⟨C2.heap.size,0,Z⟩=J (M D k c2):=(by rw[Hc C4 _ _ _ _ _ C8];rfl);have B8:C4.frozen? ⟨C2.heap.size,0,Z⟩=O:=(jd C4 _ _ _ _ C8);have A9:=zA C8;have B0:Below C2.heap.size C2 C4:=(((A0.alloc (by omega) _).drew).grown l (by simp;omega) (λk hk=>by have:=Q.o.lt k hk;omega));clear C8 l)
   all_goals
    clear Q n A0 C5 o0;go_wp2
    go_roundw
    case rel=>
     refine⟨k+1,a5,c5,by omega,by go_num,?_,?_,?_,B0.setCell (by simp) _⟩
     .rw[HK.o,B2.o];rfl
     .rw[zc C4 _ _ _ _ _ A9.o];rfl
     .rw[HK.o];exact Jc A7.o (by simp) _
    case measure=>simp[intOf];omega
  .have e:k=37:=by omega
   subst e;obtain⟨a4,c4,X,z,u⟩:=SegS.of_owns C7.o;rw[oE]at X;simp only[Value.slice.injEq]at X;obtain⟨A6,_,B1⟩:=X;subst A6 B1;have A4:=zA z;have D3:=zA u;have o0:wr.cell? ⟨C2.heap.size,0,Z⟩=J (M D 37 c2):=by rw[Hc wr _ _ _ _ _ C6.o];rfl
   have o1:wr.cell? ⟨C2.heap.size,1,Z⟩=J (M Z 0 0):=by rw[Hc wr _ _ _ _ _ C6.o];rfl
   have y2:=xA B (by omega) y0;have y3:=xA B (by omega) y1;have f2:=bA B (by omega) f0;have f3:=bA B (by omega) f1;have HB:=zA (vA j B);clear C7 z u B j x0 x1 y0 y1 f0 f1 C6;go_wp2;refine Tb (v:=S #[F #[M D 37 c2,M Z 0 0],H G 0]) (by simp[results,results34,go_sem,y2,y3]) rfl ⟨_,rfl,⟨D,c2,Z,0,?_,?_,.inl rfl,?_,?_⟩,?_,D,_,c2,Z,_,_,rfl,(λx o e=>by have:=D3.o x o e;omega),λx o e=>by cases e⟩
   .simp only[oE];rfl
   .exact(A4.o.setCell D3.o (by simp;omega) _).setCell D3.o (by simp;omega) _
   .show(wB d q 37).1.length<=maxLen;rw[oE];decide
   .exact Vb _
   .exact(HB.o.setCell (by simp) _).setCell (by simp) _
theorem dR(w:K):
  Calls Tryz.prog 30 #[] w λe j=>∃g c,e=N (F #[M (J ⟨g,0,Z⟩) 37 c,M Z 0 0])/\j.ownsRow w.heap.size 9 1 (M (J ⟨g,0,Z⟩) 37 c) 37 (cellsS (List.replicate 37 (fitT ⟨#[]⟩)))/\Below w.heap.size w j:=by
 have r:=qM;obtain⟨z,R⟩:∃z,z=fitT ⟨#[]⟩:=⟨_,rfl⟩;have n:=zA R;clear R;go_enter Tryz.func30,Tryz.ntmps30;go_wp2;clear r
 go_loopw [8] (λi wr=>∃k:Nat,k<=37/\i=H G k/\Hid (wr.ownsRow (w.heap.size+1) 9 1 (M (J ⟨w.heap.size+1,0,Z⟩) 37 37) 37 (fill (List.replicate k z) (37 - k)))/\
   wr.cell? ⟨w.heap.size+2,0,Z⟩=J (M (J ⟨w.heap.size+1,0,Z⟩) 37 37)/\wr.cell? ⟨w.heap.size+2,1,Z⟩=J (M Z 0 0)/\
   wr.cell? ⟨w.heap.size,0,Z⟩=J (M Z 0 0)/\wr.cell? ⟨w.heap.size,1,Z⟩=J (M Z 0 0)/\wr.frozen? ⟨w.heap.size,0,Z⟩=O/\wr.frozen? ⟨w.heap.size,1,Z⟩=O/\
   w.heap.size+2<wr.heap.size/\Below w.heap.size w wr) (λi _=>37 - (intOf i).toNat)
 case atStart=>
  refine⟨0,Vb _,rfl,?_,by simp[go_sem],by simp[go_sem],by simp[go_sem],by simp[go_sem],by simp[go_sem],by simp[go_sem],by simp,?_⟩
  .have h:=(QJ (w.alloc (T #[M Z 0 0,M Z 0 0] 45)) (w.heap.size+1) (by simp)).alloc (T #[M (J ⟨w.heap.size+1,0,Z⟩) 37 37,M Z 0 0] 45);unfold Hid
   simpa using h
  .exact vA (vA (qA _ _) (qA _ _)) (qA _ _)
 case round=>
  obtain⟨k,hk,rfl,D,S,b,l,L,a,f1,m,E⟩:=hrel;by_cases hlt:k<37
  .have A0:(k:Int)<37:=by omega
   go_wp2
   go_region_with (go_at_call 71;refine(iF _ _).mono ?_;rintro e X ⟨rfl,q⟩;rw[<-n.o];have A:Below wr.heap.size wr X:=(((Ub wr.heap.size wr).drew).trans q);have A2:=A.size;have p:=xA A m S;have Y:=xA A m b;have B:=dA D.o A;rw[show 37 - k=(36 - k)+1 from by omega]at B;have I:=sL B;have d:=DK B z;rw[ef]at I d;obtain⟨⟨u,hu⟩,A1,_,_,_⟩:=I;have Q:=zA d;clear d B)
   all_goals
    go_wp2
    go_roundw
    case rel=>
     refine⟨k+1,by omega,by go_num,?_,lC p (by simp),lC Y (by simp),lC (xA A (by omega) l) (by simp),lC (xA A (by omega) L) (by simp),FN (bA A (by omega) a) (by simp),FN (bA A (by omega) f1) (by simp),by simp[World.setCell];omega,((E.trans (A.mono E.size))).setCell (by simp) _⟩;have e:List.replicate (k+1) z=List.replicate k z++[z]:=List.replicate_succ';rw[show 37 - (k+1)=36 - k from by omega,e];exact Q
    case measure=>simp[intOf];omega
  .have e:k=37:=by omega
   have C:=D.o;rw[e,show 37 - 37=0 from rfl,xK]at C;have U:=zA C;clear D C e;go_wp2;refine Tb (v:=F #[M (J ⟨w.heap.size+1,0,Z⟩) 37 37,M Z 0 0]) (by simp[results,Tryz.results30,go_sem,l,L]) rfl ⟨_,_,rfl,?_,?_⟩
   .rw[<-n.o];exact qB (Jc (Jc U.o (by simp) _) (by simp) _) (by omega)
   .exact(E.setCell (by simp) _).setCell (by simp) _
