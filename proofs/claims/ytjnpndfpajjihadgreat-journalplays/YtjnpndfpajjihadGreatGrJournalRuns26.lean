import Derived.Test.YtjnpndfpajjihadGreatGrJournalRuns25
import Derived.Test.YtjnpndfpajjihadGreatGrJournalRuns3
set_option maxRecDepth 100000
set_option maxHeartbeats 40000000
namespace Go.Proofs.YtjnpndfpajjihadGreat
open Go.RowKit Go.Shelf
open Value renaming int -> H,slice -> M,pointer -> C,string -> A,bool -> Y,agg -> F
open IntKind renaming i64 -> G
open Option renaming none -> Z,some -> J
open Bool renaming false -> O,true -> I
open Go renaming World -> K,Value -> E
open Obj renaming cells -> T
open Ending renaming returned -> N
open _root_.ByteArray renaming empty -> U
variable{Bn Bs b o:Nat}{W W':World}{v:Value}
attribute [local go_sem] Oper.semAt_some
def KeepsR (Bs Bn:Nat)(W W':K):Prop:=∀k,(k=Bs\/k=Bn)->∀o,W.heap[k]?=J o->o.isCells=I->W'.heap[k]?=J o
theorem KeepsR.refl(Bs Bn:Nat)(W:K):KeepsR Bs Bn W W:=λ_ _ _ h _=>h
theorem KeepsR.trans(A B C:K)(h:KeepsR Bs Bn A B)(k:KeepsR Bs Bn B C):KeepsR Bs Bn A C:=λj D o Q L=>k j D o (h j D o Q L) L
theorem KeepsR.put(W:K)(r:Nat)(o Q:Obj)(L:W.heap[r]?=J o)(D:o.isCells=O):KeepsR Bs Bn W (W.putObj r Q):=by
 intro k _ x A B;by_cases e:k=r
 .subst e;rw[L]at A;cases A;rw[D]at B;cases B
 .exact(World.putObj_heap_other e).trans A
theorem tZ(h:W'.heap[b]?=W.heap[b]?)(o:Nat):W'.cell? ⟨b,o,Z⟩=W.cell? ⟨b,o,Z⟩:=by
 simp only[World.cell?,h]
theorem YY(h:W.cell? ⟨b,o,Z⟩=J v):∃x,W.heap[b]?=J x/\x.isCells=I:=by
 unfold World.cell? at h;split at h
 .rename_i c t f A;exact⟨_,A,rfl⟩
 .cases h
theorem KeepsR.cell(h:KeepsR Bs Bn W W'){B:Nat}(L:B=Bs\/B=Bn)(D:W.cell? ⟨B,o,Z⟩=J v):W'.cell? ⟨B,o,Z⟩=J v:=by
 obtain⟨x,A,C⟩:=YY D;exact(tZ ((h B L x A C).trans A.symm) o).trans D
def CQ (m:List (Int×ByteArray))(k:Nat):Array E:=#[H G ((m.length - 1 - k:Nat):Int),F #[H G (m.getD (m.length - 1 - k) (0,U)).1,A (m.getD (m.length - 1 - k) (0,U)).2]]
def TH (a:Option Addr):Nat:=match a with|some x=>x.block|none=>0
open Go.Proofs.Tryz
open Go.RowKit Go.Shelf
attribute [local go_sem] Oper.semAt_some
theorem qa(F:Fence)(n:Nat)(L:F.fn 153)(B:F.round=Z)(a:Option Addr)(len cap:Nat)(w:K):
  CallsIn F n prog 153 #[M a len cap] w λe D=>e=N (.func (.func 196) #[] #[C (J ⟨w.heap.size,0,Z⟩)])/\D=w.alloc (T #[M a len cap] 46):=by
 refine Sd func153 rfl L ?_ B;simp only[ntmps153,List.size_toArray,List.length_cons,List.length_nil,Nat.reduceAdd,Nat.reduceSub,Array.replicate_succ,Array.replicate_zero,List.push_toArray,List.append_toArray,List.nil_append,List.cons_append]
 gi_wp2
 go_ret;exact⟨rfl,rfl⟩
theorem DU(F:Fence)(n:Nat)(y:F.fn 196)(p:F.round=Z)(hn:1<=n)(l Bs b off cap:Nat)(m:List (Int×ByteArray))(c:m.length<=maxLen)(X:Nat->K->Prop)
  (z:∀k V,k<m.length->X k V->YieldAt F (n - 1) prog l #[H G ((m.length - 1 - k:Nat):Int),.agg #[H G (m.getD (m.length - 1 - k) (0,U)).1,A (m.getD (m.length - 1 - k) (0,U)).2]] V λe q=>e=N (Y I)/\X (k+1) q/\KeepsR Bs b V q)
  (W:K) (a:W.cell? ⟨Bs,0,Z⟩=J (M (J ⟨b,off,Z⟩) m.length cap)) (d:∀i,i<m.length->W.cell? ⟨b,off+i*2,Z⟩=J (H G (m.getD i (0,U)).1)/\W.cell? ⟨b,off+i*2+1,Z⟩=J (A (m.getD i (0,U)).2)) (h0:X 0 W):
  CallsIn F n prog 196 #[.func (.yield l) #[] #[],C (J ⟨Bs,0,Z⟩)] W λe W'=>(∃v,e=N v)/\X m.length W':=by
 unfold maxLen at c;refine Sd func196 rfl y ?_ p;simp only[ntmps196,List.size_toArray,List.length_cons,List.length_nil,Nat.reduceAdd,Nat.reduceSub,Array.replicate_succ,Array.replicate_zero,List.push_toArray,List.append_toArray,List.nil_append,List.cons_append]
 gi_wp2
 gi_loopw [3] (λi wr=>∃k:Nat,k<=m.length/\i=H G ((m.length:Int) - 1 - (k:Int))/\X k wr/\KeepsR Bs b W wr) (λi _=>(intOf i+1).toNat)
 case atStart=>exact⟨0,Vb _,by go_num,h0,KeepsR.refl _ _ _⟩
 case round=>
  obtain⟨k,hk,rfl,u,h⟩:=hrel;have c1:=h.cell (.inl rfl) a;by_cases hlt:k<m.length
  .obtain⟨j,E⟩:∃j,j=m.length - 1 - k:=⟨_,rfl⟩;have B:(m.length:Int) - 1 - (k:Int)=(j:Int):=by omega
   obtain⟨r,Q⟩:=d j (by omega);have S:=h.cell (.inr rfl) r;have s:=h.cell (.inr rfl) Q;obtain⟨fn,A0,assign,body,D,R⟩:=z k wr hlt u;rw[<-E]at D;obtain⟨x,w⟩:∃x,x=m.getD j (0,U):=⟨_,rfl⟩;rw[<-w]at S s D;rw[B];have A2:(0:Int)<=(j:Int):=by omega
   have A3:j<m.length:=by omega
   have L:=zA E;clear r Q w E B
   gi_wp2
   refine R.mono ?_;rintro e W3 ⟨rfl,A4,O⟩;have c3:=KeepsR.trans _ _ _ h O;have d3:=c3.cell (.inl rfl) a;clear R D S s
   gi_wp2
   go_roundw
   case rel=>exact⟨k+1,by omega,by have:=L.o;go_num,A4,c3⟩
   case measure=>have:=L.o;first|(simp[intOf];omega)|simp[intOf]
  .have e:k=m.length:=by omega
   subst e;have A1:¬((0:Int)<=(m.length:Int) - 1 - (m.length:Int)):=by omega
   gi_wp2
   go_end0
   exact⟨⟨_,rfl⟩,u⟩
theorem LU(F:Fence)(n:Nat)(L:F.fn 196)(D:F.round=Z)(l Bs cap:Nat)(a:Option Addr)(B:Nat->K->Prop)(W:K)(A0:W.cell? ⟨Bs,0,Z⟩=J (M a 0 cap))(h0:B 0 W):
  CallsIn F n prog 196 #[.func (.yield l) #[] #[],C (J ⟨Bs,0,Z⟩)] W λe W'=>(∃v,e=N v)/\B 0 W':=by
 refine Sd func196 rfl L ?_ D;simp only[ntmps196,List.size_toArray,List.length_cons,List.length_nil,Nat.reduceAdd,Nat.reduceSub,Array.replicate_succ,Array.replicate_zero,List.push_toArray,List.append_toArray,List.nil_append,List.cons_append]
 gi_wp2
 gi_loopw [3] (λi wr=>i=H G (-1)/\B 0 wr/\wr=W) (λ_ _=>0)
 case atStart=>exact⟨by go_num,h0,rfl⟩
 case round=>
  obtain⟨rfl,A,rfl⟩:=hrel
  gi_wp2
  go_end0
  exact⟨⟨_,rfl⟩,A⟩
theorem GU(F:Fence)(n:Nat)(e:F.fn 196)(Q:F.round=Z)(j:1<=n)(Bs cap:Nat)(a:Option Addr)(m:List (Int×ByteArray))(R:m.length<=maxLen)(w:K)(D:Bs<w.heap.size)(L:w.cell? ⟨Bs,0,Z⟩=J (M a m.length cap))(k:SegW w a m):
  FH F n prog 196 #[C (J ⟨Bs,0,Z⟩)] (CQ m) m.length (KeepsR Bs (TH a)) w:=by
 intro l h W A hd p B;rcases k with rfl|⟨b,X,rfl,hb,d⟩
 .exact LU F n e Q l Bs cap a h W (xA A D L) B
 .exact DU F n e Q j l Bs b X cap m R h p W (xA A D L) (λi c=>⟨xA A hb (d i c).1,xA A hb (d i c).2⟩) B
open Go.RowKit Go.Shelf
attribute [local go_sem] Oper.semAt_some
theorem KX(F:Fence)(n:Nat)(L:F.fn 191)(B:F.round=Z)(a:Option Addr)(len cap:Nat)(w:K):
  CallsIn F n prog 191 #[M a len cap] w λe D=>e=N (.func (.func 217) #[] #[C (J ⟨w.heap.size,0,Z⟩)])/\D=w.alloc (T #[M a len cap] 53):=by
 refine Sd func191 rfl L ?_ B;simp only[ntmps191,List.size_toArray,List.length_cons,List.length_nil,Nat.reduceAdd,Nat.reduceSub,Array.replicate_succ,Array.replicate_zero,List.push_toArray,List.append_toArray,List.nil_append,List.cons_append]
 gi_wp2
 go_ret;exact⟨rfl,rfl⟩
def sJ (c:Nat->Nat->E)(N:Nat)(k:Nat):Array E:=#[H G ((N - 1 - k:Nat):Int),F #[c (N - 1 - k) 0,c (N - 1 - k) 1,c (N - 1 - k) 2,c (N - 1 - k) 3,c (N - 1 - k) 4,c (N - 1 - k) 5,c (N - 1 - k) 6,c (N - 1 - k) 7,c (N - 1 - k) 8,c (N - 1 - k) 9]]
theorem UU(F:Fence)(n:Nat)(hF:F.fn 217)(B8:F.round=Z)(hn:1<=n)(l Bs b off cap N:Nat)(A9:N<=maxLen)(c:Nat->Nat->E)(A7:Nat->K->Prop)(S:K->Prop)
  (hY:∀k V,k<N->A7 k V->YieldAt F (n - 1) prog l (sJ c N k) V λe V'=>KeepsR Bs b V V'/\((e=.returned (Y I)/\A7 (k+1) V')\/(e=.returned (Y O)/\S V')))
  (W:K) (A8:W.cell? ⟨Bs,0,Z⟩=J (M (J ⟨b,off,Z⟩) N cap)) (B0:∀i,i<N->∀q,q<10->W.cell? ⟨b,off+i*10+q,Z⟩=J (c i q)) (h0:A7 0 W):
  CallsIn F n prog 217 #[.func (.yield l) #[] #[],C (J ⟨Bs,0,Z⟩)] W λe W'=>(∃v,e=.returned v)/\(A7 N W'\/S W'):=by
 unfold maxLen at A9;refine Sd func217 rfl hF ?_ B8;simp only[ntmps217,List.size_toArray,List.length_cons,List.length_nil,Nat.reduceAdd,Nat.reduceSub,Array.replicate_succ,Array.replicate_zero,List.push_toArray,List.append_toArray,List.nil_append,List.cons_append]
 gi_wp2
 gi_loopw [3] (λi wr=>∃k:Nat,k<=N/\i=H G ((N:Int) - 1 - (k:Int))/\A7 k wr/\KeepsR Bs b W wr) (λi _=>(intOf i+1).toNat)
 case atStart=>exact⟨0,Vb _,by go_num,h0,KeepsR.refl _ _ _⟩
 case round=>
  obtain⟨k,hk,rfl,X,A⟩:=hrel;have c1:=A.cell (.inl rfl) A8;by_cases hlt:k<N
  .obtain⟨j,y⟩:∃j,j=N - 1 - k:=⟨_,rfl⟩;have B9:(N:Int) - 1 - (k:Int)=(j:Int):=by omega
   have B:=B0 j (by omega);have p:wr.cell? ⟨b,off+j*10,Z⟩=J (c j 0):=A.cell (.inr rfl) (B 0 (by decide));have d:=A.cell (.inr rfl) (B 1 (by decide));have B1:=A.cell (.inr rfl) (B 2 (by decide));have a:=A.cell (.inr rfl) (B 3 (by decide));have w:=A.cell (.inr rfl) (B 4 (by decide));have r:=A.cell (.inr rfl) (B 5 (by decide));have m:=A.cell (.inr rfl) (B 6 (by decide));have h:=A.cell (.inr rfl) (B 7 (by decide));have u:=A.cell (.inr rfl) (B 8 (by decide));have s:=A.cell (.inr rfl) (B 9 (by decide));obtain⟨fn,A3,assign,body,U,z⟩:=hY k wr hlt X;rw[sJ,<-y]at U;obtain⟨x0,Q⟩:∃x,x=c j 0:=⟨_,rfl⟩;obtain⟨x1,B5⟩:∃x,x=c j 1:=⟨_,rfl⟩;obtain⟨x2,D⟩:∃x,x=c j 2:=⟨_,rfl⟩;obtain⟨x3,B6⟩:∃x,x=c j 3:=⟨_,rfl⟩;obtain⟨x4,B4⟩:∃x,x=c j 4:=⟨_,rfl⟩;obtain⟨x5,L⟩:∃x,x=c j 5:=⟨_,rfl⟩;obtain⟨x6,B7⟩:∃x,x=c j 6:=⟨_,rfl⟩;obtain⟨x7,B2⟩:∃x,x=c j 7:=⟨_,rfl⟩;obtain⟨x8,R⟩:∃x,x=c j 8:=⟨_,rfl⟩;obtain⟨x9,B3⟩:∃x,x=c j 9:=⟨_,rfl⟩;rw[<-Q,<-B5,<-D,<-B6,<-B4,<-L,<-B7,<-B2,<-R,<-B3]at U;rw[<-Q]at p;rw[<-B5]at d;rw[<-D]at B1;rw[<-B6]at a;rw[<-B4]at w;rw[<-L]at r;rw[<-B7]at m;rw[<-B2]at h;rw[<-R]at u;rw[<-B3]at s;rw[B9];have A6:(0:Int)<=(j:Int):=by omega
   have A5:j<N:=by omega
   have HJ:=zA y;clear B Q B5 D B6 B4 L B7 B2 R B3 y B9
   gi_wp2
   refine z.mono ?_;rintro e W3 ⟨A2,⟨rfl,A0⟩|⟨rfl,A1⟩⟩
   .have c3:=KeepsR.trans _ _ _ A A2;have a:=c3.cell (.inl rfl) A8;clear z U p d B1 w r m h u s
    gi_wp2
    go_roundw
    case rel=>exact⟨k+1,by omega,by have:=HJ.o;go_num,A0,c3⟩
    case measure=>have:=HJ.o;first|(simp[intOf];omega)|simp[intOf]
   .clear z U p d B1 a w r m h u s
    gi_wp2
    refine Tb (results_none rfl _ _ _) rfl ?_;exact⟨⟨_,rfl⟩,.inr A1⟩
  .have e:k=N:=by omega
   subst e;have A4:¬((0:Int)<=(k:Int) - 1 - (k:Int)):=by omega
   gi_wp2
   go_end0
   exact⟨⟨_,rfl⟩,.inl X⟩
theorem tV(F:Fence)(n:Nat)(L:F.fn 217)(D:F.round=Z)(l Bs cap:Nat)(a:Option Addr)(B:Nat->K->Prop)(S:K->Prop)(W:K)(A0:W.cell? ⟨Bs,0,Z⟩=J (M a 0 cap))(h0:B 0 W):
  CallsIn F n prog 217 #[.func (.yield l) #[] #[],C (J ⟨Bs,0,Z⟩)] W λe W'=>(∃v,e=N v)/\(B 0 W'\/S W'):=by
 refine Sd func217 rfl L ?_ D;simp only[ntmps217,List.size_toArray,List.length_cons,List.length_nil,Nat.reduceAdd,Nat.reduceSub,Array.replicate_succ,Array.replicate_zero,List.push_toArray,List.append_toArray,List.nil_append,List.cons_append]
 gi_wp2
 gi_loopw [3] (λi wr=>i=H G (-1)/\B 0 wr/\wr=W) (λ_ _=>0)
 case atStart=>exact⟨by go_num,h0,rfl⟩
 case round=>
  obtain⟨rfl,A,rfl⟩:=hrel
  gi_wp2
  go_end0
  exact⟨⟨_,rfl⟩,.inl A⟩
theorem sY(F:Fence)(n:Nat)(z:F.fn 217)(h:F.round=Z)(hn:1<=n)(Bs cap:Nat)(a:Option Addr)(m:List Tx)(p:m.length<=maxLen)(w:K)(e:Bs<w.heap.size)(j:w.cell? ⟨Bs,0,Z⟩=J (M a m.length cap))(hm:SegTx w a m):
  ∃c:Nat->Nat->E,FM F n prog 217 #[C (J ⟨Bs,0,Z⟩)] (sJ c m.length) m.length (KeepsR Bs (TH a)) w/\
   ∀i,i<m.length->IsTx w (.agg #[c i 0,c i 1,c i 2,c i 3,c i 4,c i 5,c i 6,c i 7,c i 8,c i 9]) (m.getD i txz):=by
 rcases hm with rfl|⟨b,R,rfl,hb,hc⟩
 .refine⟨λ_ _=>undef,λl y S W d hY k=>?_,λi X=>by simp at X⟩;exact tV F n z h l Bs cap a y S W (xA d e j) k
 .refine⟨λi q=>(w.cell? ⟨b,R+i*10+q,Z⟩).getD undef,λl y S W d hY k=>?_,λi X=>?_⟩
  .refine UU F n z h hn l Bs b R cap m.length p _ y S hY W (xA d e j) (λi X q hq=>xA d hb ?_) k;obtain⟨_,_,_,_,_,_,⟨N,u,A,B,x,r,s,I,D,L⟩,_⟩:=hc i X
   match q,hq with
   |0,_=>exact N.trans (by rw[show R+i*10+0=R+i*10 from rfl,N];rfl)
   |1,_=>exact u.trans (by rw[u];rfl)
   |2,_=>exact A.trans (by rw[A];rfl)
   |3,_=>exact B.trans (by rw[B];rfl)
   |4,_=>exact x.trans (by rw[x];rfl)
   |5,_=>exact r.trans (by rw[r];rfl)
   |6,_=>exact s.trans (by rw[s];rfl)
   |7,_=>exact I.trans (by rw[I];rfl)
   |8,_=>exact D.trans (by rw[D];rfl)
   |9,_=>exact L.trans (by rw[L];rfl)
  .obtain⟨_,_,_,_,_,_,⟨N,u,A,B,x,r,s,I,D,L⟩,Q⟩:=hc i X;have O:w.cell? ⟨b,R+i*10+0,Z⟩=_:=N;simp only[O,u,A,B,x,r,s,I,D,L,Option.getD_some];exact Q
