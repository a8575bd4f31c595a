import Derived.Test.YtjnpndfpajjihadGreatGrJournalRuns14
import Derived.Test.YtjnpndfpajjihadGreatGrJournalRuns15
import Derived.Deep.RegionHeldLaw
namespace Go.Proofs.YtjnpndfpajjihadGreat
open Go.Proofs.Tryz
set_option maxRecDepth 100000
set_option maxHeartbeats 40000000
open Go.RowKit
open Value renaming int -> H,slice -> M,pointer -> C,string -> A,bool -> Y,agg -> F,tuple -> S
open IntKind renaming i64 -> G
open Option renaming none -> Z,some -> J
open Bool renaming false -> O,true -> I
open Go renaming World -> K,Value -> E
open Obj renaming cells -> T
open Ending renaming returned -> N
open _root_.ByteArray renaming empty -> U
variable{Q:Exit->Act->World->Prop}{R base:Nat}{a:Option Addr}{d:Dk}{o:Oper}{ops:Array Oper}{row:Option Nat}{w w':World}
theorem SegT.but{l:List (Int×Bool)}(h:SegT w a l)(hb:But R base w w')(c:∀b B,a=J ⟨b,B,Z⟩->b<base/\b≠R):SegT w' a l:=by
 rcases h with h|⟨b,B,rfl,D,L⟩
 .exact .inl h
 .have:=c b B rfl;exact .inr ⟨b,B,rfl,Xb D hb.size,λi X=>⟨hb.cell this.1 this.2 (L i X).1,hb.cell this.1 this.2 (L i X).2⟩⟩
theorem SN(X:cA d=I)(n:Int):(jA d n).size<=32:=by
 have key:∀(l:List (Int×ByteArray)) (z:ByteArray),z.size<=32->(∀x∈l,x.2.size<=32)->(fC n z l).size<=32:=by
  intro l
  induction l with
  |nil=>intro z C _;exact C
  |cons x r ih=>
   intro z C D;rw[fC];refine ih _ ?_ (λy L=>D y (by simp[L]));split
   .exact D x (by simp)
   .exact C
 have B:=X;simp only[cA,Bool.and_eq_true,List.all_eq_true]at B;unfold jA;split
 .refine key _ _ ?_ (λx b=>?_)
  .by_cases h:n.toNat<d.safe.length
   .have E:d.safe.getD n.toNat U∈d.safe:=by rw[List.getD,Ic h];exact xe h
    have A:=B.1.2 _ E;unfold oA at A;have F:=je.1 A;omega
   .rw[List.getD,cd (by omega)];exact Vb _
  .have A:=B.2 x b;unfold wrB oA at A;have F:=je.1 (ug.1 A).2;omega
 .exact Vb _
theorem MW(D:cA d=I)(B i:Nat):((logOf d B).getD i U).size<=maxLen:=by
 by_cases h:i<24
 .rw[qG d B i h];have:(jA d (1+((B:Int)+(i:Int))%24)).size<=32:=SN D _;unfold maxLen;omega
 .rw[List.getD,cd (by rw[TA];omega)];exact Vb _
def cW (w w':K)(R:Nat)(a:Option Addr)(c:Nat)(D:Option Addr)(L:Nat)(d:Dk)(B i:Nat)(l:List (Int×Bool))(v:E)(b:Bool):Prop:=
 But R w.heap.size w w'/\if i+l.length<=24 then b=I/\w'.ownsRow w.heap.size 99 2 v l.length (cellsC (copiesAt (logOf d B) i l))/\Rd w' R a c D L d B (i+l.length) else b=O/\v=M Z 0 0
theorem WU{a:Act}{n:Act->K->Prop}{A1:Prop}(k:o.guard=Z)(s x:Operand)
  (p:o.op=.call {callee:=.builtin .append,args:=#[s,x],argTypes:=#[46,46]})
  (base:Nat) (v:E) (l:List (Int×ByteArray)) (q:a.eval s=v) (i:w.ownsRow base 99 2 v l.length (cellsC l)) (b:Nat) (y:Int×ByteArray) (r:a.eval x=M (J ⟨b,0,Z⟩) 1 1)
  (h0:w.cell? ⟨b,0,Z⟩=J (H G y.1)) (h1:w.cell? ⟨b,1,Z⟩=J (A y.2)) (m:l.length<=1000) (e:base<=w.heap.size)
  (h:∀c w',Hid (w'.ownsRow base 99 2 c (l++[y]).length (cellsC (l++[y])))->w.grownBy w' v.ownBlock->n (a.put o.dst c) w'):if Region.wanted o (yielded ops a.tmps)=I then Oper.wp prog o a w n Q else A1:=by
 obtain⟨A2,L,C,D,B⟩:=Gc fF;refine CJ k s x 46 p 99 A2 (F #[H G 0,A ⟨#[]⟩]) 2 24 underlying46 L C D B rfl (by decide) base v l.length (cellsC l) q i ⟨b,0,Z⟩ (cellsC [y]) r rfl ?_ (sG _) m (by omega) e ?_
 .intro j u X;rw[qd,Dc]
  match j,X with
  |0,X=>simp[cellsC]at X;subst X;exact h0
  |1,X=>simp[cellsC]at X;subst X;exact h1
  |j+2,X=>simp[cellsC]at X
 intro c w' A0 z;refine h c w' ?_ z;rw[Hid,FE,Yb];exact A0
theorem But.grown{D L:K}(h:But R base w D)(B:D.grownBy L row)(b:∀k,row=J k->base<=k)(hb:base<=D.heap.size):But R base w L:=
 ⟨B.os.trans h.os,B.tape.trans h.tape,B.output.trans h.output,ac h.size B.size,λk X c=>(B.block k (by omega) (λe=>by have:=b k e.symm;omega)).trans (h.block k X c)⟩
theorem Rd.grown{c:Nat}{D:Option Addr}{L:Nat}{B i:Nat}(h:Rd w R a c D L d B i)(b:w.grownBy w' row)(X:∀k,row=J k->R<k):Rd w' R a c D L d B i:=
 (b.block R h.lt (λe=>by have:=X R e.symm;omega)).trans h
theorem VT{a:Act}{L:Act->K->Prop}{E:Prop}(D:o.guard=Z)(x y:Operand)
  (X:o.op=.call {callee:=.value (.func 194),args:=#[x,y],argTypes:=#[9,4]}) (s:ByteArray) (f:Bool) (c:a.eval x=A s) (b:a.eval y=Y f) (i:s.size<=maxLen)
  (h:L (a.put o.dst (A (aB s f))) w):if Region.wanted o (yielded ops a.tmps)=I then Oper.wp prog o a w L Q else E:=by
 have j:Region.wanted o (yielded ops a.tmps)=I:=by simp[Region.wanted,D]
 rw[Rb j];have B:a.eval (.func 194)=.func (.func 194) #[] #[]:=rfl;unfold Oper.wp;simp[execOp,X,resolve,invoke,B,c,b,Result.andThen];refine(cX s f w i).mono ?_;rintro e w' ⟨rfl,rfl⟩;exact h
theorem uX(R:Nat)(a:Option Addr)(c:Nat)(a':Option Addr)(c':Nat)(d:Dk)(p0 i:Nat)(ta:Option Addr)(tc:Nat)(l:List (Int×Bool))(w w0:K)(hR:Rd w R a c a' c' d p0 i)(hi:i<=24)(hD:IsDk w0 (F #[M a d.safe.length c,M a' d.wr.length c']) d)(hg:cA d=I)(hb:Below w0.heap.size w0 w)(B8:w0.heap.size<=R)
  (hT:SegT w ta l) (B1:∀b A9,ta=J ⟨b,A9,Z⟩->b≠R):
  Calls prog 146 #[C (J ⟨R,0,Z⟩),M ta l.length tc] w λe w'=>∃v b,e=N (S #[v,Y b])/\cW w w' R a c a' c' d p0 i l v b:=by
 have Q:=hR.lt;have HD:=zA hD;have X:=zA hb;have HT:=zA hT;have A4:=zA B1;have HR:=zA hR;clear hD hb hT hR B1;go_enter func146,ntmps146;go_wp2
 go_loopw [6,13] (λv j wr=>∃k:Nat,k<=l.length/\i+k<=24/\j=H G k/\Hid (wr.ownsRow w.heap.size 99 2 v (copiesAt (logOf d p0) i (l.take k)).length (cellsC (copiesAt (logOf d p0) i (l.take k))))/\Hid (Rd wr R a c a' c' d p0 (i+k))/\Hid (But R w.heap.size w wr)) (λ_ j _=>l.length - (intOf j).toNat)
 case atStart=>exact⟨0,Vb _,by omega,rfl,Kc _ _ _ _,HR,But.of_below (Ub _ _)⟩
 case round=>
  obtain⟨k,hk,A3,rfl,B0,D,B⟩:=hrel;by_cases hlt:k<l.length
  .obtain⟨b2,A9,rfl,B9,hc⟩:=HT.o.resolve_left (by intro e;rw[e]at hlt;simp at hlt);obtain⟨x,p⟩:∃x,x=l.getD k (0,O):=⟨_,rfl⟩;obtain⟨B4,B2⟩:=hc k hlt;rw[<-p]at B4 B2;have C3:=A4.o b2 A9 rfl
   replace B4:=B.o.cell B9 C3 B4
   replace B2:=B.o.cell B9 C3 B2
   have HX:Hid (l[k]?=J x):=by rw[p];exact YA _ _ _ hlt
   have z:=zA (CM HX.o (logOf d p0) i);have hq:(copiesAt (logOf d p0) i (l.take k)).length<=k:=by rw[wJ,Nc];omega
   have A6:(k:Int)<(l.length:Int):=by omega
   clear p hc HX;obtain⟨n,f⟩:=x;generalize copiesAt (logOf d p0) i (l.take k)=q at *;have C0:w.heap.size<=wr.heap.size:=B.o.size;by_cases hend:i+k=24
   .rw[hend]at D;go_wp2_with fail;refine(zO R a c a' c' d p0 _ (D.o.below (qA _ _))).mono ?_;rintro e A8 ⟨rfl,rfl⟩;go_wp2;refine Tb (v:=S #[M Z 0 0,Y O]) (by simp[results,results146,go_sem]) rfl ?_;refine⟨M Z 0 0,O,rfl,B.o.trans (But.of_below (qA _ _)) C0,?_⟩;rw[Qb (by omega)];exact⟨rfl,rfl⟩
   .go_wp2_with fail;refine(eM R a c a' c' d p0 (i+k) _ w0 (D.o.below (qA _ _)) (by omega) HD.o hg (vA (B.o.below X.o X.o.size B8) (qA _ _))).mono ?_;rintro e A8 ⟨rfl,h,E⟩;rw[sO d p0 (i+k) (by omega)];have L:((logOf d p0).getD (i+k) U).size<=maxLen:=MW hg p0 (i+k);obtain⟨s,hs⟩:∃s,s=(logOf d p0).getD (i+k) U:=⟨_,rfl⟩;rw[<-hs]at L z|-;have A5:=zA L;have C2:=zA h;have A7:wr.heap.size+1<=A8.heap.size:=by have:=E.size;simpa using this
    have K8:Hid (A8.heap[wr.heap.size]?=J (T #[H G n,Y f] 123 (0,0))):=(E.block _ (by simp) (by omega)).trans (Cc wr _);have C1:Hid (But R w.heap.size w A8):=(B.o.trans (But.of_below (qA _ _)) C0).trans E (by simp;omega);have B3:Hid (A8.ownsRow w.heap.size 99 2 _ q.length (cellsC q)):=NE (dA B0.o (qA _ _)) E Q;obtain⟨⟨y0,y1⟩,_⟩:=XA K8.o;clear hs L h E B0 D B B4 B2;obtain⟨m,r,u,_,_⟩:=SegC.of_owns B3.o;subst u;go_wp2
    go_region_law (first
     |(refine WU rfl (.tmp 24) (.tmp 32) rfl w.heap.size _ q (by simp[Act.eval]) (dA B3.o (vA ((Ub _ _).drew) (qA _ _))) A8.heap.size (n,aB s f) (by simp[Act.eval]) (by simp[go_sem]) (by simp[go_sem]) (by omega) (by simp;omega) ?_;intro v3 y A2 B6)
     |(refine VT rfl (.tmp 27) (.tmp 29) rfl s f (by simp[Act.eval]) (by simp[Act.eval]) A5.o ?_))
    all_goals
     have B5:Below A8.heap.size A8 _:=vA ((Ub _ _).drew) (qA _ (T #[H G n,A (aB s f)] 99 (0,0)));have B7:∀k,(M m q.length r).ownBlock=J k->w.heap.size<=k:=λk hk=>(B3.o.lt k hk).1;have A0:Hid (But R w.heap.size w y):=(C1.o.trans (But.of_below B5) (by omega)).grown B6 B7 (ac (by omega) B5.size);have A1:Hid (Rd y R a c a' c' d p0 (i+(k+1))):=(C2.o.below B5).grown B6 (λj hj=>Xb Q (B7 j hj));clear B6 B5 B7 B3 C1 C2 y0 y1;go_wp2
     go_roundw
     case rel=>exact⟨k+1,by omega,by omega,by go_num,by rw[z.o];exact A2,A1,A0⟩
     case measure=>simp[intOf];omega
  .have e:k=l.length:=by omega
   subst e;rw[Lc]at B0;have HO:Hid (_):=B0.o;rw[wJ]at HO;obtain⟨m,r,u,_,_⟩:=SegC.of_owns B0.o;subst u;clear B0;go_wp2;refine Tb (v:=S #[M m (copiesAt (logOf d p0) i l).length r,Y I]) (by simp[results,results146,go_sem]) rfl ?_;refine⟨_,I,rfl,B.o,?_⟩;rw[Rb A3];exact⟨rfl,HO.o,D.o⟩
