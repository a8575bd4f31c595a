import Derived.Test.YtjnpndfpajjihadGreatGrJournalRuns43
import Derived.Test.YtjnpndfpajjihadGreatGrJournalRuns41
set_option maxRecDepth 100000
set_option maxHeartbeats 40000000
namespace Go.Proofs.YtjnpndfpajjihadGreat
open Go.Proofs.Tryz
open Go.RowKit
open Value renaming int -> H,slice -> M,pointer -> C,string -> A,agg -> F,tuple -> S
open IntKind renaming i64 -> G
open Option renaming none -> Z,some -> J
open Bool renaming false -> O,true -> I
open Go renaming World -> K
open Obj renaming cells -> T
open Ending renaming returned -> N
open _root_.ByteArray renaming empty -> U
theorem NM(a:Option Addr)(c:Nat)(l:List (Int×ByteArray))(p seq:Int)(w:K)(h:SegW w a l)(hn:l.length<=1000)(he:pB l p seq=0):
  Calls prog 36 #[M a l.length c,H G p,H G seq] w λe w'=>∃a2 c2,e=N (S #[M a2 (checkS l p seq).length c2,H G 0])/\SegSt w' a2 (checkS l p seq)/\Below w.heap.size w w'/\From w.heap.size a2/\(checkS l p seq).length<=c2:=by
 have HS:=zA h
 have u:goodM (superMk p seq)=0:=by
  by_cases E:goodM (superMk p seq)=0
  .exact E
  .rw[pB,Rb E]at he;exact he
 have ha:l.any wD=O:=by
  cases E:l.any wD with
  |false=>rfl
  |true=>rw[pB,Qb (by simp[u]),Rb E]at he;cases he
 have HA:=zA λx (E:x∈l)=>(kg.1 ha) x E;have B2:Hid (checkS l p seq=homeS l++[AA 0 (encT (superMk p seq)),flushS]):=by rw[Hid,checkS,Rb he]
 have hI:∀W,IsMk W (F #[H G 1,H G seq,H G p,M Z 0 0,M Z 0 0]) (superMk p seq):=λW=>⟨Z,0,Z,0,rfl,.inl rfl,.inl rfl,Vb _,Vb _⟩
 have z:=zA λW=>kH _ (superMk p seq) W (hI W) (Vb _);rw[u]at z;clear h he ha u hI;generalize encT (superMk p seq)=s at *;go_enter func36,ntmps36;go_wp2_with fail;refine(z.o _).mono ?_;rintro _ w1 ⟨rfl,m⟩;have d:=zA m;clear m z;go_wp2
 go_loopw [10,25] (λv i wr=>∃k:Nat,k<=l.length/\i=H G k/\Hid (wr.ownsRow w.heap.size 108 3 v (homeM (l.take k)).length (cellsSt (homeM (l.take k))))/\Hid (Below w.heap.size w wr)) (λ_ i _=>l.length - (intOf i).toNat)
 case atStart=>exact⟨0,Vb _,rfl,Kc _ _ _ _,d⟩
 case round=>
  clear d;obtain⟨k,hk,rfl,C,B⟩:=hrel;by_cases hlt:k<l.length
  .obtain⟨b2,A8,rfl,hb,hc⟩:=HS.o.resolve_left (by intro e;rw[e]at hlt;simp at hlt);obtain⟨⟨n,B3⟩,E⟩:∃x,x=l.getD k (0,U):=⟨_,rfl⟩;obtain⟨B6,B9⟩:=hc k hlt;rw[<-E]at B6 B9;have HX:Hid (l[k]?=J (n,B3)):=by rw[E];exact YA _ _ _ hlt
   have g1:=xA B.o hb B6;have g2:=xA B.o hb B9;have A2:=zA (oL HX.o);have hq:(homeM (l.take k)).length<=k:=by rw[yD,Nc];omega
   have A5:(k:Int)<(l.length:Int):=by omega
   have L:=HA.o _ (Yc HX.o);have B7:sA n 0 11=I:=by cases h:sA n 0 11<;>simp[wD,h]at L|-
   have A7:B3.size=32:=by simp[wD,B7]at L;exact L
   have A4:((B3.size:Int) !=32)=O:=by rw[bne_eq_false_iff_eq];omega
   obtain⟨A9,A6⟩:=QC.1 B7;clear E hc B6 B9 L;generalize homeM (l.take k)=q at *;go_wp2_with fail;refine(xF n _).mono ?_;rintro _ w2 ⟨rfl,rfl⟩;rw[B7];go_wp2_with (at_builtin;refine dE rfl _ _ rfl w.heap.size _ q rfl (dA C.o (vA (qA _ _) (qA _ _))) (wr.heap.size+1) (AA (25+n) B3) rfl (by simp[go_sem,AA]) (by simp[go_sem,AA]) (by simp[go_sem,AA]) (by omega) (ac B.o.size (by simp;omega)) ?_);intro v' w' B1 D;have X:=vA B.o (vA (qA wr (T #[H G n,A B3] 99 (0,0))) (qA _ (T #[H G 1,H G (25+n),A B3] 108 (0,0))));have A0:=zA (X.grown D X.size (λj hj=>(C.o.lt j hj).1));have A1:=zA B1;clear C B g1 g2 B1 D X;go_wp2
   go_roundw
   case rel=>exact⟨k+1,by omega,by go_num,by rw[A2.o];exact A1,A0⟩
   case measure=>simp[intOf];omega
  .have e:k=l.length:=by omega
   subst e;rw[Lc]at C;have hq:(homeM l).length<=l.length:=by rw[yD];omega
   by_cases h0:l.length=0
   .have A3:¬((0:Int)<(l.length:Int)):=by omega
    rw[homeS,Rb h0,yd]at B2;generalize homeM l=q at *;go_wp2_with (at_builtin;refine SJ rfl _ _ rfl w.heap.size _ q rfl (dA C.o (qA _ _)) wr.heap.size (AA 0 s) flushS rfl (NJ (by simp[go_sem,AA]) (by simp[go_sem,AA]) (by simp[go_sem,AA]) (by simp[go_sem,flushS]) (by simp[go_sem,flushS]) (by simp[go_sem,flushS])) (by omega) (ac B.o.size (by simp)) ?_);intro v' w' B1 D;have R:Hid (Below w.heap.size w w'):=(B.o.alloc B.o.size _).grown D (ac B.o.size (by simp)) (λj hj=>(C.o.lt j hj).1);obtain⟨a2,c2,Y,B4,y⟩:=SegSt.of_owns B1;have Q:=zA B4;have B8:=OG B1 Y;subst Y;clear B1 D B4 C B;go_wp2;exact Tb (by simp[results,results36,go_sem];rfl) rfl ⟨a2,c2,by rw[B2.o];first|rfl|simp,by rw[B2.o];exact Q.o,R.o,y,by rw[B2.o];exact B8⟩
   .have A3:(0:Int)<(l.length:Int):=by omega
    rw[homeS,Qb h0]at B2;generalize homeM l=q at *;go_wp2_with (at_builtin;refine dE rfl _ _ rfl w.heap.size _ q rfl (dA C.o (qA _ _)) wr.heap.size flushS rfl (by simp[go_sem,flushS]) (by simp[go_sem,flushS]) (by simp[go_sem,flushS]) (by omega) (ac B.o.size (by simp)) ?_);intro v3 r C1 b;have B5:Hid (Below w.heap.size w r):=(B.o.alloc B.o.size _).grown b (ac B.o.size (by simp)) (λj hj=>(C.o.lt j hj).1);have C0:Hid (r.ownsRow w.heap.size 108 3 v3 (q++[flushS]).length (cellsSt (q++[flushS]))):=C1;have B0:(q++[flushS]).length<=l.length+1:=by simp;omega
    clear C1 b C B;generalize q++[flushS]=q2 at *;go_wp2_with (at_builtin;refine SJ rfl _ _ rfl w.heap.size _ q2 rfl (dA C0.o (qA _ _)) r.heap.size (AA 0 s) flushS rfl (NJ (by simp[go_sem,AA]) (by simp[go_sem,AA]) (by simp[go_sem,AA]) (by simp[go_sem,flushS]) (by simp[go_sem,flushS]) (by simp[go_sem,flushS])) (by omega) (ac B5.o.size (by simp)) ?_);intro v' w' B1 D;have R:Hid (Below w.heap.size w w'):=(B5.o.alloc B5.o.size _).grown D (ac B5.o.size (by simp)) (λj hj=>(C0.o.lt j hj).1);obtain⟨a2,c2,Y,B4,y⟩:=SegSt.of_owns B1;have Q:=zA B4;have B8:=OG B1 Y;subst Y;clear B1 D B4 C0 B5;go_wp2;exact Tb (by simp[results,results36,go_sem];rfl) rfl ⟨a2,c2,by rw[B2.o];first|rfl|simp,by rw[B2.o];exact Q.o,R.o,y,by rw[B2.o];exact B8⟩
theorem BO(w:K):
  Calls prog 11 #[] w λe w'=>∃R,e=N (C (J ⟨R,0,Z⟩))/\w.heap.size<=R/\(∀X:List Nat,(∀x∈X,x<w.heap.size)->RAt w' R (R::X) XE)/\Below w.heap.size w w':=by
 obtain⟨s,hs⟩:∃s,s=encT (superMk 0 1):=⟨_,rfl⟩;have HS:=zA hs;clear hs;go_enter func11,ntmps11;go_wp2_with fail;refine(dR _).mono ?_;rintro e B ⟨g,c,rfl,B2,U⟩;have r:w.heap.size<=g:=(B2.lt g rfl).1;have A4:g<B.heap.size:=(B2.lt g rfl).2;have z:=zA B2;have m:=zA U;clear B2 U;go_wp2;rename_i KK Q;refine(show∀W5,W5=_->Code.wp prog _ _ _ W5 from λW5 B0=>?_) _ rfl;obtain⟨d,B1,B8⟩:∃d,W5.heap[B.heap.size]?=J (T d 59 (0,0))/\d=fA (gB aD 0 1) (⟨J ⟨g,0,Z⟩,c,Z,0,Z,0,Z,0,Z,0,Z,0,Z,0,Z,0,Z,0,Z,0,Z,0⟩:Sl):=by rw[B0];exact⟨_,Cc _ _,by kernel_rfl⟩
 rw[B8]at B1;have B4:Below B.heap.size B W5:=by rw[B0];exact qA _ _
 have KB:=zA B1;have A2:=zA (dA z.o B4);have q:=zA (vA m.o B4);have B3:B.heap.size<W5.heap.size:=(Wb.1 B1).1;clear B0 B1 B8 B4 z;refine(show∀A0:Act,A0=_->Code.wp prog _ _ A0 _ from λA0 A8=>?_) _ rfl;have D:A0.tmps.size=18:=by rw[A8];rfl
 have l:A0.defers=[]:=by rw[A8]
 have h:A0.eval (.tmp 1)=C (J ⟨B.heap.size,0,Z⟩):=by rw[A8];rfl
 clear A8;refine LH (W:=W5) 11 (λW=>Below w.heap.size w W/\B.heap.size<W.heap.size/\W.heap[B.heap.size]?=J (T (fA (gB aD 0 1) (⟨J ⟨g,0,Z⟩,c,Z,0,Z,0,Z,0,Z,0,Z,0,Z,0,Z,0,Z,0,Z,0,Z,0⟩:Sl)) 59 (0,0))/\W.ownsRow w.heap.size 9 1 (M (J ⟨g,0,Z⟩) 37 c) 37 (cellsS (s::List.replicate 36 (fitT ⟨#[]⟩)))) (λ_=>[Is (C (J ⟨B.heap.size,0,Z⟩)),Is (C (J ⟨B.heap.size,0,Z⟩)),Is (C (J ⟨B.heap.size,0,Z⟩)),Is (C (J ⟨B.heap.size,0,Z⟩)),Is (M (J ⟨g,0,Z⟩) 37 c),Is (F #[H G 1,H G 1,H G 0,M Z 0 0,M Z 0 0]),Is (S #[A s,H G 0]),Is (S #[A s,H G 0]),Is (A s),Is (H G 0),Is (C (J ⟨g,0,Z⟩))]) (by decide) (by kernel_rfl) (by kernel_rfl) (by kernel_rfl) (Ub _ _).drew ⟨?_,?_,?_,?_,?_,?_,?_,?_,?_,?_,?_,?_,trivial⟩ ?_
 iterate 4
  refine BB D (by decide) λb a w' A7 hR A6=>⟨_,?_,rfl⟩
  replace hR:=hR (by kernel_rfl)
  have L:=(A7.other 1 rfl).trans h;have E:=Act.eval_const a;have I:=Act.eval_func a
  revert A6 L E I
  generalize a.eval=ρ;intro A6 L E I;simp[Region.binds,lf,Is]at A6;simp only[execOp]
  go_simp
 .refine BB D (by decide) λb a w' A7 hR A6=>?_;have A9:a.eval (.tmp 10)=C (J ⟨B.heap.size,0,Z⟩):=A6 ⟨3,.data⟩ (by simp) rfl;have c0:w'.cell? ⟨B.heap.size,0,Z⟩=J (M (J ⟨g,0,Z⟩) 37 c):=((kA (yA (hR (by kernel_rfl)) B3 KB.o)).1 0).trans (by kernel_rfl);exact⟨_,(by revert A9;generalize a.eval=ρ;intro A9;simp only[execOp];go_simp),rfl⟩
 .exact BB D (by decide) λb a w' A7 _ _=>⟨_,by have E:=Act.eval_const a;revert E;generalize a.eval=ρ;intro E;simp only[execOp];go_simp,rfl⟩
 .refine JG D (λw w' hb=>Holds.is (.is (.is (.is (.is (.is (.is (.is (.is (.is (.is .nil))))))))))) (by decide) (by kernel_rfl) λa w' A7 hR A6=>?_;have A9:a.eval (.tmp 12)=F #[H G 1,H G 1,H G 0,M Z 0 0,M Z 0 0]:=A6 ⟨5,.data⟩ (by simp) rfl;refine⟨31,#[F #[H G 1,H G 1,H G 0,M Z 0 0,M Z 0 0]],(by have I:=Act.eval_func a;revert A9 I;generalize a.eval=ρ;intro A9 I;simp only[execOp];go_simp),(kH _ (superMk 0 1) w' ?_ (by decide)).mono λ_ w3 ⟨h2,h3⟩=>⟨_,h2,?_,h3⟩⟩
  .exact⟨Z,0,Z,0,rfl,.inl rfl,.inl rfl,Vb _,Vb _⟩
  .rw[aL,<-HS.o];rfl
 iterate 3
  refine BB D (by decide) λb a w' A7 _ A6=>⟨_,?_,rfl⟩
  have L:=(A7.other 1 rfl).trans h;have E:=Act.eval_const a;have I:=Act.eval_func a
  revert A6 L E I
  generalize a.eval=ρ;intro A6 L E I;simp[Region.binds,lf,Is]at A6;simp only[execOp]
  go_simp
 .refine BB D (by decide) λb a w' A7 _ A6=>?_;have A9:a.eval (.tmp 11)=M (J ⟨g,0,Z⟩) 37 c:=A6 ⟨4,.data⟩ (by simp) rfl;exact⟨_,(by have E:=Act.eval_const a;revert A9 E;generalize a.eval=ρ;intro A9 E;simp only[execOp];go_simp),rfl⟩
 .refine dI λa w' A7 hR A6=>?_;have e1:a.eval (.tmp 16)=C (J ⟨g,0,Z⟩):=A6 ⟨10,.data⟩ (by simp) rfl;have u:a.eval (.tmp 14)=A s:=A6 ⟨8,.data⟩ (by simp) rfl;have B5:=dA A2.o hR;have A3:w'.cell? ⟨g,0,Z⟩=J (A (fitT ⟨#[]⟩)):=by rw[B5.cellAt 0 (by decide)];rfl
  have A5:w'.frozen? ⟨g,0,Z⟩=O:=B5.frozenAt 0;refine⟨w'.setCell ⟨g,0,Z⟩ (A s),(by revert e1 u;generalize a.eval=ρ;intro e1 u;simp only[execOp];go_simp),⟨(vA q.o hR).setCell (p:=⟨g,0,Z⟩) r _,by simpa[World.setCell] using Nat.lt_of_lt_of_le B3 hR.size,CB (yA hR B3 KB.o) (by omega),(B5.stored 0 (A s)).1⟩,Holds.is (.is (.is (.is (.is (.is (.is (.is (.is (.is (.is .nil))))))))))⟩
 intro a w6 A7 ⟨Y,l6,n,B7⟩ _;have f1:=(A7.other 1 rfl).trans h;obtain⟨gg,k,rfl⟩:=nB a 18 (A7.size.trans D) (A7.defers.trans l);rw[k]at f1;simp only[List.range,List.range.loop,List.map_cons,List.map_nil,f1];show KK _ _;apply Q;have y:=zA B7;have j:=zA Y;have A1:=zA n;clear A7 Y n B7 f1 k Q;go_wp2;refine Tb (by simp[results,results11,go_sem]) rfl ⟨B.heap.size,rfl,by have:=m.o.size;omega,λX hX=>⟨by simp,(⟨J ⟨g,0,Z⟩,c,Z,0,Z,0,Z,0,Z,0,Z,0,Z,0,Z,0,Z,0,Z,0,Z,0⟩:Sl),A1.o,?_,FC _ _,FC _ _,.inl rfl,.inl rfl,.inl rfl,Sb _,bF _⟩,j.o⟩;obtain⟨a2,c2,hv,hS,_⟩:=SegS.of_owns y.o;simp only[Value.slice.injEq]at hv;obtain⟨rfl,_,rfl⟩:=hv;rw[HS.o]at hS;refine⟨J ⟨g,0,Z⟩,c,Z,0,rfl,?_,.inl rfl,by decide+kernel,by decide+kernel⟩;rcases hS with h0|⟨b,B9,he,B6,hc⟩
 .cases h0
 .cases he;refine .inr ⟨g,0,rfl,by rw[tC];exact B6,λi hi=>oC ?_ (hc i hi)⟩;simp only[List.mem_cons,not_or];exact⟨by omega,λhx=>by have:=hX g hx;omega⟩
