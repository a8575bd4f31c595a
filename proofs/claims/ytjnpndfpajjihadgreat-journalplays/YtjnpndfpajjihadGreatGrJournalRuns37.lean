import Derived.Test.YtjnpndfpajjihadGreatGrJournalRuns13
import Derived.Deep.CutRange
set_option maxRecDepth 100000
set_option maxHeartbeats 40000000
namespace Go.Proofs.YtjnpndfpajjihadGreat
open Go.Proofs.Tryz
open Go.RowKit
open Value renaming int -> H,slice -> M,pointer -> C,string -> A,agg -> F
open IntKind renaming i64 -> G
open Option renaming none -> Z,some -> J
open Bool renaming true -> I
open Go renaming World -> K,Value -> E
open Ending renaming returned -> N
variable{Bp base:Nat}{Q:Exit->Act->World->Prop}{W w w4:World}{a:Act}{l:List Int}{o:Oper}{ops:Array Oper}{p:Int}{tmp:Obj}{v:Value}
theorem iQ{l:List St}{y:St}(h:LD w base v (l++[y])):∃a c,v=M a (l.length+1) c:=by
 obtain⟨a,c,e,_,_⟩:=SegSt.of_owns h;exact⟨a,c,by rw[e,Yb];rfl⟩
theorem StepsAt.grown{Bs:Nat}{D:E}{l R:List St}(L:Boxed W Bs 55 v)(X:W.ownsRow base 108 3 v l.length (cellsSt l))(B:w4.ownsRow base 108 3 D R.length (cellsSt R))(b:(W.alloc tmp).grownBy w4 v.ownBlock):
  Boxed w4 Bs 55 v/\StepsAt (w4.setCell ⟨Bs,0,Z⟩ D) base Bs R:=by
 have A:Boxed w4 Bs 55 v:=(L.alloc tmp).kept b (L.not_row (by decide) X);exact⟨A,D,A.set D,B.kept (grownBy_setCell' w4 Bs D) (.inr (A.not_row (by decide) B).symm)⟩
theorem Boxed.grownSt{n:Nat}{L:E}{R:List E}(D:Boxed W Bp 47 L)(B:W.ownsRow base 108 3 v n R)(X:(W.alloc tmp).grownBy w4 v.ownBlock):Boxed w4 Bp 47 L:=
 (D.alloc tmp).kept X (D.not_row (by decide) B)
theorem rV{L:Act->K->Prop}{E:Prop}(D:o.guard=Z)
  (R:o.op=.call {callee:=.value (.func 151),args:=#[],argTypes:=#[]})
  (h:∀B,Below w.heap.size w B->L (a.put o.dst (F #[H G 2,H G 0,A ⟨#[]⟩])) B):if Region.wanted o (yielded ops a.tmps)=I then Oper.wp prog o a w L Q else E:=by
 have X:Region.wanted o (yielded ops a.tmps)=I:=by simp[Region.wanted,D]
 rw[Rb X];unfold Oper.wp;simp[execOp,R,resolve,invoke,Act.eval,Result.andThen];refine(BL w).mono ?_;rintro e B ⟨rfl,hb⟩;exact h B hb
theorem NV{R:Act->K->Prop}{E:Prop}(L:o.guard=Z)(x y:Operand)
  (X:o.op=.call {callee:=.value (.func 150),args:=#[x,y],argTypes:=#[3,9]}) (p:Int) (s:ByteArray) (c:a.eval x=H G p) (b:a.eval y=A s)
  (h:∀D,Below w.heap.size w D->R (a.put o.dst (F #[H G 1,H G p,A s])) D):if Region.wanted o (yielded ops a.tmps)=I then Oper.wp prog o a w R Q else E:=by
 have B:Region.wanted o (yielded ops a.tmps)=I:=by simp[Region.wanted,L]
 rw[Rb B];unfold Oper.wp;have d:a.eval (.func 150)=.func (.func 150) #[] #[]:=rfl;simp[execOp,X,resolve,invoke,d,c,b,Result.andThen];refine(GL p s w).mono ?_;rintro e D ⟨rfl,hb⟩;exact h D hb
theorem yL(Bs Bp base:Nat)(l:List St)(w:K)(h:StepsAt w base Bs l)(hn:l.length<=900)(R:base<=w.heap.size):
  Calls prog 174 #[C (J ⟨Bs,0,Z⟩)] w λe b=>(∃v,e=N v)/\StepsAt b base Bs (l++[flushS])/\Fr Bs Bp base w b:=by
 obtain⟨v,D,B⟩:=h;have X:=zA B;have E:=zA D;obtain⟨a,c,rfl,_,_⟩:=SegSt.of_owns B;have k:=D.cell;clear B D;go_enter func174,ntmps174;go_wp2
 go_region_law (first
  |(refine rV rfl rfl ?_;intro d L;have A:Below w.heap.size w d:=((Ub _ _).drew).trans L;have A3:=xA A E.o.lt k;have A2:=Xb E.o.lt A.size)
  |(refine WK rfl (.tmp 1) (.tmp 3) rfl base (M a l.length c) l (by simp[Act.eval]) (dA (dA X.o A) (qA _ _)) d.heap.size flushS (by simp[Act.eval]) (by simp[go_sem,flushS]) (by simp[go_sem,flushS]) (by simp[go_sem,flushS]) (by omega) (ac (ac R A.size) (by simp)) ?_;intro v' w4 i F;have I:=zA (StepsAt.grown (yA A E.o.lt E.o) (dA X.o A) i F);have j:=zA (Fr.grown (Bs:=Bs) (Bp:=Bp) (dA (dA X.o A) (qA _ _)) F (ac (ac R A.size) (by simp)));(obtain⟨a5,c5,rfl⟩:=iQ i);have A0:=I.o.1.cell;have A1:=I.o.1.frozen))
 all_goals
  go_wp2
  go_end0
  refine⟨⟨_,rfl⟩,I.o.2,?_⟩;exact((Fr.of_below (A.trans ((qA _ _).mono A.size)) R).trans j.o).trans (Fr.setS _ _)
theorem PlacesAt.one(h:PlacesAt w base Bp (p::l)):∃b L c,Boxed w Bp 47 (M (J ⟨b,L,Z⟩) (l.length+1) c)/\w.cell? ⟨b,L,Z⟩=J (H G p)/\SegI w (J ⟨b,L,Z⟩) (p::l)/\b<base/\b≠Bp/\b<w.heap.size/\l.length+1<=c:=by
 obtain⟨a,c,E,B,C,D,h5⟩:=h;have A:=B;rcases B with e|⟨b,L,rfl,R,X⟩
 .cases e
 .have:=X 0 (by simp);exact⟨b,L,c,E,by simpa using this,A,(C b L rfl).1,(C b L rfl).2,R,by simpa using D⟩
theorem IU{b off:Nat}(h:SegI w (J ⟨b,off,Z⟩) (p::l)):SegI w (J ⟨b,off+1,Z⟩) l:=by
 rcases h with e|⟨b',A0,e,B,D⟩
 .cases e
 .cases e
  cases l with
  |nil=>exact .inl rfl
  |cons q r=>
   refine .inr ⟨b,off+1,rfl,B,λi L=>?_⟩;have:=D (i+1) (by simpa using L);rw[show off+1+i=off+(i+1) from by omega]
   simpa using this
theorem kP(Bs Bp base:Nat)(l:List St)(p:Int)(ps:List Int)(s:ByteArray)(w:K)(h:StepsAt w base Bs l)(hp:PlacesAt w base Bp (p::ps))(hn:l.length<=900)(C1:ps.length<=900)(C0:0<=p)(B9:p<=23)(A8:base<=w.heap.size)(B6:Bp<base)(B5:base<=Bs):
  Calls prog 175 #[A s,C (J ⟨Bs,0,Z⟩),C (J ⟨Bp,0,Z⟩)] w λe w'=>(∃v,e=N v)/\StepsAt w' base Bs (l++[AA (1+p) s])/\PlacesAt w' base Bp ps/\Fr Bs Bp base w w':=by
 obtain⟨v,I,B4⟩:=h;have L:=zA B4;have O:=zA I;obtain⟨a,c,rfl,_,_⟩:=SegSt.of_owns B4;have r:=I.cell;obtain⟨b,X,i,B3,B8,B7,d,E,A2,A1⟩:=hp.one;have R:=zA B3;have j:=zA B7;have q:=B3.cell;have Q:Bp≠Bs:=by omega
 have A6:IntKind.i64.wrap (1+p)=1+p:=by rw[Bc];omega
 clear B4 I B3 B7 hp;go_enter func175,ntmps175
 go_upto_region 0 with fail
 go_cut [0] from 4 to 12 (λx wx=>x=A s/\Hid (StepsAt wx base Bs (l++[AA (1+p) s])/\Fr Bs Bp base w wx/\Boxed wx Bp 47 (M (J ⟨b,X,Z⟩) (ps.length+1) i)))
 case first=>
  go_region_law (first
   |(refine NV rfl (.tmp 8) (.tmp 9) rfl (1+p) s (by simp[Act.eval,Act.put]) (by simp[Act.eval,Act.put]) ?_;intro m y;have A9:Below w.heap.size w m:=((Ub _ _).drew).trans y;have A7:=xA A9 O.o.lt r;have A5:=Xb O.o.lt A9.size)
   |(refine WK rfl (.tmp 4) (.tmp 11) rfl base (M a l.length c) l (by simp[Act.eval]) (dA (dA L.o A9) (qA _ _)) m.heap.size (AA (1+p) s) (by simp[Act.eval]) (by simp[go_sem,AA]) (by simp[go_sem,AA]) (by simp[go_sem,AA]) (by omega) (ac (ac A8 A9.size) (by simp)) ?_;intro v' w4 D F;have B2:=zA (StepsAt.grown (yA A9 O.o.lt O.o) (dA L.o A9) D F);have HF:=zA (Fr.grown (Bs:=Bs) (Bp:=Bp) (dA (dA L.o A9) (qA _ _)) F (ac (ac A8 A9.size) (by simp)));have n:=zA (Boxed.grownSt (yA A9 R.o.lt R.o) (dA L.o A9) F);(obtain⟨a5,c5,rfl⟩:=iQ D);have A3:=B2.o.1.cell;have A4:=B2.o.1.frozen))
  all_goals
   go_wp2_with fail
   go_meet
   refine⟨rfl,B2.o.2,((Fr.of_below (A9.trans ((qA _ _).mono A9.size)) A8).trans HF.o).trans (Fr.setS _ _),?_⟩;exact(Sc _ _ _ _ Q).trans n.o
 case rest=>
  obtain⟨rfl,B⟩:=hcut;obtain⟨B1,rfl⟩:∃B1,B1=wc:=⟨_,rfl⟩;have qc:=B.o.2.2.cell;have qf:=B.o.2.2.frozen;have A0:((ps.length:Int)+1)<=(i:Int):=by omega
  clear r q B8
  have S:∀u,StepsAt (B1.setCell ⟨Bp,0,Z⟩ u) base Bs (l++[AA (1+p) s]):=by
   intro u;obtain⟨v5,z,k2⟩:=B.o.1;exact⟨v5,(Sc _ _ _ _ (qe Q)).trans z,Jc k2 B6 _⟩
  have Y:=zA S;have U:SegI B1 (J ⟨b,X,Z⟩) (p::ps):=j.o.low B.o.2.1 (λb' B0 e=>by cases e;exact⟨d,E⟩) B5;have k:=zA (IU U);clear S U;by_cases hpc:i=1
  .have h0:ps=[]:=Tc (by omega);subst h0 hpc;go_wp2
   go_end0
   exact⟨⟨_,rfl⟩,Y.o _,⟨_,_,B.o.2.2.set _,.inl rfl,λb' B0 e=>(by cases e;exact⟨d,E⟩),by simp,λ_=>rfl⟩,B.o.2.1.trans (Fr.setP _ _)⟩
  .go_wp2
   go_end0
   refine⟨⟨_,rfl⟩,Y.o _,⟨_,_,B.o.2.2.set _,k.o.setNe (λb' B0 e=>by cases e;exact E) _,λb' B0 e=>(by cases e;exact⟨d,E⟩),?_,λe=>by cases e⟩,B.o.2.1.trans (Fr.setP _ _)⟩;omega
theorem lJ(Bs Bp base b i:Nat)(l:List St)(p:Int)(ps:List Int)(m:Mk)(mv:E)(q:Int)(w:K)(hm:IsMk w mv m)(ht:w.cell? ⟨b,0,Z⟩=J (H G q))(A5:b<w.heap.size)
  (he:w.cell? ⟨i,0,Z⟩=J (.func (.func 175) #[] #[C (J ⟨Bs,0,Z⟩),C (J ⟨Bp,0,Z⟩)])) (k:i<w.heap.size)
  (h:StepsAt w base Bs l) (n:PlacesAt w base Bp (p::ps)) (z:l.length<=900) (u:ps.length<=900) (r:0<=p) (j:p<=23) (X:base<=w.heap.size) (x:Bp<base) (s:base<=Bs):
  Calls Tryz.prog 176 #[mv,C (J ⟨b,0,Z⟩),C (J ⟨i,0,Z⟩)] w λe d=>(∃v,e=N v)/\StepsAt d base Bs (l++[AA (1+p) (encT {m with seq:=q})])/\PlacesAt d base Bp ps/\Fr Bs Bp base w d:=by
 obtain⟨a,c,O,A1,rfl,D,y,Q,I⟩:=hm;have A2:=zA h;have R:=zA n;have F:=zA D;have L:=zA y;clear h n D y;go_enter Tryz.func176,Tryz.ntmps176;go_wp2_with fail;refine(wI _ {m with seq:=q} _ ⟨a,c,O,A1,rfl,F.o.below (qA _ _),L.o.below (qA _ _),Q,I⟩).mono ?_;rintro e w1 ⟨rfl,A⟩;have B:=zA (vA (qA _ _) A);have A0:=xA B.o k he;clear A;go_wp2_with fail;refine(kP Bs Bp base l p ps _ _ (A2.o.below B.o) (R.o.below B.o) z u r j (ac X B.o.size) x s).mono ?_;rintro e w2 ⟨⟨v,rfl⟩,A4,M,A3⟩;go_wp2
 go_end0
 exact⟨⟨_,rfl⟩,A4,M,(Fr.of_below B.o X).trans A3⟩
