import Derived.Test.YtjnpndfpajjihadGreatGrJournalRuns0
import Derived.Orders
import Derived.Great.Frames
import Derived.Laws.Tables
namespace Go.Proofs.YtjnpndfpajjihadGreat
open Go.RowKit
open Option renaming none -> Z,some -> J
open Bool renaming false -> O,true -> I
open Go renaming World -> K,Value -> E
open Value renaming pointer -> C,bool -> Y,agg -> F
open Obj renaming cells -> T
open Ending renaming returned -> N
variable{a a0:Act}{b:Bool}{d g i id k n:Nat}{listed:Array Bool}{o os:Oper}{ops:Array Oper}{v:Value}{w w' w0:World}
section
variable {P:Program} {ops:Array Oper} {Q:Exit->Act->World->Prop} {md:Region.Mode}
def yF (listed:Array Bool):Nat:=listed.toList.countP (λb=> !b)
theorem NX(h:listed.getD i I=O):yF (listed.setIfInBounds i I)<yF listed:=by
 unfold yF;rw[Array.toList_setIfInBounds]
 have B:i<listed.toList.length:=by
  rcases Kd i listed.size with h'|h'
  .simpa using h'
  .simp[Array.getD,Nat.not_lt.2 h']at h
 have A:listed.toList[i]=O:=by
  have C:i<listed.size:=by simpa using B
  simpa[Array.getD,C] using h
 generalize listed.toList=l at *;clear h
 induction l generalizing i with
 |nil=>simp at B
 |cons x l ih=>
  cases i with
  |zero=>simp only[List.getElem_cons_zero]at A;subst A;simp
  |succ i=>
   simp only[List.getElem_cons_succ]at A;simp only[List.set_cons_succ,List.countP_cons];have:=ih (by simpa using B) A;omega
theorem YW(h:yF listed=0):Region.ready md ops listed=[]:=by
 unfold yF at h;rw[List.countP_eq_zero]at h;refine List.eq_nil_iff_forall_not_mem.2 λi B=>?_;have A:=(Te.1 B).1;rcases Kd i listed.size with h'|h'
 .have:=h (listed[i]) (by simp);simp[Array.getD,h']at A;simp[A]at this
 .simp[Array.getD,Nat.not_lt.2 h']at A
theorem tO(X:Array Bool->Act->K->Prop)
  (hstep:∀listed a w i,listed.size=ops.size->X listed a w->i∈Region.ready md ops listed->wpOp P ops Q i (X (listed.setIfInBounds i I)) a w)
  (R:∀listed a w,listed.size=ops.size->X listed a w->Region.ready md ops listed=[]->Q .normal a w):
  ∀(fuel:Nat) (listed:Array Bool) (a:Act) (w:K),listed.size=ops.size->yF listed<=fuel->X listed a w->wpAny P md ops Q fuel listed a w:=by
 intro fuel
 induction fuel with
 |zero=>
  intro listed a w A D B;have C:Region.ready md ops listed=[]:=YW (by omega);exact⟨C,R listed a w A B C⟩
 |succ fuel ih=>
  intro listed a w A D B;refine⟨R listed a w A B,λi c=>wpOp_mono (λh w' e=>ih _ h w' (by simpa using A) ?_ e) (hstep listed a w i A B c)⟩;have:=NX (Te.1 c).1;omega
def fJ (ops:Array Oper):List Tmp:=ops.toList.filterMap (·.dst)
structure FrOf (ops:Array Oper)(a0 a:Act):Prop where
 size:a.tmps.size=a0.tmps.size
 defers:a.defers=a0.defers
 other:∀t,(fJ ops).contains t=false->a.eval (.tmp t)=a0.eval (.tmp t)
theorem FrOf.put(h:FrOf ops a0 a)(D:ops[i]?=J o)(v:E):FrOf ops a0 (a.put o.dst v):=by
 refine⟨by rw[Act.size_put];exact h.size,by rw[Act.defers_put'];exact h.defers,λt B=>?_⟩;rw[<-h.other t B]
 cases hd:o.dst with
 |none=>rfl
 |some d=>
  refine Act.eval_put_ne _ _ _ _ λe=>?_;subst e;have:d∈fJ ops:=List.mem_filterMap.2 ⟨o,by rw[Array.mem_toList_iff];exact Array.mem_of_getElem? D,hd⟩;simp[this]at B
def AllOps (F:Nat->Oper->Prop):Nat->List Oper->Prop
 |_,[]=>True
 |k,o::l=>F k o/\AllOps F (k+1) l
theorem AllOps.get{F:Nat->Oper->Prop}:∀(l:List Oper) (k:Nat),AllOps F k l->∀i o,l[i]?=J o->F (k+i) o
 |[],_,_,i,o,h=>by simp at h
 |x::l,k,h,0,o,hi=>by simp at hi;subst hi;exact h.1
 |x::l,k,h,i+1,o,hi=>by
  have:=AllOps.get l (k+1) h.2 i o (by simpa using hi);rw[show k+(i+1)=k+1+i by omega];exact this
theorem VN(hb:(List.range ops.size).all (λi=>((ops[i]?).map (·.after.all λe=> !Region.binds .any e||decide (e.on<i))).getD I)=I):
  ∀listed:Array Bool,listed.size=ops.size->Region.ready .any ops listed=[]->∀j,j<ops.size->listed.getD j O=I:=by
 intro listed hs D j
 induction j using Nat.strongRecOn with
 |_ j ih=>
  intro A;by_cases h:listed.getD j O=I
  .exact h
  exfalso
  have C:j<listed.size:=by omega
  have F:listed.getD j I=O:=by
   simp only[Array.getD,C,dif_pos]at h|-
   simpa using h
  have:j∈Region.ready .any ops listed:=by
   refine Te.2 ⟨F,ops[j],by simp[A],λe X R=>?_⟩;have:=Zc.1 hb j (by simpa using A);simp only[A,Array.getElem?_eq_getElem,Option.map_some,Option.getD_some]at this;have B:=(Hf.1 this) e X;rw[R,If,vf]at B;have E:=ih e.on (by simpa using B) (by have:=ye B;omega)
   simpa using E
  rw[D]at this;cases this
def pD (ops:Array Oper)(B:List Tmp):Bool:=
 (List.range ops.size).all λi=>(List.range ops.size).all λj=>i==j||(match(ops[i]?).bind (·.dst) with
  |some d=>d !=B.getD j 0||((ops[j]?).map (·.after.any λe=>Region.binds .any e&&e.on==i)).getD O
  |none=>I)
def aE (P:Program)(ops:Array Oper)(Q:Exit->Act->K->Prop)(a0:Act)(R:K->Prop)(B:List Tmp)(ψ:Nat->E->K->Prop)(i:Nat)(o:Oper):Prop:=
 ∀a w,FrOf ops a0 a->R w->(∀e∈o.after.toList,Region.binds .any e=I->ψ e.on (a.eval (.tmp (B.getD e.on 0))) w)->
  wpOp P ops Q i (λD w'=>∃v,D=a.put o.dst v/\R w'/\ψ i (D.eval (.tmp (B.getD i 0))) w'/\∀j u,j≠i->ψ j u w->ψ j u w') a w
def waitsFor (ops:Array Oper)(i:Nat):List Nat:=((ops[i]?).map λo=>(o.after.toList.filter (Region.binds .any)).map (·.on)).getD []
def ancOf (ops:Array Oper):Nat->List Nat->List Nat
 |0,S=>S
 |n+1,S=>ancOf ops n (S++S.flatMap (waitsFor ops)).eraseDups
def lE (ops:Array Oper)(k:Nat):Bool:=
 (List.range ops.size).all λi=>decide (i<k)||(List.range i).all λj=>(ancOf ops 8 (waitsFor ops i)).contains j
theorem qP(R:∀j o,ops[j]?=J o->listed.getD j O=I->∀e∈o.after,Region.binds .any e=I->listed.getD e.on O=I):∀(n:Nat) (S:List Nat),(∀j∈S,listed.getD j O=I)->∀j∈ancOf ops n S,listed.getD j O=I:=by
 intro n
 induction n with
 |zero=>intro S h j B;exact h j B
 |succ n ih=>
  intro S h j B;refine ih _ ?_ j B;intro x C;rw[List.mem_eraseDups]at C;rcases Mc.1 C with h1|h1
  .exact h x h1
  .obtain⟨y,D,A⟩:=ag.1 h1;unfold waitsFor at A
   cases ho:ops[y]? with
   |none=>rw[ho]at A;simp at A
   |some o=>
    rw[ho]at A;simp only[Option.map_some,Option.getD_some]at A;obtain⟨e,E,rfl⟩:=Wc.1 A;obtain⟨F,X⟩:=Xd.1 E;exact R y o ho (h y D) e (by simpa using F) X
theorem xR{j:Nat}(h:lE ops k=I)(c:i<ops.size)(hk:k<=i)(l:j<i)(X:i∈Region.ready .any ops listed)
  (R:∀j o,ops[j]?=J o->listed.getD j O=I->∀e∈o.after,Region.binds .any e=I->listed.getD e.on O=I):listed.getD j O=I:=by
 have h1:=Zc.1 h i (ae.2 c);rw[Dg]at h1;rcases h1 with h1|h1
 .have:=ye h1;omega
 .have E:=Zc.1 h1 j (ae.2 l);obtain⟨_,o,C,B⟩:=Te.1 X;refine qP R 8 (waitsFor ops i) ?_ j (by simpa using E);intro x A;unfold waitsFor at A;rw[C]at A;simp only[Option.map_some,Option.getD_some]at A;obtain⟨e,D,rfl⟩:=Wc.1 A;obtain⟨q,F⟩:=Xd.1 D
  simpa using B e (by simpa using q) F
theorem WW(h:k<n):(List.range n).drop k=k::(List.range n).drop (k+1):=by
 rw[me (by simpa using h),List.getElem_range]
def SK (P:Program)(ops:Array Oper)(Q:Exit->Act->K->Prop)(a0:Act)(m:Nat)(R:E->K->Prop)(D:List Tmp)(ψ:Nat->E->E->K->Prop)(i:Nat)(o:Oper):Prop:=
 ∀a w,FrOf ops a0 a->R (a.eval (.tmp m)) w->(∀e∈o.after.toList,Region.binds .any e=I->ψ e.on (a.eval (.tmp (D.getD e.on 0))) (a.eval (.tmp m)) w)->
  wpOp P ops Q i (λB w'=>∃v,B=a.put o.dst v/\R (B.eval (.tmp m)) w'/\ψ i (B.eval (.tmp (D.getD i 0))) (B.eval (.tmp m)) w'/\∀j x,j≠i->ψ j x (a.eval (.tmp m)) w->ψ j x (B.eval (.tmp m)) w') a w
theorem AllOps.imp{F G:Nat->Oper->Prop}(h:∀i o,F i o->G i o):∀(l:List Oper) (k:Nat),AllOps F k l->AllOps G k l
 |[],_,_=>trivial
 |_::l,k,⟨h1,h2⟩=>⟨h _ _ h1,AllOps.imp h l (k+1) h2⟩
def qT (P:Program)(ops:Array Oper)(Q:Exit->Act->K->Prop)(a0:Act)(m s:Nat)(R:Bool->E->K->Prop)(D:List Tmp)(ψ:Bool->Nat->E->E->K->Prop)(i:Nat)(o:Oper):Prop:=
 ∀b a w,(i=m->b=O)->((ancOf ops 8 (waitsFor ops m)).contains i=I->b=O)->FrOf ops a0 a->R b (a.eval (.tmp s)) w->(∀e∈o.after.toList,Region.binds .any e=I->ψ b e.on (a.eval (.tmp (D.getD e.on 0))) (a.eval (.tmp s)) w)->
  wpOp P ops Q i (λB w'=>∃v,B=a.put o.dst v/\R (b||i==m) (B.eval (.tmp s)) w'/\ψ (b||i==m) i (B.eval (.tmp (D.getD i 0))) (B.eval (.tmp s)) w'/\∀j u,j≠i->ψ b j u (a.eval (.tmp s)) w->ψ (b||i==m) j u (B.eval (.tmp s)) w') a w
theorem PM(k m s:Nat)(B9:m<k)(R:Bool->E->K->Prop)(sl:List Tmp)(ψ:Bool->Nat->E->E->K->Prop)(hm:P.follows .mixedOrders=I)(C1:pD ops sl=I)
  (hback:(List.range ops.size).all (λi=>((ops[i]?).map (·.after.all λe=> !Region.binds .any e||decide (e.on<i))).getD I)=I) (B4:lE ops k=I) (C4:k<=ops.size)
  (hR:R O (a0.eval (.tmp s)) {w0 with drawn:=w0.drawn+1}) (hstep:AllOps (qT P ops Q a0 m s R sl ψ) 0 (ops.toList.take k))
  (B6:∀a w,FrOf ops a0 a->R I (a.eval (.tmp s)) w->(∀j,j<k->ψ I j (a.eval (.tmp (sl.getD j 0))) (a.eval (.tmp s)) w)->wpOps P ops Q ((List.range ops.size).drop k) a w):
  (Code.region id ops I).wp P Q a0 w0:=by
 refine wp_region_any hm (tO (λlisted a w=>
  ((∀i,k<=i->listed.getD i O=O)/\FrOf ops a0 a/\R (listed.getD m O) (a.eval (.tmp s)) w/\(∀j o,ops[j]?=J o->listed.getD j O=I->∀e∈o.after,Region.binds .any e=I->listed.getD e.on O=I)/\∀j,j<k->listed.getD j O=I->ψ (listed.getD m O) j (a.eval (.tmp (sl.getD j 0))) (a.eval (.tmp s)) w)\/
  (∃i,k<=i/\i<=ops.size/\(∀j,j<i->listed.getD j O=I)/\(∀j,i<=j->listed.getD j O=O)/\wpOps P ops Q ((List.range ops.size).drop i) a w)) ?_ ?_ _ _ _ _ (by simp) ?_ ?_)
 .rintro listed a w i hs hI hi;obtain⟨A0,o,n,F⟩:=Te.1 hi;have U:i<ops.size:=(Wb.1 n).1
  have B7:listed.getD i O=O:=by
   have:i<listed.size:=by omega
   simp only[Array.getD,this,dif_pos]at A0|-;exact A0
  have r:∀j,(listed.setIfInBounds i I).getD j O=I->j=i\/listed.getD j O=I:=by
   intro j A;by_cases D:j=i
   .exact .inl D
   .rw[Ie O (qe D)]at A;exact .inr A
  have C0:∀j,listed.getD j O=I->(listed.setIfInBounds i I).getD j O=I:=by
   intro j A;by_cases D:j=i
   .subst D;rw[B7]at A;cases A
   .rw[Ie O (qe D)];exact A
  have l:(listed.setIfInBounds i I).getD i O=I:=by
   have:i<listed.size:=by omega
   simp[Array.getD,this]
  have X:∀{a:Act} {w:K},k<=i->(∀j,j<i->listed.getD j O=I)->(∀j,i<=j->listed.getD j O=O)->wpOps P ops Q ((List.range ops.size).drop i) a w->
    wpOp P ops Q i (λY p=>((∀x,k<=x->(listed.setIfInBounds i I).getD x O=O)/\FrOf ops a0 Y/\R ((listed.setIfInBounds i I).getD m O) (Y.eval (.tmp s)) p/\(∀j o,ops[j]?=J o->(listed.setIfInBounds i I).getD j O=I->∀e∈o.after,Region.binds .any e=I->(listed.setIfInBounds i I).getD e.on O=I)/\∀j,j<k->(listed.setIfInBounds i I).getD j O=I->ψ ((listed.setIfInBounds i I).getD m O) j (Y.eval (.tmp (sl.getD j 0))) (Y.eval (.tmp s)) p)\/
     (∃x,k<=x/\x<=ops.size/\(∀j,j<x->(listed.setIfInBounds i I).getD j O=I)/\(∀j,x<=j->(listed.setIfInBounds i I).getD j O=O)/\wpOps P ops Q ((List.range ops.size).drop x) Y p)) a w:=by
   intro a w A9 B B5 Z;rw[WW U,Zd]at Z;refine wpOp_mono (λY p h'=>.inr ⟨i+1,by omega,by omega,λj A=>?_,λj A=>?_,h'⟩) Z
   .by_cases D:j=i
    .subst D;exact l
    .exact C0 j (B j (by omega))
   .rw[Ie O (by omega)];exact B5 j (by omega)
  rcases hI with⟨C,hF,B3,M,hp⟩|⟨x,B8,C3,B,B5,Z⟩
  .by_cases hik:i<k
   .have h:=hstep.get _ _ i o (by rw[be hik];simpa using n);rw[Dc]at h;have c:∀e∈o.after,Region.binds .any e=I->listed.getD e.on O=I:=λe B2 hb=>by simpa using F e B2 hb
    have A3:∀e∈o.after,Region.binds .any e=I->e.on<k:=by
     intro e B2 A8;have h1:=Zc.1 hback i (by simpa using U);simp only[n,Option.map_some,Option.getD_some]at h1;have h2:=(Hf.1 h1) e B2;rw[A8,If,vf]at h2;have:=ye h2;omega
    have A6:listed.getD m O=I->∀x∈waitsFor ops m,listed.getD x O=I:=by
     intro q x B1;unfold waitsFor at B1;have z:ops[m]?=J ops[m]:=by rw[Df]
     rw[z]at B1;simp only[Option.map_some,Option.getD_some]at B1;obtain⟨e,B2,rfl⟩:=Wc.1 B1;obtain⟨h3,S⟩:=Xd.1 B2;exact M m _ z q e (by simpa using h3) S
    refine wpOp_mono ?_ (h (listed.getD m O) a w (λe=>by rw[<-e];exact B7) (λhc=>by
     cases q:listed.getD m O with
     |false=>rfl
     |true=>
      have:=qP M 8 (waitsFor ops m) (A6 q) i (by simpa using hc);rw[B7]at this
      cases this) hF B3 λe B2 hb=>hp _ (A3 e (by simpa using B2) hb) (c e (by simpa using B2) hb))
    rintro Y p ⟨v,rfl,A5,A4,hk⟩
    have u:(listed.setIfInBounds i I).getD m O=(listed.getD m O||i==m):=by
     by_cases him:i=m
     .subst him;rw[l];simp
     .rw[Ie O him,Ec.2 him,kf]
    refine .inl ⟨λy hy=>?_,hF.put n v,(by rw[u];exact A5),?_,λj C2 A=>?_⟩
    .rw[Ie O (by omega)];exact C y hy
    .intro j oj L A e B2 hb;rcases r j A with rfl|A
     .rw[n]at L;cases L;exact C0 _ (c e B2 hb)
     .exact C0 _ (M j oj L A e B2 hb)
    .rw[u];rcases r j A with rfl|hj2
     .exact A4
     .have D:j≠i:=by intro e;subst e;rw[B7]at hj2;cases hj2
      have h1:=hk j _ D (hp j C2 hj2)
      have h2:(a.put o.dst v).eval (.tmp (sl.getD j 0))=a.eval (.tmp (sl.getD j 0)):=by
       cases hd:o.dst with
       |none=>rfl
       |some d=>
        refine Act.eval_put_ne _ _ _ _ λe=>?_;have b:j<ops.size:=by omega
        have h3:=Zc.1 (Zc.1 C1 i (by simpa using U)) j (by simpa using b);simp only[n,Option.bind_some,hd,Bool.or_eq_true]at h3;rcases h3 with h3|h3|h3
        .exact D (by simpa using(je.1 h3).symm)
        .simp[e]at h3
        .have L:ops[j]?=J ops[j]:=by simp[b]
         simp only[L,Option.map_some,Option.getD_some]at h3;obtain⟨x,B1,S⟩:=Ve.1 (Array.any_toList.trans h3);simp only[Bool.and_eq_true,beq_iff_eq]at S;have:=M j _ L hj2 x (by simpa using B1) S.1;rw[S.2,B7]at this;cases this
      rw[h2];exact h1
   .have A1:k<=i:=by omega
    have N:∀j,j<i->listed.getD j O=I:=λj A=>xR B4 U A1 A hi M
    have A7:i=k:=by
     by_cases B1:i=k
     .exact B1
     .have h1:=N k (by omega);rw[C k (Sb _)]at h1;cases h1
    subst A7;exact X (Sb _) N C (B6 a w hF (by rw[N m B9]at B3;exact B3) λj A=>by have:=hp j A (N j A);rw[N m B9]at this;exact this)
  .have A2:i=x:=by
    rcases Nat.lt_trichotomy i x with h1|h1|h1
    .have:=B i h1;rw[B7]at this;cases this
    .exact h1
    .have M:∀j o,ops[j]?=J o->listed.getD j O=I->∀e∈o.after,Region.binds .any e=I->listed.getD e.on O=I:=by
      intro j o L A e B2 hb
      have B0:j<x:=by
       rcases Kd j x with h2|h2
       .exact h2
       .rw[B5 j h2]at A;cases A
      have b:j<ops.size:=by omega
      have h3:=Zc.1 hback j (by simpa using b);simp only[L,Option.map_some,Option.getD_some]at h3;have S:=(Hf.1 h3) e B2;rw[hb,If,vf]at S;have:=ye S;exact B e.on (by omega)
     have:=xR B4 U (by omega) h1 hi M;rw[B5 x (Sb _)]at this;cases this
   subst A2;exact X B8 B B5 Z
 .rintro listed a w hs hI hr;have F:=VN hback listed hs hr;rcases hI with⟨C,hF,B3,M,hp⟩|⟨x,B8,C3,B,B5,Z⟩
  .have hk:k=ops.size:=by
    rcases Kd k ops.size with h|h
    .have:=F k h;rw[C k (Sb _)]at this;cases this
    .omega
   have:=B6 a w hF (by rw[F m (by omega)]at B3;exact B3) λj A=>by have:=hp j A (F j (by omega));rw[F m (by omega)]at this;exact this
   rw[hk,Gd (by simp)]at this;exact this
  .have B1:x=ops.size:=by
    rcases Kd x ops.size with h|h
    .have:=F x h;rw[B5 x (Sb _)]at this;cases this
    .omega
   rw[B1,Gd (by simp)]at Z;exact Z
 .simp[yF,List.countP_replicate]
 .have C:∀j,(Array.replicate ops.size O).getD j O=I->False:=by
   intro j A;rcases Kd j ops.size with h|h
   .simp[Array.getD,h]at A
   .simp[Array.getD,Nat.not_lt.2 h]at A
  have e0:(Array.replicate ops.size O).getD m O=O:=by
   cases B1:(Array.replicate ops.size O).getD m O with
   |false=>rfl
   |true=>exact(C m B1).elim
  refine .inl ⟨λi _=>?_,⟨rfl,rfl,λ_ _=>rfl⟩,(by rw[e0];exact hR),λj _ _ A=>(C j A).elim,λj _ A=>(C j A).elim⟩
  cases B1:(Array.replicate ops.size O).getD i O with
  |false=>rfl
  |true=>exact(C i B1).elim
theorem YL(k m:Nat)(R:E->K->Prop)(D:List Tmp)(ψ:Nat->E->E->K->Prop)(q:P.follows .mixedOrders=I)(l:pD ops D=I)
  (hback:(List.range ops.size).all (λi=>((ops[i]?).map (·.after.all λe=> !Region.binds .any e||decide (e.on<i))).getD I)=I) (B:lE ops k=I) (c:k<=ops.size)
  (r:R (a0.eval (.tmp m)) {w0 with drawn:=w0.drawn+1}) (hstep:AllOps (SK P ops Q a0 m R D ψ) 0 (ops.toList.take k))
  (X:∀a w,FrOf ops a0 a->R (a.eval (.tmp m)) w->(∀j,j<k->ψ j (a.eval (.tmp (D.getD j 0))) (a.eval (.tmp m)) w)->wpOps P ops Q ((List.range ops.size).drop k) a w) (h0:0<k:=by omega):
  (Code.region id ops I).wp P Q a0 w0:=
 PM k 0 m h0 (λ_=>R) D (λ_=>ψ) q l hback B c r (AllOps.imp (λ_ _ h _ a w _ _=>h a w) _ _ hstep) X
theorem nI(k:Nat)(R:K->Prop)(D:List Tmp)(ψ:Nat->E->K->Prop)(l:P.follows .mixedOrders=I)(h:pD ops D=I)
  (hback:(List.range ops.size).all (λi=>((ops[i]?).map (·.after.all λe=> !Region.binds .any e||decide (e.on<i))).getD I)=I) (B:lE ops k=I) (c:k<=ops.size)
  (q:R {w0 with drawn:=w0.drawn+1}) (hstep:AllOps (aE P ops Q a0 R D ψ) 0 (ops.toList.take k))
  (X:∀a w,FrOf ops a0 a->R w->(∀j,j<k->ψ j (a.eval (.tmp (D.getD j 0))) w)->wpOps P ops Q ((List.range ops.size).drop k) a w) (h0:0<k:=by omega):
  (Code.region id ops I).wp P Q a0 w0:=
 YL k 0 (λ_=>R) D (λi v _=>ψ i v) l h hback B c q hstep X h0
theorem jb(R:K->Prop)(B:List Tmp)(ψ:Nat->E->K->Prop)(l:P.follows .mixedOrders=I)(c:pD ops B=I)
  (hback:(List.range ops.size).all (λi=>((ops[i]?).map (·.after.all λe=> !Region.binds .any e||decide (e.on<i))).getD I)=I)
  (q:R {w0 with drawn:=w0.drawn+1}) (hstep:AllOps (aE P ops Q a0 R B ψ) 0 ops.toList)
  (D:∀a w,FrOf ops a0 a->R w->(∀j,j<ops.size->ψ j (a.eval (.tmp (B.getD j 0))) w)->Q .normal a w) (h0:0<ops.size:=by decide):
  (Code.region id ops I).wp P Q a0 w0:=by
 exact nI ops.size R B ψ l c hback (Zc.2 λi X=>by rw[ae]at X;simp[X]) (Sb _) q (by rw[zd (by simp)];exact hstep) (λa w s r h=>by rw[Gd (by simp)];exact D a w s r h) h0
theorem bB(D:FrOf ops a0 a)(B:a0.tmps.size=n)(hd:d<n):(a.put (J d) v).eval (.tmp d)=v:=
 Act.eval_put_same _ _ _ (by rw[D.size,B];exact hd)
theorem _root_.Go.Act.eval_func(a:Act)(f:FuncId):a.eval (.func f)=.func (.func f) #[] #[]:=rfl
theorem _root_.Go.Act.eval_const(a:Act)(v:E):a.eval (.const v)=v:=rfl
theorem MG(a:Act)(n:Nat)(B:a.tmps.size=n)(hd:a.defers=[]):a=⟨((List.range n).map λt=>a.eval (.tmp t)).toArray,[]⟩:=by
 obtain⟨ts,ds⟩:=a;simp only at B hd;subst hd B
 congr 1
 refine Array.ext (by simp) λi D h2=>?_;simp[Act.eval,D]
theorem mC{B:Act->K->Prop}(v:E)(R:ops[i]?=J o)(D:o.guard=Z)
  (hrun:(execOp a.eval o).run P w=.ok (.value v) w) (h:B (a.put o.dst v) w):wpOp P ops Q i B a w:=by
 unfold wpOp;have A:Region.wanted o (yielded ops a.tmps)=I:=by simp[Region.wanted,D]
 simp only[R,A,if_true,Oper.wp,hrun,Oper.upon];exact .inl h
theorem bH{B:Act->K->Prop}(v:E)(R:ops[i]?=J o)(D:o.guard=Z)
  (hrun:(execOp a.eval o).run P w=.ok (.value v) w') (h:B (a.put o.dst v) w'):wpOp P ops Q i B a w:=by
 unfold wpOp;have A:Region.wanted o (yielded ops a.tmps)=I:=by simp[Region.wanted,D]
 simp only[R,A,if_true,Oper.wp,hrun,Oper.upon];exact .inl h
theorem IG{B:Act->K->Prop}(R:ops[i]?=J o)(D:o.guard=Z)
  (hrun:(execOp a.eval o).run P w=.ok .skip w') (h:B (a.put o.dst undef) w'):wpOp P ops Q i B a w:=by
 unfold wpOp;have A:Region.wanted o (yielded ops a.tmps)=I:=by simp[Region.wanted,D]
 simp only[R,A,if_true,Oper.wp,hrun,Oper.upon];exact .inl h
theorem iT(hd:(ops[g]?).bind (·.dst)=J d)(B:a.eval (.tmp d)=Y b):yielded ops a.tmps g=J b:=by
 unfold yielded;rw[hd]
 have A:a.tmps[d]?=J (Y b):=by
  simp only[Act.eval,Array.getD_eq_getD_getElem?]at B
  cases h:a.tmps[d]? with
  |none=>rw[h]at B;simp[undef]at B
  |some x=>rw[h]at B;simp at B;rw[B]
 simp[A]
theorem PO(B:o.guard=J (g,b))(hd:(ops[g]?).bind (·.dst)=J d)(D:a.eval (.tmp d)=Y b):Region.wanted o (yielded ops a.tmps)=I:=by
 simp[Region.wanted,B,iT hd D]
theorem eS{B:Act->K->Prop}(v:E)(R:ops[i]?=J o)(D:Region.wanted o (yielded ops a.tmps)=I)
  (hrun:(execOp a.eval o).run P w=.ok (.value v) w) (h:B (a.put o.dst v) w):wpOp P ops Q i B a w:=by
 unfold wpOp;simp only[R,D,if_true,Oper.wp,hrun,Oper.upon];exact .inl h
theorem gZ{D:Act->K->Prop}(f:FuncId)(args:Array E)(c:ops[i]?=J o)(R:Region.wanted o (yielded ops a.tmps)=I)
  (hrun:(execOp a.eval o).run P w=.ok (.enter f args) w) (post:Ending->K->Prop) (X:Calls P f args w post)
  (h:∀e w',post e w'->∃v,e=N v/\D (a.put o.dst v) w'):wpOp P ops Q i D a w:=by
 unfold wpOp;simp only[c,R,if_true,Oper.wp,hrun,Oper.upon];refine .inl (X.mono ?_);intro e w' A;obtain⟨v,rfl,B⟩:=h e w' A;exact B
theorem RY{B:Act->K->Prop}(R:ops[i]?=J o)(D:o.guard=Z)(h:o.wp P a w B Q):wpOp P ops Q i B a w:=by
 unfold wpOp;have A:Region.wanted o (yielded ops a.tmps)=I:=by simp[Region.wanted,D]
 simp only[R,A,if_true];exact .inl h
theorem sM{R:Act->K->Prop}(B:TypeId)(x y:Operand)(g:Nat)(cells:Array E)(j:ops[i]?=J o)(D:o.guard=Z)(X:o.op=.store B x y)
  (l:a.eval x=C (J ⟨g,0,Z⟩)) (c:a.eval y=F cells) (t:TypeId) (old:Array E) (e:w.heap[g]?=J (T old t (0,0))) (q:(P.info? B).map (·.size)=J cells.size)
  (hold:old.size=cells.size) (h1:cells.all (·.oneCell')=I) (h:R (a.put o.dst undef) (w.setRow g cells)):wpOp P ops Q i R a w:=
 RY j D (wp_store_row B x y X g cells l c t old e q hold h1 h)
theorem cE{D:Act->K->Prop}(f:FuncId)(args:Array E)(c:ops[i]?=J o)(R:o.guard=Z)
  (hrun:(execOp a.eval o).run P w=.ok (.enter f args) w) (post:Ending->K->Prop) (X:Calls P f args w post)
  (h:∀e w',post e w'->∃v,e=N v/\D (a.put o.dst v) w'):wpOp P ops Q i D a w:=by
 unfold wpOp;have A:Region.wanted o (yielded ops a.tmps)=I:=by simp[Region.wanted,R]
 simp only[c,A,if_true,Oper.wp,hrun,Oper.upon];refine .inl (X.mono ?_);intro e w' B;obtain⟨v,rfl,C⟩:=h e w' B;exact C
theorem quiet{s:Nat}{R:K->Prop}{ψ:Nat->E->K->Prop}{B:Option Tmp}(v:E)(e:ops[i]?=J o)(c:o.guard=Z)
  (hrun:(execOp a.eval o).run P w=.ok (.value v) w) (r:FrOf ops a0 a) (l:a0.tmps.size=n) (q:R w) (h:ψ i v w) (h1:o.dst=J d:=by rfl) (h2:B=J d:=by rfl) (X:s=d:=by rfl) (hd:d<n:=by decide):
  wpOp P ops Q i (λD w'=>∃v,D=a.put B v/\R w'/\ψ i (D.eval (.tmp s)) w'/\∀j u,j≠i->ψ j u w->ψ j u w') a w:=by
 subst h2 X;refine mC v e c hrun ⟨v,by rw[h1],q,?_,λ_ _ _ h=>h⟩;rw[h1,bB r l hd];exact h
end
def Is (x:E):E->K->Prop:=λv _=>v=x
@[reducible] def sw {α:Type} (b:Bool) (p q:α):α:=match b with
 |true=>p
 |false=>q
def lf (L:List (E->K->Prop))(i:Nat):E->K->Prop:=L.getD i λ_ _=>True
def Holds (L:List (E->K->Prop))(w w':K):Prop:=∀i v,lf L i v w->lf L i v w'
section
variable {L:List (Value->World->Prop)} {w w':World} {x:Value} {p:Value->World->Prop}
theorem Holds.nil:Holds [] w w':=λ_ _ h=>h
theorem Holds.cons(h:Holds L w w')(D:∀v,p v w->p v w'):Holds (p::L) w w':=λi v B=>by
 cases i with
 |zero=>exact D v B
 |succ i=>exact h i v B
theorem Holds.is(h:Holds L w w'):Holds (Is x::L) w w':=h.cons λ_ h=>h
theorem Holds.any(h:Holds L w w'):Holds ((λ_ _=>True)::L) w w':=h.cons λ_ h=>h
end
def ZC (L:List (E->K->Prop)):Prop:=∀w w',Below w.heap.size w w'->Holds L w w'
section
variable {P:Program} {ops:Array Oper} {Q:Exit->Act->World->Prop} {a0:Act} {W:World} {L:List (Value->World->Prop)} {sl:List Tmp} {i n d:Nat} {o:Oper}
theorem OA(j:a0.tmps.size=n)(h:∀a w,FrOf ops a0 a->Below W.heap.size W w->(∀e∈o.after.toList,Region.binds .any e=I->lf L e.on (a.eval (.tmp (sl.getD e.on 0))) w)->∃v,(execOp a.eval o).run P w=.ok (.value v) w/\lf L i v w)
  (c:ops[i]?=J o:=by rfl) (X:o.guard=Z:=by rfl) (h1:o.dst=J d:=by rfl) (R:sl.getD i 0=d:=by rfl) (hd:d<n:=by decide):aE P ops Q a0 (λw=>Below W.heap.size W w) sl (lf L) i o:=by
 intro a w B A C;obtain⟨v,hrun,D⟩:=h a w B A C;refine mC v c X hrun ⟨v,rfl,A,?_,λ_ _ _ h=>h⟩;rw[R,h1,bB B j hd];exact D
theorem zI(l:a0.tmps.size=n)(q:ZC L)(h:∀a w,FrOf ops a0 a->Below W.heap.size W w->(∀e∈o.after.toList,Region.binds .any e=I->lf L e.on (a.eval (.tmp (sl.getD e.on 0))) w)->∃v w',(execOp a.eval o).run P w=.ok (.value v) w'/\lf L i v w'/\Below w.heap.size w w')
  (c:ops[i]?=J o:=by rfl) (X:o.guard=Z:=by rfl) (h1:o.dst=J d:=by rfl) (R:sl.getD i 0=d:=by rfl) (hd:d<n:=by decide):aE P ops Q a0 (λw=>Below W.heap.size W w) sl (lf L) i o:=by
 intro a w B A C;obtain⟨v,w',hrun,D,hb⟩:=h a w B A C;refine bH v c X hrun ⟨v,rfl,vA A hb,?_,λj u _ h=>q w w' hb j u h⟩;rw[R,h1,bB B l hd];exact D
theorem OC(l:a0.tmps.size=n)(q:ZC L)(h:∀a w,FrOf ops a0 a->Below W.heap.size W w->(∀e∈o.after.toList,Region.binds .any e=I->lf L e.on (a.eval (.tmp (sl.getD e.on 0))) w)->∃f args,(execOp a.eval o).run P w=.ok (.enter f args) w/\Calls P f args w λe w'=>∃v,e=N v/\lf L i v w'/\Below w.heap.size w w')
  (c:ops[i]?=J o:=by rfl) (X:o.guard=Z:=by rfl) (h1:o.dst=J d:=by rfl) (R:sl.getD i 0=d:=by rfl) (hd:d<n:=by decide):aE P ops Q a0 (λw=>Below W.heap.size W w) sl (lf L) i o:=by
 intro a w B A C;obtain⟨f,args,hrun,E⟩:=h a w B A C;refine cE f args c X hrun _ E ?_;rintro e w' ⟨v,rfl,D,hb⟩;refine⟨v,rfl,v,rfl,vA A hb,?_,λj u _ h=>q w w' hb j u h⟩;rw[R,h1,bB B l hd];exact D
theorem SG(L:List (E->K->Prop))(R:P.follows .mixedOrders=I)(D:pD ops (ops.toList.map (·.dst.getD 0))=I)
  (hback:(List.range ops.size).all (λi=>((ops[i]?).map (·.after.all λe=> !Region.binds .any e||decide (e.on<i))).getD I)=I) (X:Below W.heap.size W {w0 with drawn:=w0.drawn+1})
  (hstep:AllOps (aE P ops Q a0 (λw=>Below W.heap.size W w) (ops.toList.map (·.dst.getD 0)) (lf L)) 0 ops.toList)
  (B:∀a w,FrOf ops a0 a->Below W.heap.size W w->(∀j,j<ops.size->lf L j (a.eval (.tmp ((ops.toList.map (·.dst.getD 0)).getD j 0))) w)->Q .normal a w) (h0:0<ops.size:=by decide):(Code.region id ops I).wp P Q a0 w0:=
 jb _ _ _ R D hback X hstep B h0
theorem tG(k:Nat)(L:List (E->K->Prop))(r:P.follows .mixedOrders=I)(h:pD ops (ops.toList.map (·.dst.getD 0))=I)
  (hback:(List.range ops.size).all (λi=>((ops[i]?).map (·.after.all λe=> !Region.binds .any e||decide (e.on<i))).getD I)=I) (X:lE ops k=I) (s:Below W.heap.size W {w0 with drawn:=w0.drawn+1})
  (hstep:AllOps (aE P ops Q a0 (λw=>Below W.heap.size W w) (ops.toList.map (·.dst.getD 0)) (lf L)) 0 (ops.toList.take k))
  (c:∀a w,FrOf ops a0 a->Below W.heap.size W w->(∀j,j<k->lf L j (a.eval (.tmp ((ops.toList.map (·.dst.getD 0)).getD j 0))) w)->∃w',(execOp a.eval os).run P w=.ok .skip w'/\Q .normal a w')
  (R:ops.toList.drop k=[os]:=by rfl) (q:os.guard=Z:=by rfl) (hd:os.dst=Z:=by rfl) (h0:0<k:=by omega):(Code.region id ops I).wp P Q a0 w0:=by
 have A:ops.size=k+1:=by
  have:=congrArg List.length R;simp only[List.length_drop,Array.length_toList,List.length_cons,List.length_nil]at this;omega
 have B:ops[k]?=J os:=by
  have:=congrArg (·[0]?) R
  simpa using this
 refine nI k _ _ _ r h hback X (by omega) s hstep λa w y u l=>?_;obtain⟨w',hrun,C⟩:=c a w y u l;have D:(List.range ops.size).drop k=[k]:=by rw[A,ce,bg (by simp),Gd (by simp)];rfl
 rw[D,Zd];refine IG B q hrun ?_;rw[hd];exact C
theorem QI(k:Nat)(L:List (E->K->Prop))(c:P.follows .mixedOrders=I)(X:pD ops (ops.toList.map (·.dst.getD 0))=I)
  (hback:(List.range ops.size).all (λi=>((ops[i]?).map (·.after.all λe=> !Region.binds .any e||decide (e.on<i))).getD I)=I) (B:lE ops k=I) (R:decide (k<=ops.size)=I) (h:Below W.heap.size W {w0 with drawn:=w0.drawn+1})
  (hstep:AllOps (aE P ops Q a0 (λw=>Below W.heap.size W w) (ops.toList.map (·.dst.getD 0)) (lf L)) 0 (ops.toList.take k))
  (D:∀a w,FrOf ops a0 a->Below W.heap.size W w->(∀j,j<k->lf L j (a.eval (.tmp ((ops.toList.map (·.dst.getD 0)).getD j 0))) w)->wpOps P ops Q ((List.range ops.size).drop k) a w) (h0:0<k:=by omega):(Code.region id ops I).wp P Q a0 w0:=
 nI k _ _ _ c X hback B (ye R) h hstep D h0
theorem cH{l:List Nat}(q:a0.tmps.size=n)(R:FrOf ops a0 a)(f:FuncId)(args:Array E)(X:(execOp a.eval o).run P w=.ok (.enter f args) w)(r:Calls P f args w λe w'=>∃v,e=N v/\∀B,FrOf ops a0 B->B.eval (.tmp d)=v->(∀t,t≠d->B.eval (.tmp t)=a.eval (.tmp t))->wpOps P ops Q l B w')
  (D:ops[i]?=J o:=by rfl) (j:o.guard=Z:=by rfl) (h1:o.dst=J d:=by rfl) (hd:d<n:=by decide):wpOps P ops Q (i::l) a w:=by
 rw[Zd];refine cE f args D j X _ r ?_;rintro e w' ⟨v,rfl,h⟩;have A:=R.put D v;rw[h1]at A|-;exact⟨v,rfl,h _ A (bB R q hd) λt c=>Act.eval_put_ne _ _ _ _ (qe c)⟩
theorem xM(R:(execOp a.eval o).run P w=.ok .skip w')(h:Q .normal a w')(D:ops[i]?=J o:=by rfl)(B:o.guard=Z:=by rfl)(h1:o.dst=Z:=by rfl):wpOps P ops Q [i] a w:=by
 rw[Zd];refine IG D B R ?_;rw[h1];exact h
theorem WV(j:a0.tmps.size=n)(R:FrOf ops a0 a)(X:(execOp a.eval o).run P w=.ok (.value v) w)(h:∀B,FrOf ops a0 B->B.eval (.tmp d)=v->(∀t,t≠d->B.eval (.tmp t)=a.eval (.tmp t))->Q .normal B w)(D:ops[i]?=J o:=by rfl)(e:o.guard=Z:=by rfl)(h1:o.dst=J d:=by rfl)(hd:d<n:=by decide):wpOps P ops Q [i] a w:=by
 rw[Zd];have A:=R.put D v;refine mC v D e X ?_;rw[h1]at A|-;exact h _ A (bB R j hd) λt c=>Act.eval_put_ne _ _ _ _ (qe c)
end
theorem WI{P:Program}{ρ:Operand->E}(B:TypeId)(x y:Operand)(g:Nat)(cells:Array E)(D:o.op=.store B x y)(e:ρ x=C (J ⟨g,0,Z⟩))(R:ρ y=F cells)(t:TypeId)(old:Array E)(X:w.heap[g]?=J (T old t (0,0)))(c:(P.info? B).map (·.size)=J cells.size)
  (hold:old.size=cells.size) (h1:cells.all (·.oneCell')=I):(execOp ρ o).run P w=.ok .skip (w.setRow g cells):=by
 unfold execOp;simp only[D,e,R,Instr.storeAt,Instr.sureAddr,Sem.run_bind,Sem.run_pure,Result.andThen_ok,run_storeVar_row w g t B old cells X c hold h1]
theorem nB(a:Act)(n:Nat)(B:a.tmps.size=n)(hd:a.defers=[]):∃g:Nat->E,(∀t,a.eval (.tmp t)=g t)/\a=⟨((List.range n).map g).toArray,[]⟩:=⟨λt=>a.eval (.tmp t),λ_=>rfl,MG a n B hd⟩
section
variable {P:Program} {ops:Array Oper} {Q:Exit->Act->World->Prop}
def fE (P:Program)(ops:Array Oper)(Q:Exit->Act->K->Prop)(a0:Act)(m:Nat)(R:Bool->K->Prop)(B:List Tmp)(ψ:Bool->Nat->E->K->Prop)(i:Nat)(o:Oper):Prop:=
 ∀b a w,(i=m->b=O)->((ancOf ops 8 (waitsFor ops m)).contains i=I->b=O)->FrOf ops a0 a->R b w->(∀e∈o.after.toList,Region.binds .any e=I->ψ b e.on (a.eval (.tmp (B.getD e.on 0))) w)->
  wpOp P ops Q i (λD w'=>∃v,D=a.put o.dst v/\R (b||i==m) w'/\ψ (b||i==m) i (D.eval (.tmp (B.getD i 0))) w'/\∀j u,j≠i->ψ b j u w->ψ (b||i==m) j u w') a w
theorem gO(k m:Nat)(h:m<k)(R:Bool->K->Prop)(D:List Tmp)(ψ:Bool->Nat->E->K->Prop)(q:P.follows .mixedOrders=I)(l:pD ops D=I)
  (hback:(List.range ops.size).all (λi=>((ops[i]?).map (·.after.all λe=> !Region.binds .any e||decide (e.on<i))).getD I)=I) (B:lE ops k=I) (c:k<=ops.size)
  (r:R O {w0 with drawn:=w0.drawn+1}) (hstep:AllOps (fE P ops Q a0 m R D ψ) 0 (ops.toList.take k))
  (X:∀a w,FrOf ops a0 a->R I w->(∀j,j<k->ψ I j (a.eval (.tmp (D.getD j 0))) w)->wpOps P ops Q ((List.range ops.size).drop k) a w):
  (Code.region id ops I).wp P Q a0 w0:=
 PM k m 0 h (λb _=>R b) D (λb i v _=>ψ b i v) q l hback B c r hstep X
section
variable {a0:Act} {W:World} {L:Bool->List (Value->World->Prop)} {sl:List Tmp} {i m n d:Nat} {o:Oper} {S:World->Prop}
def tw (W:K)(S:K->Prop)(b:Bool)(w:K):Prop:=if b=I then S w else Below W.heap.size W w
theorem BB(l:a0.tmps.size=n)(R:i≠m)(h:∀b a w,FrOf ops a0 a->((ancOf ops 8 (waitsFor ops m)).contains i=I->Below W.heap.size W w)->(∀e∈o.after.toList,Region.binds .any e=I->lf (L b) e.on (a.eval (.tmp (sl.getD e.on 0))) w)->∃v,(execOp a.eval o).run P w=.ok (.value v) w/\lf (L b) i v w)
  (j:ops[i]?=J o:=by rfl) (c:o.guard=Z:=by rfl) (h1:o.dst=J d:=by rfl) (X:sl.getD i 0=d:=by rfl) (hd:d<n:=by decide):fE P ops Q a0 m (tw W S) sl (λb=>lf (L b)) i o:=by
 intro b a w _ E B A C;obtain⟨v,hrun,D⟩:=h b a w B (λq=>by rw[E q]at A;simpa[tw] using A) C;refine mC v j c hrun ⟨v,rfl,?_⟩;rw[Ec.2 R,kf,X,h1,bB B l hd];exact⟨A,D,λ_ _ _ h=>h⟩
theorem JG(r:a0.tmps.size=n)(s:ZC (L O))(X:i≠m)(R:(ancOf ops 8 (waitsFor ops m)).contains i=I)(h:∀a w,FrOf ops a0 a->Below W.heap.size W w->(∀e∈o.after.toList,Region.binds .any e=I->lf (L O) e.on (a.eval (.tmp (sl.getD e.on 0))) w)->∃f args,(execOp a.eval o).run P w=.ok (.enter f args) w/\Calls P f args w λe w'=>∃v,e=N v/\lf (L O) i v w'/\Below w.heap.size w w')
  (q:ops[i]?=J o:=by rfl) (l:o.guard=Z:=by rfl) (h1:o.dst=J d:=by rfl) (c:sl.getD i 0=d:=by rfl) (hd:d<n:=by decide):fE P ops Q a0 m (tw W S) sl (λb=>lf (L b)) i o:=by
 intro b a w _ E C y D;have B:=E R;subst B;have A:Below W.heap.size W w:=by simpa[tw] using y
 obtain⟨f,args,hrun,R⟩:=h a w C A D;refine cE f args q l hrun _ R ?_;rintro e w' ⟨v,rfl,F,hb⟩;refine⟨v,rfl,v,rfl,?_⟩;rw[Ec.2 X,kf,c,h1,bB C r hd];exact⟨by simpa[tw] using vA A hb,F,λj u _ h=>s w w' hb j u h⟩
theorem EL(q:a0.tmps.size=n)(s:ZC (L O))(R:i≠m)(r:(ancOf ops 8 (waitsFor ops m)).contains i=I)(h:∀a w,FrOf ops a0 a->Below W.heap.size W w->(∀e∈o.after.toList,Region.binds .any e=I->lf (L O) e.on (a.eval (.tmp (sl.getD e.on 0))) w)->∃v w',(execOp a.eval o).run P w=.ok (.value v) w'/\lf (L O) i v w'/\Below w.heap.size w w')
  (l:ops[i]?=J o:=by rfl) (c:o.guard=Z:=by rfl) (h1:o.dst=J d:=by rfl) (X:sl.getD i 0=d:=by rfl) (hd:d<n:=by decide):fE P ops Q a0 m (tw W S) sl (λb=>lf (L b)) i o:=by
 intro b a w _ F C y D;have B:=F r;subst B;have A:Below W.heap.size W w:=by simpa[tw] using y
 obtain⟨v,w',hrun,E,hb⟩:=h a w C A D;refine bH v l c hrun ⟨v,rfl,?_⟩;rw[Ec.2 R,kf,X,h1,bB C q hd];exact⟨by simpa[tw] using vA A hb,E,λj u _ h=>s w w' hb j u h⟩
theorem dI(h:∀a w,FrOf ops a0 a->Below W.heap.size W w->(∀e∈o.after.toList,Region.binds .any e=I->lf (L O) e.on (a.eval (.tmp (sl.getD e.on 0))) w)->∃w',(execOp a.eval o).run P w=.ok .skip w'/\S w'/\∀j u,lf (L O) j u w->lf (L I) j u w')(R:∀v w,lf (L I) m v w:=by intros;trivial)
  (c:ops[m]?=J o:=by rfl) (X:o.guard=Z:=by rfl):fE P ops Q a0 m (tw W S) sl (λb=>lf (L b)) m o:=by
 intro b a w q _ l D C;have A:=q rfl;subst A;have B:Below W.heap.size W w:=by simpa[tw] using D
 obtain⟨w',hrun,F,E⟩:=h a w l B C;refine IG c X hrun ⟨_,rfl,?_⟩;rw[Lg,Bool.or_true];exact⟨by simpa[tw] using F,R _ _,λj u _ h=>E j u h⟩
theorem YP(l:a0.tmps.size=n)(h:∀a w,FrOf ops a0 a->Below W.heap.size W w->(∀e∈o.after.toList,Region.binds .any e=I->lf (L O) e.on (a.eval (.tmp (sl.getD e.on 0))) w)->∃v w',(execOp a.eval o).run P w=.ok (.value v) w'/\S w'/\lf (L I) m v w'/\∀j u,j≠m->lf (L O) j u w->lf (L I) j u w')
  (c:ops[m]?=J o:=by rfl) (X:o.guard=Z:=by rfl) (h1:o.dst=J d:=by rfl) (R:sl.getD m 0=d:=by rfl) (hd:d<n:=by decide):fE P ops Q a0 m (tw W S) sl (λb=>lf (L b)) m o:=by
 intro b a w hb _ C F D;have A:=hb rfl;subst A;have B:Below W.heap.size W w:=by simpa[tw] using F
 obtain⟨v,w',hrun,s,E,r⟩:=h a w C B D;refine bH v c X hrun ⟨v,rfl,?_⟩;rw[Lg,Bool.or_true,R,h1,bB C l hd];exact⟨by simpa[tw] using s,E,λj u q h=>r j u q h⟩
theorem LH(m:Nat)(S:K->Prop)(L:Bool->List (E->K->Prop))(D:m<ops.size)(h:P.follows .mixedOrders=I)(X:pD ops (ops.toList.map (·.dst.getD 0))=I)
  (hback:(List.range ops.size).all (λi=>((ops[i]?).map (·.after.all λe=> !Region.binds .any e||decide (e.on<i))).getD I)=I) (l:Below W.heap.size W {w0 with drawn:=w0.drawn+1})
  (hstep:AllOps (fE P ops Q a0 m (tw W S) (ops.toList.map (·.dst.getD 0)) (λb=>lf (L b))) 0 ops.toList)
  (B:∀a w,FrOf ops a0 a->S w->(∀j,j<ops.size->lf (L I) j (a.eval (.tmp ((ops.toList.map (·.dst.getD 0)).getD j 0))) w)->Q .normal a w):(Code.region id ops I).wp P Q a0 w0:=by
 refine gO ops.size m D _ _ _ h X hback (Zc.2 λi R=>by rw[ae]at R;simp[R]) (Sb _) l (by rw[zd (by simp)];exact hstep) λa w r q c=>?_;rw[Gd (by simp)];exact B a w r (by simpa[tw] using q) c
theorem ON(k m:Nat)(S:K->Prop)(L:Bool->List (E->K->Prop))(h:m<k)(s:P.follows .mixedOrders=I)(l:pD ops (ops.toList.map (·.dst.getD 0))=I)
  (hback:(List.range ops.size).all (λi=>((ops[i]?).map (·.after.all λe=> !Region.binds .any e||decide (e.on<i))).getD I)=I) (X:lE ops k=I) (u:Below W.heap.size W {w0 with drawn:=w0.drawn+1})
  (hstep:AllOps (fE P ops Q a0 m (tw W S) (ops.toList.map (·.dst.getD 0)) (λb=>lf (L b))) 0 (ops.toList.take k))
  (c:∀a w,FrOf ops a0 a->S w->(∀j,j<k->lf (L I) j (a.eval (.tmp ((ops.toList.map (·.dst.getD 0)).getD j 0))) w)->∃w',(execOp a.eval os).run P w=.ok .skip w'/\Q .normal a w')
  (R:ops.toList.drop k=[os]:=by rfl) (r:os.guard=Z:=by rfl) (hd:os.dst=Z:=by rfl):(Code.region id ops I).wp P Q a0 w0:=by
 have A:ops.size=k+1:=by
  have:=congrArg List.length R;simp only[List.length_drop,Array.length_toList,List.length_cons,List.length_nil]at this;omega
 have B:ops[k]?=J os:=by
  have:=congrArg (·[0]?) R
  simpa using this
 refine gO k m h _ _ _ s l hback X (by omega) u hstep λa w z y q=>?_;obtain⟨w',hrun,C⟩:=c a w z (by simpa[tw] using y) q;have D:(List.range ops.size).drop k=[k]:=by rw[A,ce,bg (by simp),Gd (by simp)];rfl
 rw[D,Zd];refine IG B r hrun ?_;rw[hd];exact C
end
end
theorem TK(D:FrOf ops a0 a)(n k:Nat)(X:a0.tmps.size=n)(hd:a0.defers=[])(R:k<=n)(h:((List.range k).all λt=> !(fJ ops).contains t)=I):a=⟨(a0.tmps.toList.take k++(List.range' k (n - k)).map λt=>a.eval (.tmp t)).toArray,[]⟩:=by
 have A:=MG a n (D.size.trans X) (D.defers.trans hd);have C:=MG a0 n X hd
 have B:a0.tmps.toList=(List.range n).map λt=>a0.eval (.tmp t):=by
  have:=congrArg (λx:Act=>x.tmps.toList) C
  simpa using this
 refine A.trans ?_
 congr 2
 rw[B,<-List.map_take,List.take_range,Nat.min_eq_left R]
 conv=>lhs;rw[show List.range n=List.range k++List.range' k (n - k) from by rw[List.range_eq_range',List.range_eq_range'];have e:= @List.range'_append_1 0 k (n - k);rw[Dc,Nat.add_sub_cancel' R]at e;exact e.symm]
 rw[Ed]
 congr 1
 exact Fg λt c=>D.other t (by simpa using List.all_eq_true.1 h t c)
section
variable {P:Program} {ops:Array Oper} {Q:Exit->Act->World->Prop} {a0:Act} {W:World} {L:Bool->List (Value->World->Prop)} {sl:List Tmp} {i m n d:Nat} {o:Oper} {S:World->Prop}
theorem IN(l:a0.tmps.size=n)(R:i≠m)(h:∀b a w,FrOf ops a0 a->tw W S b w->(∀e∈o.after.toList,Region.binds .any e=I->lf (L b) e.on (a.eval (.tmp (sl.getD e.on 0))) w)->∃v,(execOp a.eval o).run P w=.ok (.value v) w/\lf (L b) i v w)
  (j:ops[i]?=J o:=by rfl) (c:o.guard=Z:=by rfl) (h1:o.dst=J d:=by rfl) (X:sl.getD i 0=d:=by rfl) (hd:d<n:=by decide):fE P ops Q a0 m (tw W S) sl (λb=>lf (L b)) i o:=by
 intro b a w _ _ B A C;obtain⟨v,hrun,D⟩:=h b a w B A C;refine mC v j c hrun ⟨v,rfl,?_⟩;rw[Ec.2 R,kf,X,h1,bB B l hd];exact⟨A,D,λ_ _ _ h=>h⟩
theorem TR(l:a0.tmps.size=n)(h:∀a w,FrOf ops a0 a->Below W.heap.size W w->(∀e∈o.after.toList,Region.binds .any e=I->lf (L O) e.on (a.eval (.tmp (sl.getD e.on 0))) w)->∃f args,(execOp a.eval o).run P w=.ok (.enter f args) w/\Calls P f args w λe w'=>∃v,e=N v/\S w'/\lf (L I) m v w'/\∀j u,j≠m->lf (L O) j u w->lf (L I) j u w')
  (c:ops[m]?=J o:=by rfl) (X:o.guard=Z:=by rfl) (h1:o.dst=J d:=by rfl) (R:sl.getD m 0=d:=by rfl) (hd:d<n:=by decide):fE P ops Q a0 m (tw W S) sl (λb=>lf (L b)) m o:=by
 intro b a w hb _ C s D;have A:=hb rfl;subst A;have B:Below W.heap.size W w:=by simpa[tw] using s
 obtain⟨f,args,hrun,K⟩:=h a w C B D;refine cE f args c X hrun _ K ?_;rintro e w' ⟨v,rfl,r,F,E⟩;refine⟨v,rfl,v,rfl,?_⟩;rw[Lg,Bool.or_true,R,h1,bB C l hd];exact⟨by simpa[tw] using r,F,λj u q h=>E j u q h⟩
end
