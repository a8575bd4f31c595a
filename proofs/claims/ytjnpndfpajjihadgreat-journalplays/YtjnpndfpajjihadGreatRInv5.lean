import Derived.Test.YtjnpndfpajjihadGreatGrJournalRuns34
namespace Go.Proofs.YtjnpndfpajjihadGreat
open Go.RowKit
open Option renaming none -> Z,some -> J
open Bool renaming false -> O,true -> I
open Go renaming World -> K,Value -> E
open Value renaming bool -> Y
open Ending renaming returned -> N
variable{L:List Value}{R:(Nat->Bool)->World->Prop}{i:Nat}{o:Oper}
section
variable {P:Program} {ops:Array Oper} {Q:Exit->Act->World->Prop} {a0:Act}
def KL (P:Program)(ops:Array Oper)(Q:Exit->Act->K->Prop)(a0:Act)(R:(Nat->Bool)->K->Prop)(L:List E)(i:Nat)(o:Oper):Prop:=
 ∀f a w,f i=O->FrOf ops a0 a->R f w->(∀e∈o.after.toList,Region.binds .any e=I->a.eval (.tmp ((ops.toList.map (·.dst.getD 0)).getD e.on 0))=L.getD e.on undef)->
  wpOp P ops Q i (λD B=>D=a.put o.dst (L.getD i undef)/\R (λj=>f j||j==i) B) a w
theorem iU{id:Nat}{l:K}{n:Nat}(x:a0.tmps.size=n)(L:List E)(R:(Nat->Bool)->K->Prop)(y:P.follows .mixedOrders=I)
  (p:((List.range ops.size).all λi=>(List.range ops.size).all λj=>i==j||(ops.toList.map (·.dst.getD 0)).getD i 0 !=(ops.toList.map (·.dst.getD 0)).getD j 0)=I)
  (hback:(List.range ops.size).all (λi=>((ops[i]?).map (·.after.all λe=> !Region.binds .any e||decide (e.on<i))).getD I)=I)
  (hd:(ops.toList.all λo=>decide (o.dst=J (o.dst.getD 0))&&decide (o.dst.getD 0<n))=I)
  (hR:R (λ_=>O) {l with drawn:=l.drawn+1}) (hstep:AllOps (KL P ops Q a0 R L) 0 ops.toList)
  (k:∀f a w,(∀j,j<ops.size->f j=I)->FrOf ops a0 a->R f w->(∀j,j<ops.size->a.eval (.tmp ((ops.toList.map (·.dst.getD 0)).getD j 0))=L.getD j undef)->Q .normal a w):
  (Code.region id ops I).wp P Q a0 l:=by
 have F:∀j,(Array.replicate ops.size O).getD j O=O:=by
  intro j;rcases Kd j ops.size with h|h
  .simp[Array.getD,h]
  .simp[Array.getD,Nat.not_lt.2 h]
 refine wp_region_any y (tO (λlisted a w=>FrOf ops a0 a/\R (λj=>listed.getD j O) w/\∀j,listed.getD j O=I->a.eval (.tmp ((ops.toList.map (·.dst.getD 0)).getD j 0))=L.getD j undef) ?_ ?_ _ _ _ _ (by simp) ?_ ?_)
 .rintro listed a w i r ⟨D,C,m⟩ b;obtain⟨s,o,A,M⟩:=Te.1 b;have N:i<ops.size:=(Wb.1 A).1;have u:i<listed.size:=by omega
  have h:=hstep.get _ _ i o (by simpa using A);rw[Dc]at h;have q:(ops.toList.map (·.dst.getD 0)).getD i 0=o.dst.getD 0:=by simp[List.getD,A]
  have B:=Zc.1 hd o (by rw[Array.mem_toList_iff];exact Array.mem_of_getElem? A);rw[Ue]at B;have U:=ye B.1;have Y:=ye B.2;refine wpOp_mono ?_ (h (λj=>listed.getD j O) a w (by simp only[Array.getD,u,dif_pos]at s|-;exact s) D C λe z hb=>m _ (by have:=M e (by simpa using z) hb;simpa using this));rintro a' w' ⟨rfl,X⟩;refine⟨D.put A _,?_,λj c=>?_⟩
  .rw[show(λj=>(listed.setIfInBounds i I).getD j O)=λj=>listed.getD j O||j==i from funext λj=>by
    by_cases e:j=i
    .subst e;simp[Array.getD,u]
    .rw[Ie O (qe e)];simp[e]]
   exact X
  .by_cases e:j=i
   .subst e;rw[q,U];exact bB D x Y
   .rw[Ie O (qe e)]at c
    have S:j<ops.size:=by
     rcases Kd j ops.size with h|h
     .exact h
     .simp[Array.getD,show¬j<listed.size by omega]at c
    have h3:=Zc.1 (Zc.1 p i (by simpa using N)) j (by simpa using S);rw[q,Dg]at h3;rcases h3 with h3|h3
    .exact absurd (je.1 h3).symm e
    rw[U,Act.eval_put_ne _ _ _ _ (by simpa using h3)];exact m j c
 .rintro listed a w r ⟨D,C,m⟩ Z;have h:=VN hback listed r Z;exact k _ a w h D C λj c=>m j (h j c)
 .simp[yF,List.countP_replicate]
 .exact⟨⟨rfl,rfl,λ_ _=>rfl⟩,by rw[show(λj=>(Array.replicate ops.size O).getD j O)=λ_=>O from funext F];exact hR,λj c=>by rw[F]at c;cases c⟩
theorem qK(h:∀f a w,FrOf ops a0 a->R f w->(∀e∈o.after.toList,Region.binds .any e=I->a.eval (.tmp ((ops.toList.map (·.dst.getD 0)).getD e.on 0))=L.getD e.on undef)->∃v,(execOp a.eval o).run P w=.ok (.value v) w/\v=L.getD i undef)(X:∀f w,R f w->R (λj=>f j||j==i) w)
  (k:ops[i]?=J o:=by rfl) (c:o.guard=Z:=by rfl):KL P ops Q a0 R L i o:=by
 intro f a w _ D A B;obtain⟨v,C,rfl⟩:=h f a w D A B;exact mC _ k c C ⟨rfl,X f w A⟩
theorem MM(h:∀f a w,f i=O->FrOf ops a0 a->R f w->(∀e∈o.after.toList,Region.binds .any e=I->a.eval (.tmp ((ops.toList.map (·.dst.getD 0)).getD e.on 0))=L.getD e.on undef)->∃g args,(execOp a.eval o).run P w=.ok (.enter g args) w/\Calls P g args w λe X=>e=N (L.getD i undef)/\R (λj=>f j||j==i) X)
  (k:ops[i]?=J o:=by rfl) (c:o.guard=Z:=by rfl):KL P ops Q a0 R L i o:=by
 intro f a w B F C A;obtain⟨g,args,D,E⟩:=h f a w B F C A;exact cE g args k c D _ E λe X ⟨h1,h2⟩=>⟨_,h1,rfl,h2⟩
section
variable {W:World} {L:List (Value->World->Prop)} {sl:List Tmp} {i n d g d2:Nat} {b:Bool} {o:Oper}
theorem vF(k:a0.tmps.size=n)(h:∀a w,FrOf ops a0 a->Below W.heap.size W w->(∀e∈o.after.toList,Region.binds .any e=I->lf L e.on (a.eval (.tmp (sl.getD e.on 0))) w)->a.eval (.tmp d2)=Y b/\∃v,(execOp a.eval o).run P w=.ok (.value v) w/\lf L i v w)
  (j:ops[i]?=J o:=by rfl) (c:o.guard=J (g,b):=by rfl) (h2:(ops[g]?).bind (·.dst)=J d2:=by rfl) (h1:o.dst=J d:=by rfl) (X:sl.getD i 0=d:=by rfl) (hd:d<n:=by decide):aE P ops Q a0 (λw=>Below W.heap.size W w) sl (lf L) i o:=by
 intro a w C B D;obtain⟨A,v,hrun,E⟩:=h a w C B D;refine eS v j (PO c h2 A) hrun ⟨v,rfl,B,?_,λ_ _ _ h=>h⟩;rw[X,h1,bB C k hd];exact E
theorem eI(m:a0.tmps.size=n)(p:ZC L)(h:∀a w,FrOf ops a0 a->Below W.heap.size W w->(∀e∈o.after.toList,Region.binds .any e=I->lf L e.on (a.eval (.tmp (sl.getD e.on 0))) w)->a.eval (.tmp d2)=Y b/\∃f args,(execOp a.eval o).run P w=.ok (.enter f args) w/\Calls P f args w λe X=>∃v,e=N v/\lf L i v X/\Below w.heap.size w X)
  (l:ops[i]?=J o:=by rfl) (k:o.guard=J (g,b):=by rfl) (h2:(ops[g]?).bind (·.dst)=J d2:=by rfl) (h1:o.dst=J d:=by rfl) (c:sl.getD i 0=d:=by rfl) (hd:d<n:=by decide):aE P ops Q a0 (λw=>Below W.heap.size W w) sl (lf L) i o:=by
 intro a w C B D;obtain⟨A,f,args,hrun,F⟩:=h a w C B D;refine gZ f args l (PO k h2 A) hrun _ F ?_;rintro e X ⟨v,rfl,E,hb⟩;refine⟨v,rfl,v,rfl,vA B hb,?_,λj u _ h=>p w X hb j u h⟩;rw[c,h1,bB C m hd];exact E
end
end
theorem wV{ops:Array Oper}{a0 a:Act}(D:FrOf ops a0 a)(n k m:Nat)(X:a0.tmps.size=n)(hd:a0.defers=[])(hk:k<=m)(hm:m<=n)(h:((List.range n).all λt=>(decide (k<=t)&&decide (t<m))|| !(fJ ops).contains t)=I):a=⟨(a0.tmps.toList.take k++((List.range' k (m - k)).map λt=>a.eval (.tmp t))++a0.tmps.toList.drop m).toArray,[]⟩:=by
 refine(MG a n (D.size.trans X) (D.defers.trans hd)).trans ?_
 congr 2
 have B:a0.tmps.toList=(List.range n).map λt=>a0.eval (.tmp t):=by
  have:=congrArg (λx:Act=>x.tmps.toList) (MG a0 n X hd)
  simpa using this
 rw[B];refine Vf λi=>?_
 have A:∀t,t<n->¬(k<=t/\t<m)->a.eval (.tmp t)=a0.eval (.tmp t):=λt c e=>D.other t (by
  have:=Zc.1 h t (by simpa using c);rw[Dg]at this;rcases this with h1|h1
  .exact absurd (by simpa using h1) e
  .simpa using h1)
 rcases Kd i n with hi|hi
 .rcases Kd i k with h1|h1
  .rw[od,ve (by simp;omega)];simp[h1,hi,A i hi (by omega)]
  .rcases Kd i m with h2|h2
   .rw[ve (by simp;omega),ke (by simp;omega)];simp[Nat.min_eq_left (show k<=n by omega),hi,show i - k<m - k by omega,show k+(i - k)=i by omega]
   .rw[ke (by simp;omega)];simp[Nat.min_eq_left (show k<=n by omega),show k+(m - k)=m by omega,show m+(i - m)=i by omega,hi,A i hi (by omega)]
 .rw[cd (by simpa using hi),cd (by simp;omega)]
