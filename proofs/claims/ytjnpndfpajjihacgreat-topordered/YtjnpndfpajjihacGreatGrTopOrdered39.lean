/-
  
-/
import Derived.Test.YtjnpndfpajjihacGreatGrTopOrdered0
import Derived.Orders
import Derived.Great.Frames
import Derived.Laws.Tables
namespace Go.Proofs.YtjnpndfpajjihacGreat
open Go.RowKit
section
variable {P:Program} {ops:Array Oper} {Q:Exit→Act→World→Prop} {md:Region.Mode}
def zmf (listed:Array Bool):Nat:=listed.toList.countP (fun b=> !b)
theorem z0b{listed:Array Bool}{i:Nat}(h:listed.getD i true=false):zmf (listed.setIfInBounds i true)<zmf listed:=by
 unfold zmf;rw[Array.toList_setIfInBounds]
 have B:i<listed.toList.length:=by
  rcases Nat.lt_or_ge i listed.size with h'|h'
  ·simpa using h'
  ·simp[Array.getD,Nat.not_lt.2 h']at h
 have A:listed.toList[i]=false:=by
  have C:i<listed.size:=by simpa using B
  simpa[Array.getD,C] using h
 generalize listed.toList=l at *;clear h
 induction l generalizing i with
 |nil=>simp at B
 |cons x l ih=>
  cases i with
  |zero=>simp only[List.getElem_cons_zero]at A;subst A;simp
  |succ i=>
   simp only[List.getElem_cons_succ]at A;simp only[List.set_cons_succ,List.countP_cons];have:=ih (by simpa using B) A;omega
theorem zw8{listed:Array Bool}(h:zmf listed=0):Region.ready md ops listed=[]:=by
 unfold zmf at h;rw[List.countP_eq_zero]at h;refine List.eq_nil_iff_forall_not_mem.2 fun i hi=>?_;have A:=(mem_ready.1 hi).1;rcases Nat.lt_or_ge i listed.size with h'|h'
 ·have:=h (listed[i]) (by simp);simp[Array.getD,h']at A;simp[A]at this
 ·simp[Array.getD,Nat.not_lt.2 h']at A
theorem zhe(I:Array Bool→Act→World→Prop)
  (hstep:∀listed a w i,listed.size=ops.size→I listed a w→i∈Region.ready md ops listed→wpOp P ops Q i (I (listed.setIfInBounds i true)) a w)
  (hfin:∀listed a w,listed.size=ops.size→I listed a w→Region.ready md ops listed=[]→Q .normal a w):
  ∀(fuel:Nat) (listed:Array Bool) (a:Act) (w:World),listed.size=ops.size→zmf listed≤fuel→I listed a w→wpAny P md ops Q fuel listed a w:=by
 intro fuel
 induction fuel with
 |zero=>
  intro listed a w A D B;have C:Region.ready md ops listed=[]:=zw8 (by omega);exact⟨C,hfin listed a w A B C⟩
 |succ fuel ih=>
  intro listed a w A D B;refine⟨hfin listed a w A B,fun i hi=>wpOp_mono (fun a' w' h'=>ih _ a' w' (by simpa using A) ?_ h') (hstep listed a w i A B hi)⟩;have:=z0b (mem_ready.1 hi).1;omega
def z0c (ops:Array Oper):List Tmp:=ops.toList.filterMap (·.dst)
structure FrOf (ops:Array Oper)(a0 a:Act):Prop where
 size:a.tmps.size=a0.tmps.size
 defers:a.defers=a0.defers
 other:∀t,(z0c ops).contains t=false→a.eval (.tmp t)=a0.eval (.tmp t)
theorem FrOf.put{a0 a:Act}(h:FrOf ops a0 a){i:Nat}{o:Oper}(ho:ops[i]?=some o)(v:Value):FrOf ops a0 (a.put o.dst v):=by
 refine⟨by rw[Act.size_put];exact h.size,by rw[Act.defers_put'];exact h.defers,fun t ht=>?_⟩;rw[←h.other t ht]
 cases hd:o.dst with
 |none=>rfl
 |some d=>
  refine Act.eval_put_ne _ _ _ _ fun e=>?_;subst e;have:d∈z0c ops:=List.mem_filterMap.2 ⟨o,by rw[Array.mem_toList_iff];exact Array.mem_of_getElem? ho,hd⟩;simp[this]at ht
def AllOps (F:Nat→Oper→Prop):Nat→List Oper→Prop
 |_,[]=>True
 |k,o::l=>F k o∧AllOps F (k+1) l
theorem AllOps.get{F:Nat→Oper→Prop}:∀(l:List Oper) (k:Nat),AllOps F k l→∀i o,l[i]?=some o→F (k+i) o
 |[],_,_,i,o,h=>by simp at h
 |x::l,k,h,0,o,hi=>by simp at hi;subst hi;exact h.1
 |x::l,k,h,i+1,o,hi=>by
  have:=AllOps.get l (k+1) h.2 i o (by simpa using hi);rw[show k+(i+1)=k+1+i by omega];exact this
theorem zh0{ops:Array Oper}(hb:(List.range ops.size).all (fun i=>((ops[i]?).map (·.after.all fun e=> !Region.binds .any e||decide (e.on<i))).getD true)=true):
  ∀listed:Array Bool,listed.size=ops.size→Region.ready .any ops listed=[]→∀j,j<ops.size→listed.getD j false=true:=by
 intro listed hs F j
 induction j using Nat.strongRecOn with
 |_ j ih=>
  intro A;by_cases h:listed.getD j false=true
  ·exact h
  exfalso
  have C:j<listed.size:=by omega
  have D:listed.getD j true=false:=by
   simp only[Array.getD,C,dif_pos]at h⊢
   simpa using h
  have:j∈Region.ready .any ops listed:=by
   refine mem_ready.2 ⟨D,ops[j],by simp[A],fun e he hbn=>?_⟩;have:=List.all_eq_true.1 hb j (by simpa using A);simp only[A,Array.getElem?_eq_getElem,Option.map_some,Option.getD_some]at this;have B:=(Array.all_eq_true_iff_forall_mem.1 this) e he;rw[hbn,Bool.not_true,Bool.false_or]at B;have E:=ih e.on (by simpa using B) (by have:=of_decide_eq_true B;omega)
   simpa using E
  rw[F]at this;cases this
def zf5 (ops:Array Oper)(sl:List Tmp):Bool:=
 (List.range ops.size).all fun i=>(List.range ops.size).all fun j=>i==j||(match(ops[i]?).bind (·.dst) with
  |some d=>d !=sl.getD j 0||((ops[j]?).map (·.after.any fun e=>Region.binds .any e&&e.on==i)).getD false
  |none=>true)
def zvf (P:Program)(ops:Array Oper)(Q:Exit→Act→World→Prop)(a0:Act)(R:World→Prop)(sl:List Tmp)(ψ:Nat→Value→World→Prop)(i:Nat)(o:Oper):Prop:=
 ∀a w,FrOf ops a0 a→R w→(∀e∈o.after.toList,Region.binds .any e=true→ψ e.on (a.eval (.tmp (sl.getD e.on 0))) w)→
  wpOp P ops Q i (fun a' w'=>∃v,a'=a.put o.dst v∧R w'∧ψ i (a'.eval (.tmp (sl.getD i 0))) w'∧∀j u,j≠i→ψ j u w→ψ j u w') a w
theorem ze2{id:Nat}{a0:Act}{w0:World}(R:World→Prop)(sl:List Tmp)(ψ:Nat→Value→World→Prop)(hm:P.follows .mixedOrders=true)(hap:zf5 ops sl=true)
  (hback:(List.range ops.size).all (fun i=>((ops[i]?).map (·.after.all fun e=> !Region.binds .any e||decide (e.on<i))).getD true)=true)
  (hR:R {w0 with drawn:=w0.drawn+1}) (hstep:AllOps (zvf P ops Q a0 R sl ψ) 0 ops.toList)
  (hend:∀a w,FrOf ops a0 a→R w→(∀j,j<ops.size→ψ j (a.eval (.tmp (sl.getD j 0))) w)→Q .normal a w):
  (Code.region id ops true).wp P Q a0 w0:=by
 refine wp_region_any hm (zhe (fun listed a w=>FrOf ops a0 a∧R w∧(∀j o,ops[j]?=some o→listed.getD j false=true→∀e∈o.after,Region.binds .any e=true→listed.getD e.on false=true)∧∀j,j<ops.size→listed.getD j false=true→ψ j (a.eval (.tmp (sl.getD j 0))) w) ?_ ?_ _ _ _ _ (by simp) ?_ ?_)
 ·rintro listed a w i l ⟨O,L,M,S⟩ y;obtain⟨Y,o,J,b⟩:=mem_ready.1 y;have Z:i<ops.size:=(Array.getElem?_eq_some_iff.1 J).1
  have E:listed.getD i false=false:=by
   have:i<listed.size:=by omega
   simp only[Array.getD,this,dif_pos]at Y⊢;exact Y
  have h:=hstep.get _ _ i o (by simpa using J);rw[Nat.zero_add]at h;have I:∀e∈o.after,Region.binds .any e=true→listed.getD e.on false=true:=fun e D hb=>by simpa using b e D hb
  have m:∀e∈o.after,Region.binds .any e=true→e.on<ops.size:=by
   intro e D k;have N:=List.all_eq_true.1 hback i (by simpa using Z);simp only[J,Option.map_some,Option.getD_some]at N;have U:=(Array.all_eq_true_iff_forall_mem.1 N) e D;rw[k,Bool.not_true,Bool.false_or]at U;have:=of_decide_eq_true U;omega
  refine wpOp_mono ?_ (h a w O L fun e D hb=>S _ (m e (by simpa using D) hb) (I e (by simpa using D) hb));rintro a' w' ⟨v,rfl,n,p,q⟩
  have K:∀j,(listed.setIfInBounds i true).getD j false=true→j=i∨listed.getD j false=true:=by
   intro j A;by_cases B:j=i
   ·exact .inl B
   ·rw[getD_set_ne false (Ne.symm B)]at A;exact .inr A
  have F:∀j,listed.getD j false=true→(listed.setIfInBounds i true).getD j false=true:=by
   intro j A;by_cases B:j=i
   ·subst B;rw[E]at A;cases A
   ·rw[getD_set_ne false (Ne.symm B)];exact A
  refine⟨O.put J v,n,?_,fun j hjs A=>?_⟩
  ·intro j r C A e D hb;rcases K j A with rfl|A
   ·rw[J]at C;cases C;exact F _ (I e D hb)
   ·exact F _ (M j r C A e D hb)
  ·rcases K j A with rfl|hj2
   ·exact p
   ·clear A;have A:=hj2;have B:j≠i:=by intro e;subst e;rw[E]at A;cases A
    have N:=q j _ B (S j hjs A)
    have U:(a.put o.dst v).eval (.tmp (sl.getD j 0))=a.eval (.tmp (sl.getD j 0)):=by
     cases hd:o.dst with
     |none=>rfl
     |some d=>
      refine Act.eval_put_ne _ _ _ _ fun e=>?_;have h3:=List.all_eq_true.1 (List.all_eq_true.1 hap i (by simpa using Z)) j (by simpa using hjs);simp only[J,Option.bind_some,hd,Bool.or_eq_true]at h3;rcases h3 with h3|h3|h3
      ·exact B (by simpa using(beq_iff_eq.1 h3).symm)
      ·simp[e]at h3
      ·have C:ops[j]?=some ops[j]:=by simp[hjs]
       simp only[C,Option.map_some,Option.getD_some]at h3;obtain⟨x,u,c⟩:=List.any_eq_true.1 (Array.any_toList.trans h3);simp only[Bool.and_eq_true,beq_iff_eq]at c;have:=M j _ C A x (by simpa using u) c.1;rw[c.2,E]at this;cases this
    rw[U];exact N
 ·rintro listed a w l ⟨O,L,M,S⟩ s;exact hend a w O L fun j A=>S j A (zh0 hback listed l s j A)
 ·simp[zmf,List.countP_replicate]
 ·have X:∀j,(Array.replicate ops.size false).getD j false=true→False:=by
   intro j A;rcases Nat.lt_or_ge j ops.size with h|h
   ·simp[Array.getD,h]at A
   ·simp[Array.getD,Nat.not_lt.2 h]at A
  exact⟨⟨rfl,rfl,fun _ _=>rfl⟩,hR,fun j _ _ A=>(X j A).elim,fun j _ A=>(X j A).elim⟩
def waitsFor (ops:Array Oper)(i:Nat):List Nat:=((ops[i]?).map fun o=>(o.after.toList.filter (Region.binds .any)).map (·.on)).getD []
def ancOf (ops:Array Oper):Nat→List Nat→List Nat
 |0,S=>S
 |n+1,S=>ancOf ops n (S++S.flatMap (waitsFor ops)).eraseDups
def zjm (ops:Array Oper)(k:Nat):Bool:=
 (List.range ops.size).all fun i=>decide (i<k)||(List.range i).all fun j=>(ancOf ops 8 (waitsFor ops i)).contains j
theorem zj6{listed:Array Bool}(hcl:∀j o,ops[j]?=some o→listed.getD j false=true→∀e∈o.after,Region.binds .any e=true→listed.getD e.on false=true):∀(n:Nat) (S:List Nat),(∀j∈S,listed.getD j false=true)→∀j∈ancOf ops n S,listed.getD j false=true:=by
 intro n
 induction n with
 |zero=>intro S h j B;exact h j B
 |succ n ih=>
  intro S h j B;refine ih _ ?_ j B;intro x C;rw[List.mem_eraseDups]at C;rcases List.mem_append.1 C with h1|h1
  ·exact h x h1
  ·obtain⟨y,D,A⟩:=List.mem_flatMap.1 h1;unfold waitsFor at A
   cases ho:ops[y]? with
   |none=>rw[ho]at A;simp at A
   |some o=>
    rw[ho]at A;simp only[Option.map_some,Option.getD_some]at A;obtain⟨e,I,rfl⟩:=List.mem_map.1 A;obtain⟨E,F⟩:=List.mem_filter.1 I;exact hcl y o ho (h y D) e (by simpa using E) F
theorem zen{k i j:Nat}(h:zjm ops k=true)(hi:i<ops.size)(hk:k≤i)(hj:j<i){listed:Array Bool}(hr:i∈Region.ready .any ops listed)
  (hcl:∀j o,ops[j]?=some o→listed.getD j false=true→∀e∈o.after,Region.binds .any e=true→listed.getD e.on false=true):listed.getD j false=true:=by
 have h1:=List.all_eq_true.1 h i (List.mem_range.2 hi);rw[Bool.or_eq_true]at h1;rcases h1 with h1|h1
 ·have:=of_decide_eq_true h1;omega
 ·have D:=List.all_eq_true.1 h1 j (List.mem_range.2 hj);obtain⟨_,o,C,B⟩:=mem_ready.1 hr;refine zj6 hcl 8 (waitsFor ops i) ?_ j (by simpa using D);intro x A;unfold waitsFor at A;rw[C]at A;simp only[Option.map_some,Option.getD_some]at A;obtain⟨e,I,rfl⟩:=List.mem_map.1 A;obtain⟨E,F⟩:=List.mem_filter.1 I
  simpa using B e (by simpa using E) F
theorem zj7{n k:Nat}(h:k<n):(List.range n).drop k=k::(List.range n).drop (k+1):=by
 rw[List.drop_eq_getElem_cons (by simpa using h),List.getElem_range]
theorem zbi{id:Nat}{a0:Act}{w0:World}(k:Nat)(R:World→Prop)(sl:List Tmp)(ψ:Nat→Value→World→Prop)(hm:P.follows .mixedOrders=true)(hap:zf5 ops sl=true)
  (hback:(List.range ops.size).all (fun i=>((ops[i]?).map (·.after.all fun e=> !Region.binds .any e||decide (e.on<i))).getD true)=true) (htail:zjm ops k=true) (hkn:k≤ops.size)
  (hR:R {w0 with drawn:=w0.drawn+1}) (hstep:AllOps (zvf P ops Q a0 R sl ψ) 0 (ops.toList.take k))
  (hend:∀a w,FrOf ops a0 a→R w→(∀j,j<k→ψ j (a.eval (.tmp (sl.getD j 0))) w)→wpOps P ops Q ((List.range ops.size).drop k) a w):
  (Code.region id ops true).wp P Q a0 w0:=by
 refine wp_region_any hm (zhe (fun listed a w=>
  ((∀i,k≤i→listed.getD i false=false)∧FrOf ops a0 a∧R w∧(∀j o,ops[j]?=some o→listed.getD j false=true→∀e∈o.after,Region.binds .any e=true→listed.getD e.on false=true)∧∀j,j<k→listed.getD j false=true→ψ j (a.eval (.tmp (sl.getD j 0))) w)∨
  (∃i,k≤i∧i≤ops.size∧(∀j,j<i→listed.getD j false=true)∧(∀j,i≤j→listed.getD j false=false)∧wpOps P ops Q ((List.range ops.size).drop i) a w)) ?_ ?_ _ _ _ _ (by simp) ?_ ?_)
 ·rintro listed a w i hs u z;obtain⟨q,o,b,I⟩:=mem_ready.1 z;have O:i<ops.size:=(Array.getElem?_eq_some_iff.1 b).1
  have M:listed.getD i false=false:=by
   have:i<listed.size:=by omega
   simp only[Array.getD,this,dif_pos]at q⊢;exact q
  have l:∀j,(listed.setIfInBounds i true).getD j false=true→j=i∨listed.getD j false=true:=by
   intro j A;by_cases C:j=i
   ·exact .inl C
   ·rw[getD_set_ne false (Ne.symm C)]at A;exact .inr A
  have L:∀j,listed.getD j false=true→(listed.setIfInBounds i true).getD j false=true:=by
   intro j A;by_cases C:j=i
   ·subst C;rw[M]at A;cases A
   ·rw[getD_set_ne false (Ne.symm C)];exact A
  have p:(listed.setIfInBounds i true).getD i false=true:=by
   have:i<listed.size:=by omega
   simp[Array.getD,this]
  have N:∀{a:Act} {w:World},k≤i→(∀j,j<i→listed.getD j false=true)→(∀j,i≤j→listed.getD j false=false)→wpOps P ops Q ((List.range ops.size).drop i) a w→
    wpOp P ops Q i (fun m n=>((∀x,k≤x→(listed.setIfInBounds i true).getD x false=false)∧FrOf ops a0 m∧R n∧(∀j o,ops[j]?=some o→(listed.setIfInBounds i true).getD j false=true→∀e∈o.after,Region.binds .any e=true→(listed.setIfInBounds i true).getD e.on false=true)∧∀j,j<k→(listed.setIfInBounds i true).getD j false=true→ψ j (m.eval (.tmp (sl.getD j 0))) n)∨
     (∃x,k≤x∧x≤ops.size∧(∀j,j<x→(listed.setIfInBounds i true).getD j false=true)∧(∀j,x≤j→(listed.setIfInBounds i true).getD j false=false)∧wpOps P ops Q ((List.range ops.size).drop x) m n)) a w:=by
   intro a w A6 B D U;rw[zj7 O,wpOps_cons]at U;refine wpOp_mono (fun m n h'=>.inr ⟨i+1,by omega,by omega,fun j A=>?_,fun j A=>?_,h'⟩) U
   ·by_cases C:j=i
    ·subst C;exact p
    ·exact L j (B j (by omega))
   ·rw[getD_set_ne false (by omega)];exact D j (by omega)
  rcases u with⟨E,hF,hRw,K,hp⟩|⟨x,hkx,hxn,B,D,U⟩
  ·by_cases hik:i<k
   ·have h:=hstep.get _ _ i o (by rw[List.getElem?_take_of_lt hik];simpa using b);rw[Nat.zero_add]at h;have Z:∀e∈o.after,Region.binds .any e=true→listed.getD e.on false=true:=fun e J hb=>by simpa using I e J hb
    have A3:∀e∈o.after,Region.binds .any e=true→e.on<k:=by
     intro e J A1;have h1:=List.all_eq_true.1 hback i (by simpa using O);simp only[b,Option.map_some,Option.getD_some]at h1;have h2:=(Array.all_eq_true_iff_forall_mem.1 h1) e J;rw[A1,Bool.not_true,Bool.false_or]at h2;have:=of_decide_eq_true h2;omega
    refine wpOp_mono ?_ (h a w hF hRw fun e J hb=>hp _ (A3 e (by simpa using J) hb) (Z e (by simpa using J) hb));rintro m n ⟨v,rfl,A0,A5,r⟩;refine .inl ⟨fun y hy=>?_,hF.put b v,A0,?_,fun j hjs A=>?_⟩
    ·rw[getD_set_ne false (by omega)];exact E y hy
    ·intro j oj F A e J hb;rcases l j A with rfl|A
     ·rw[b]at F;cases F;exact L _ (Z e J hb)
     ·exact L _ (K j oj F A e J hb)
    ·rcases l j A with rfl|hj2
     ·exact A5
     ·have C:j≠i:=by intro e;subst e;rw[M]at hj2;cases hj2
      have h1:=r j _ C (hp j hjs hj2)
      have h2:(a.put o.dst v).eval (.tmp (sl.getD j 0))=a.eval (.tmp (sl.getD j 0)):=by
       cases hd:o.dst with
       |none=>rfl
       |some d=>
        refine Act.eval_put_ne _ _ _ _ fun e=>?_;have Y:j<ops.size:=by omega
        have h3:=List.all_eq_true.1 (List.all_eq_true.1 hap i (by simpa using O)) j (by simpa using Y);simp only[b,Option.bind_some,hd,Bool.or_eq_true]at h3;rcases h3 with h3|h3|h3
        ·exact C (by simpa using(beq_iff_eq.1 h3).symm)
        ·simp[e]at h3
        ·have F:ops[j]?=some ops[j]:=by simp[Y]
         simp only[F,Option.map_some,Option.getD_some]at h3;obtain⟨x,S,c⟩:=List.any_eq_true.1 (Array.any_toList.trans h3);simp only[Bool.and_eq_true,beq_iff_eq]at c;have:=K j _ F hj2 x (by simpa using S) c.1;rw[c.2,M]at this;cases this
      rw[h2];exact h1
   ·have s:k≤i:=by omega
    have X:∀j,j<i→listed.getD j false=true:=fun j A=>zen htail O s A z K
    have A4:i=k:=by
     by_cases S:i=k
     ·exact S
     ·have h1:=X k (by omega);rw[E k (Nat.le_refl _)]at h1;cases h1
    subst A4;exact N (Nat.le_refl _) X E (hend a w hF hRw fun j A=>hp j A (X j A))
  ·have A2:i=x:=by
    rcases Nat.lt_trichotomy i x with h1|h1|h1
    ·have:=B i h1;rw[M]at this;cases this
    ·exact h1
    ·have K:∀j o,ops[j]?=some o→listed.getD j false=true→∀e∈o.after,Region.binds .any e=true→listed.getD e.on false=true:=by
      intro j o F A e J hb
      have A7:j<x:=by
       rcases Nat.lt_or_ge j x with h2|h2
       ·exact h2
       ·rw[D j h2]at A;cases A
      have Y:j<ops.size:=by omega
      have h3:=List.all_eq_true.1 hback j (by simpa using Y);simp only[F,Option.map_some,Option.getD_some]at h3;have c:=(Array.all_eq_true_iff_forall_mem.1 h3) e J;rw[hb,Bool.not_true,Bool.false_or]at c;have:=of_decide_eq_true c;exact B e.on (by omega)
     have:=zen htail O (by omega) h1 z K;rw[D x (Nat.le_refl _)]at this;cases this
   subst A2;exact N hkx B D U
 ·rintro listed a w hs u hr;have I:=zh0 hback listed hs hr;rcases u with⟨E,hF,hRw,K,hp⟩|⟨x,hkx,hxn,B,D,U⟩
  ·have r:k=ops.size:=by
    rcases Nat.lt_or_ge k ops.size with h|h
    ·have:=I k h;rw[E k (Nat.le_refl _)]at this;cases this
    ·omega
   have:=hend a w hF hRw fun j A=>hp j A (I j (by omega));rw[r,List.drop_of_length_le (by simp)]at this;exact this
  ·have S:x=ops.size:=by
    rcases Nat.lt_or_ge x ops.size with h|h
    ·have:=I x h;rw[D x (Nat.le_refl _)]at this;cases this
    ·omega
   rw[S,List.drop_of_length_le (by simp)]at U;exact U
 ·simp[zmf,List.countP_replicate]
 ·have E:∀j,(Array.replicate ops.size false).getD j false=true→False:=by
   intro j A;rcases Nat.lt_or_ge j ops.size with h|h
   ·simp[Array.getD,h]at A
   ·simp[Array.getD,Nat.not_lt.2 h]at A
  refine .inl ⟨fun i _=>?_,⟨rfl,rfl,fun _ _=>rfl⟩,hR,fun j _ _ A=>(E j A).elim,fun j _ A=>(E j A).elim⟩
  cases S:(Array.replicate ops.size false).getD i false with
  |false=>rfl
  |true=>exact(E i S).elim
def z4m (P:Program)(ops:Array Oper)(Q:Exit→Act→World→Prop)(a0:Act)(m:Nat)(R:Value→World→Prop)(sl:List Tmp)(ψ:Nat→Value→Value→World→Prop)(i:Nat)(o:Oper):Prop:=
 ∀a w,FrOf ops a0 a→R (a.eval (.tmp m)) w→(∀e∈o.after.toList,Region.binds .any e=true→ψ e.on (a.eval (.tmp (sl.getD e.on 0))) (a.eval (.tmp m)) w)→
  wpOp P ops Q i (fun a' w'=>∃v,a'=a.put o.dst v∧R (a'.eval (.tmp m)) w'∧ψ i (a'.eval (.tmp (sl.getD i 0))) (a'.eval (.tmp m)) w'∧∀j x,j≠i→ψ j x (a.eval (.tmp m)) w→ψ j x (a'.eval (.tmp m)) w') a w
theorem zde{id:Nat}{a0:Act}{w0:World}(k m:Nat)(R:Value→World→Prop)(sl:List Tmp)(ψ:Nat→Value→Value→World→Prop)(hm:P.follows .mixedOrders=true)(hap:zf5 ops sl=true)
  (hback:(List.range ops.size).all (fun i=>((ops[i]?).map (·.after.all fun e=> !Region.binds .any e||decide (e.on<i))).getD true)=true) (htail:zjm ops k=true) (hkn:k≤ops.size)
  (hR:R (a0.eval (.tmp m)) {w0 with drawn:=w0.drawn+1}) (hstep:AllOps (z4m P ops Q a0 m R sl ψ) 0 (ops.toList.take k))
  (hend:∀a w,FrOf ops a0 a→R (a.eval (.tmp m)) w→(∀j,j<k→ψ j (a.eval (.tmp (sl.getD j 0))) (a.eval (.tmp m)) w)→wpOps P ops Q ((List.range ops.size).drop k) a w):
  (Code.region id ops true).wp P Q a0 w0:=by
 refine wp_region_any hm (zhe (fun listed a w=>
  ((∀i,k≤i→listed.getD i false=false)∧FrOf ops a0 a∧R (a.eval (.tmp m)) w∧(∀j o,ops[j]?=some o→listed.getD j false=true→∀e∈o.after,Region.binds .any e=true→listed.getD e.on false=true)∧∀j,j<k→listed.getD j false=true→ψ j (a.eval (.tmp (sl.getD j 0))) (a.eval (.tmp m)) w)∨
  (∃i,k≤i∧i≤ops.size∧(∀j,j<i→listed.getD j false=true)∧(∀j,i≤j→listed.getD j false=false)∧wpOps P ops Q ((List.range ops.size).drop i) a w)) ?_ ?_ _ _ _ _ (by simp) ?_ ?_)
 ·rintro listed a w i hs z hi;obtain⟨r,o,c,I⟩:=mem_ready.1 hi;have O:i<ops.size:=(Array.getElem?_eq_some_iff.1 c).1
  have M:listed.getD i false=false:=by
   have:i<listed.size:=by omega
   simp only[Array.getD,this,dif_pos]at r⊢;exact r
  have n:∀j,(listed.setIfInBounds i true).getD j false=true→j=i∨listed.getD j false=true:=by
   intro j A;by_cases C:j=i
   ·exact .inl C
   ·rw[getD_set_ne false (Ne.symm C)]at A;exact .inr A
  have L:∀j,listed.getD j false=true→(listed.setIfInBounds i true).getD j false=true:=by
   intro j A;by_cases C:j=i
   ·subst C;rw[M]at A;cases A
   ·rw[getD_set_ne false (Ne.symm C)];exact A
  have q:(listed.setIfInBounds i true).getD i false=true:=by
   have:i<listed.size:=by omega
   simp[Array.getD,this]
  have N:∀{a:Act} {w:World},k≤i→(∀j,j<i→listed.getD j false=true)→(∀j,i≤j→listed.getD j false=false)→wpOps P ops Q ((List.range ops.size).drop i) a w→
    wpOp P ops Q i (fun S p=>((∀x,k≤x→(listed.setIfInBounds i true).getD x false=false)∧FrOf ops a0 S∧R (S.eval (.tmp m)) p∧(∀j o,ops[j]?=some o→(listed.setIfInBounds i true).getD j false=true→∀e∈o.after,Region.binds .any e=true→(listed.setIfInBounds i true).getD e.on false=true)∧∀j,j<k→(listed.setIfInBounds i true).getD j false=true→ψ j (S.eval (.tmp (sl.getD j 0))) (S.eval (.tmp m)) p)∨
     (∃x,k≤x∧x≤ops.size∧(∀j,j<x→(listed.setIfInBounds i true).getD j false=true)∧(∀j,x≤j→(listed.setIfInBounds i true).getD j false=false)∧wpOps P ops Q ((List.range ops.size).drop x) S p)) a w:=by
   intro a w A6 B D X;rw[zj7 O,wpOps_cons]at X;refine wpOp_mono (fun S p h'=>.inr ⟨i+1,by omega,by omega,fun j A=>?_,fun j A=>?_,h'⟩) X
   ·by_cases C:j=i
    ·subst C;exact q
    ·exact L j (B j (by omega))
   ·rw[getD_set_ne false (by omega)];exact D j (by omega)
  rcases z with⟨E,hF,hRw,K,hp⟩|⟨x,hkx,hxn,B,D,X⟩
  ·by_cases hik:i<k
   ·have h:=hstep.get _ _ i o (by rw[List.getElem?_take_of_lt hik];simpa using c);rw[Nat.zero_add]at h;have b:∀e∈o.after,Region.binds .any e=true→listed.getD e.on false=true:=fun e J hb=>by simpa using I e J hb
    have A3:∀e∈o.after,Region.binds .any e=true→e.on<k:=by
     intro e J A1;have h1:=List.all_eq_true.1 hback i (by simpa using O);simp only[c,Option.map_some,Option.getD_some]at h1;have h2:=(Array.all_eq_true_iff_forall_mem.1 h1) e J;rw[A1,Bool.not_true,Bool.false_or]at h2;have:=of_decide_eq_true h2;omega
    refine wpOp_mono ?_ (h a w hF hRw fun e J hb=>hp _ (A3 e (by simpa using J) hb) (b e (by simpa using J) hb));rintro S p ⟨v,rfl,A0,A5,s⟩;refine .inl ⟨fun y hy=>?_,hF.put c v,A0,?_,fun j hjs A=>?_⟩
    ·rw[getD_set_ne false (by omega)];exact E y hy
    ·intro j oj F A e J hb;rcases n j A with rfl|A
     ·rw[c]at F;cases F;exact L _ (b e J hb)
     ·exact L _ (K j oj F A e J hb)
    ·rcases n j A with rfl|hj2
     ·exact A5
     ·have C:j≠i:=by intro e;subst e;rw[M]at hj2;cases hj2
      have h1:=s j _ C (hp j hjs hj2)
      have h2:(a.put o.dst v).eval (.tmp (sl.getD j 0))=a.eval (.tmp (sl.getD j 0)):=by
       cases hd:o.dst with
       |none=>rfl
       |some d=>
        refine Act.eval_put_ne _ _ _ _ fun e=>?_;have Z:j<ops.size:=by omega
        have h3:=List.all_eq_true.1 (List.all_eq_true.1 hap i (by simpa using O)) j (by simpa using Z);simp only[c,Option.bind_some,hd,Bool.or_eq_true]at h3;rcases h3 with h3|h3|h3
        ·exact C (by simpa using(beq_iff_eq.1 h3).symm)
        ·simp[e]at h3
        ·have F:ops[j]?=some ops[j]:=by simp[Z]
         simp only[F,Option.map_some,Option.getD_some]at h3;obtain⟨x,U,l⟩:=List.any_eq_true.1 (Array.any_toList.trans h3);simp only[Bool.and_eq_true,beq_iff_eq]at l;have:=K j _ F hj2 x (by simpa using U) l.1;rw[l.2,M]at this;cases this
      rw[h2];exact h1
   ·have u:k≤i:=by omega
    have Y:∀j,j<i→listed.getD j false=true:=fun j A=>zen htail O u A hi K
    have A4:i=k:=by
     by_cases U:i=k
     ·exact U
     ·have h1:=Y k (by omega);rw[E k (Nat.le_refl _)]at h1;cases h1
    subst A4;exact N (Nat.le_refl _) Y E (hend a w hF hRw fun j A=>hp j A (Y j A))
  ·have A2:i=x:=by
    rcases Nat.lt_trichotomy i x with h1|h1|h1
    ·have:=B i h1;rw[M]at this;cases this
    ·exact h1
    ·have K:∀j o,ops[j]?=some o→listed.getD j false=true→∀e∈o.after,Region.binds .any e=true→listed.getD e.on false=true:=by
      intro j o F A e J hb
      have A7:j<x:=by
       rcases Nat.lt_or_ge j x with h2|h2
       ·exact h2
       ·rw[D j h2]at A;cases A
      have Z:j<ops.size:=by omega
      have h3:=List.all_eq_true.1 hback j (by simpa using Z);simp only[F,Option.map_some,Option.getD_some]at h3;have l:=(Array.all_eq_true_iff_forall_mem.1 h3) e J;rw[hb,Bool.not_true,Bool.false_or]at l;have:=of_decide_eq_true l;exact B e.on (by omega)
     have:=zen htail O (by omega) h1 hi K;rw[D x (Nat.le_refl _)]at this;cases this
   subst A2;exact N hkx B D X
 ·rintro listed a w hs z hr;have I:=zh0 hback listed hs hr;rcases z with⟨E,hF,hRw,K,hp⟩|⟨x,hkx,hxn,B,D,X⟩
  ·have s:k=ops.size:=by
    rcases Nat.lt_or_ge k ops.size with h|h
    ·have:=I k h;rw[E k (Nat.le_refl _)]at this;cases this
    ·omega
   have:=hend a w hF hRw fun j A=>hp j A (I j (by omega));rw[s,List.drop_of_length_le (by simp)]at this;exact this
  ·have U:x=ops.size:=by
    rcases Nat.lt_or_ge x ops.size with h|h
    ·have:=I x h;rw[D x (Nat.le_refl _)]at this;cases this
    ·omega
   rw[U,List.drop_of_length_le (by simp)]at X;exact X
 ·simp[zmf,List.countP_replicate]
 ·have E:∀j,(Array.replicate ops.size false).getD j false=true→False:=by
   intro j A;rcases Nat.lt_or_ge j ops.size with h|h
   ·simp[Array.getD,h]at A
   ·simp[Array.getD,Nat.not_lt.2 h]at A
  refine .inl ⟨fun i _=>?_,⟨rfl,rfl,fun _ _=>rfl⟩,hR,fun j _ _ A=>(E j A).elim,fun j _ A=>(E j A).elim⟩
  cases U:(Array.replicate ops.size false).getD i false with
  |false=>rfl
  |true=>exact(E i U).elim
theorem zan{ops:Array Oper}{a0 a:Act}{n d:Nat}{v:Value}(hF:FrOf ops a0 a)(hn:a0.tmps.size=n)(hd:d<n):(a.put (some d) v).eval (.tmp d)=v:=
 Act.eval_put_same _ _ _ (by rw[hF.size,hn];exact hd)
theorem _root_.Go.Act.eval_func(a:Act)(f:FuncId):a.eval (.func f)=.func (.func f) #[] #[]:=rfl
theorem _root_.Go.Act.eval_const(a:Act)(v:Value):a.eval (.const v)=v:=rfl
theorem zcn(a:Act)(n:Nat)(hs:a.tmps.size=n)(hd:a.defers=[]):a=⟨((List.range n).map fun t=>a.eval (.tmp t)).toArray,[]⟩:=by
 obtain⟨ts,ds⟩:=a;simp only at hs hd;subst hd hs
 congr 1
 refine Array.ext (by simp) fun i h1 h2=>?_;simp[Act.eval,h1]
theorem zar{i:Nat}{o:Oper}{a:Act}{w:World}{K:Act→World→Prop}(v:Value)(hi:ops[i]?=some o)(hg:o.guard=none)
  (hrun:(execOp a.eval o).run P w=.ok (.value v) w) (h:K (a.put o.dst v) w):wpOp P ops Q i K a w:=by
 unfold wpOp;have A:Region.wanted o (yielded ops a.tmps)=true:=by simp[Region.wanted,hg]
 simp only[hi,A,if_true,Oper.wp,hrun,Oper.upon];exact .inl h
theorem zfl{i:Nat}{o:Oper}{a:Act}{w w':World}{K:Act→World→Prop}(v:Value)(hi:ops[i]?=some o)(hg:o.guard=none)
  (hrun:(execOp a.eval o).run P w=.ok (.value v) w') (h:K (a.put o.dst v) w'):wpOp P ops Q i K a w:=by
 unfold wpOp;have A:Region.wanted o (yielded ops a.tmps)=true:=by simp[Region.wanted,hg]
 simp only[hi,A,if_true,Oper.wp,hrun,Oper.upon];exact .inl h
theorem zco{i:Nat}{o:Oper}{a:Act}{w w':World}{K:Act→World→Prop}(hi:ops[i]?=some o)(hg:o.guard=none)
  (hrun:(execOp a.eval o).run P w=.ok .skip w') (h:K (a.put o.dst undef) w'):wpOp P ops Q i K a w:=by
 unfold wpOp;have A:Region.wanted o (yielded ops a.tmps)=true:=by simp[Region.wanted,hg]
 simp only[hi,A,if_true,Oper.wp,hrun,Oper.upon];exact .inl h
theorem zw9{a:Act}{g d:Nat}{b:Bool}(hd:(ops[g]?).bind (·.dst)=some d)(hv:a.eval (.tmp d)=.bool b):yielded ops a.tmps g=some b:=by
 unfold yielded;rw[hd]
 have A:a.tmps[d]?=some (.bool b):=by
  simp only[Act.eval,Array.getD_eq_getD_getElem?]at hv
  cases h:a.tmps[d]? with
  |none=>rw[h]at hv;simp[undef]at hv
  |some x=>rw[h]at hv;simp at hv;rw[hv]
 simp[A]
theorem zb5{g d:Nat}{b:Bool}{o:Oper}{a:Act}(hg:o.guard=some (g,b))(hd:(ops[g]?).bind (·.dst)=some d)(hv:a.eval (.tmp d)=.bool b):Region.wanted o (yielded ops a.tmps)=true:=by
 simp[Region.wanted,hg,zw9 hd hv]
theorem zto{i:Nat}{o:Oper}{a:Act}{w:World}{K:Act→World→Prop}(v:Value)(hi:ops[i]?=some o)(hw:Region.wanted o (yielded ops a.tmps)=true)
  (hrun:(execOp a.eval o).run P w=.ok (.value v) w) (h:K (a.put o.dst v) w):wpOp P ops Q i K a w:=by
 unfold wpOp;simp only[hi,hw,if_true,Oper.wp,hrun,Oper.upon];exact .inl h
theorem zxa{i:Nat}{o:Oper}{a:Act}{w:World}{K:Act→World→Prop}(f:FuncId)(args:Array Value)(hi:ops[i]?=some o)(hw:Region.wanted o (yielded ops a.tmps)=true)
  (hrun:(execOp a.eval o).run P w=.ok (.enter f args) w) (post:Ending→World→Prop) (hc:Calls P f args w post)
  (h:∀e w',post e w'→∃v,e=.returned v∧K (a.put o.dst v) w'):wpOp P ops Q i K a w:=by
 unfold wpOp;simp only[hi,hw,if_true,Oper.wp,hrun,Oper.upon];refine .inl (hc.mono ?_);intro e w' B;obtain⟨v,rfl,A⟩:=h e w' B;exact A
theorem z4n{i:Nat}{o:Oper}{a:Act}{w:World}{K:Act→World→Prop}(hi:ops[i]?=some o)(hg:o.guard=none)(h:o.wp P a w K Q):wpOp P ops Q i K a w:=by
 unfold wpOp;have A:Region.wanted o (yielded ops a.tmps)=true:=by simp[Region.wanted,hg]
 simp only[hi,A,if_true];exact .inl h
theorem z3b{i:Nat}{o:Oper}{a:Act}{w:World}{K:Act→World→Prop}(t:TypeId)(parts:Array (Nat×Operand))(vals:List (Nat×Value))(cells:Array Value)(hi:ops[i]?=some o)(hg:o.guard=none)(ho:o.op=.build t parts)
  (hv:(parts.map fun(i,x)=>(i,a.eval x)).toList=vals) (hb:P.built t vals=some cells) (h:K (a.put o.dst (.agg cells)) w):wpOp P ops Q i K a w:=by
 refine z4n hi hg (wp_build t parts ho ?_ ?_)
 ·rw[hv,hb];rfl
 ·rw[hv,hb];exact h
theorem zkp{i:Nat}{o:Oper}{a:Act}{w:World}{K:Act→World→Prop}(ty:TypeId)(x y:Operand)(g:Nat)(cells:Array Value)(hi:ops[i]?=some o)(hgd:o.guard=none)(ho:o.op=.store ty x y)
  (hx:a.eval x=.pointer (some ⟨g,0,none⟩)) (hy:a.eval y=.agg cells) (t:TypeId) (old:Array Value) (hg:w.heap[g]?=some (.cells old t (0,0))) (hn:(P.info? ty).map (·.size)=some cells.size)
  (hold:old.size=cells.size) (h1:cells.all (·.oneCell')=true) (h:K (a.put o.dst undef) (w.setRow g cells)):wpOp P ops Q i K a w:=
 z4n hi hgd (wp_store_row ty x y ho g cells hx hy t old hg hn hold h1 h)
theorem zbp{i:Nat}{o:Oper}{a:Act}{w:World}{K:Act→World→Prop}(f:FuncId)(args:Array Value)(hi:ops[i]?=some o)(hg:o.guard=none)
  (hrun:(execOp a.eval o).run P w=.ok (.enter f args) w) (post:Ending→World→Prop) (hc:Calls P f args w post)
  (h:∀e w',post e w'→∃v,e=.returned v∧K (a.put o.dst v) w'):wpOp P ops Q i K a w:=by
 unfold wpOp;have C:Region.wanted o (yielded ops a.tmps)=true:=by simp[Region.wanted,hg]
 simp only[hi,C,if_true,Oper.wp,hrun,Oper.upon];refine .inl (hc.mono ?_);intro e w' B;obtain⟨v,rfl,A⟩:=h e w' B;exact A
theorem zgo{i n d s:Nat}{o:Oper}{a a0:Act}{w:World}{R:World→Prop}{ψ:Nat→Value→World→Prop}{dst:Option Tmp}(v:Value)(hi:ops[i]?=some o)(hg:o.guard=none)
  (hrun:(execOp a.eval o).run P w=.ok (.value v) w) (hF:FrOf ops a0 a) (hn:a0.tmps.size=n) (hR:R w) (h:ψ i v w) (h1:o.dst=some d:=by rfl) (h2:dst=some d:=by rfl) (h3:s=d:=by rfl) (hd:d<n:=by decide):
  wpOp P ops Q i (fun a' w'=>∃v,a'=a.put dst v∧R w'∧ψ i (a'.eval (.tmp s)) w'∧∀j u,j≠i→ψ j u w→ψ j u w') a w:=by
 subst h2 h3;refine zar v hi hg hrun ⟨v,by rw[h1],hR,?_,fun _ _ _ h=>h⟩;rw[h1,zan hF hn hd];exact h
theorem zby{i n d s m:Nat}{o:Oper}{a a0:Act}{w:World}{R:Value→World→Prop}{ψ:Nat→Value→Value→World→Prop}{dst:Option Tmp}(v:Value)(hi:ops[i]?=some o)(hg:o.guard=none)
  (hrun:(execOp a.eval o).run P w=.ok (.value v) w) (hF:FrOf ops a0 a) (hn:a0.tmps.size=n) (hR:R (a.eval (.tmp m)) w) (h:ψ i v (a.eval (.tmp m)) w) (h1:o.dst=some d:=by rfl) (h2:dst=some d:=by rfl) (h3:s=d:=by rfl) (hd:d<n:=by decide) (hm:d≠m:=by decide):
  wpOp P ops Q i (fun a' w'=>∃v,a'=a.put dst v∧R (a'.eval (.tmp m)) w'∧ψ i (a'.eval (.tmp s)) (a'.eval (.tmp m)) w'∧∀j x,j≠i→ψ j x (a.eval (.tmp m)) w→ψ j x (a'.eval (.tmp m)) w') a w:=by
 subst h2 h3;refine zar v hi hg hrun ⟨v,by rw[h1],?_,?_,fun j x _ h=>?_⟩
 ·rw[h1,Act.eval_put_ne _ _ _ _ hm];exact hR
 ·rw[h1,zan hF hn hd,Act.eval_put_ne _ _ _ _ hm];exact h
 ·rw[h1,Act.eval_put_ne _ _ _ _ hm];exact h
theorem zgl{i n d s:Nat}{o:Oper}{a a0:Act}{w:World}{R:World→Prop}{ψ:Nat→Value→World→Prop}{dst:Option Tmp}(v:Value)(hi:ops[i]?=some o)(hw:Region.wanted o (yielded ops a.tmps)=true)
  (hrun:(execOp a.eval o).run P w=.ok (.value v) w) (hF:FrOf ops a0 a) (hn:a0.tmps.size=n) (hR:R w) (h:ψ i v w) (h1:o.dst=some d:=by rfl) (h2:dst=some d:=by rfl) (h3:s=d:=by rfl) (hd:d<n:=by decide):
  wpOp P ops Q i (fun a' w'=>∃v,a'=a.put dst v∧R w'∧ψ i (a'.eval (.tmp s)) w'∧∀j u,j≠i→ψ j u w→ψ j u w') a w:=by
 subst h2 h3;refine zto v hi hw hrun ⟨v,by rw[h1],hR,?_,fun _ _ _ h=>h⟩;rw[h1,zan hF hn hd];exact h
theorem zam{i n d:Nat}{o:Oper}{a0:Act}{R:World→Prop}{ψ:Nat→Value→World→Prop}{sl:List Tmp}{V U:Value}(k x:Nat)(hn:a0.tmps.size=n)(hV:∀v w,ψ k v w→v=V)(hU:∀w,ψ i U w)
  (hrun:∀(ρ:Operand→Value) (w:World),R w→ρ (.tmp x)=V→(execOp ρ o).run P w=.ok (.value U) w) (hx:sl.getD k 0=x:=by rfl) (hm:(⟨k,.data⟩:Edge)∈o.after.toList:=by simp) (hb:Region.binds .any ⟨k,.data⟩=true:=by rfl)
  (hi:ops[i]?=some o:=by rfl) (hg:o.guard=none:=by rfl) (h1:o.dst=some d:=by rfl) (h3:sl.getD i 0=d:=by rfl) (hd:d<n:=by decide):zvf P ops Q a0 R sl ψ i o:=by
 intro a w C B D;have A:=D _ hm hb;rw[hx]at A;rw[h3];exact zgo U hi hg (hrun a.eval w B (hV _ _ A)) C hn B (hU w) h1 h1 rfl hd
theorem zbg{i n d x:Nat}{o:Oper}{a0:Act}{R:World→Prop}{ψ:Nat→Value→World→Prop}{sl:List Tmp}{V U:Value}(hv:a0.eval (.tmp x)=V)(hn:a0.tmps.size=n)(hU:∀w,ψ i U w)
  (hrun:∀(ρ:Operand→Value) (w:World),R w→ρ (.tmp x)=V→(execOp ρ o).run P w=.ok (.value U) w) (hx:(z0c ops).contains x=false:=by rfl)
  (hi:ops[i]?=some o:=by rfl) (hg:o.guard=none:=by rfl) (h1:o.dst=some d:=by rfl) (h3:sl.getD i 0=d:=by rfl) (hd:d<n:=by decide):zvf P ops Q a0 R sl ψ i o:=by
 intro a w A B hp;rw[h3];exact zgo U hi hg (hrun a.eval w B ((A.other x hx).trans hv)) A hn B (hU w) h1 h1 rfl hd
end
section
variable {P:Program} {ops:Array Oper} {Q:Exit→Act→World→Prop}
def z30 (P:Program)(ops:Array Oper)(Q:Exit→Act→World→Prop)(a0:Act)(m:Nat)(R:Bool→World→Prop)(sl:List Tmp)(ψ:Nat→Value→World→Prop)(i:Nat)(o:Oper):Prop:=
 ∀b a w,(i=m→b=false)→((ancOf ops 8 (waitsFor ops i)).contains m=true→b=true)→FrOf ops a0 a→R b w→(∀e∈o.after.toList,Region.binds .any e=true→ψ e.on (a.eval (.tmp (sl.getD e.on 0))) w)→
  wpOp P ops Q i (fun a' w'=>∃v,a'=a.put o.dst v∧R (b||i==m) w'∧ψ i (a'.eval (.tmp (sl.getD i 0))) w'∧∀j u,j≠i→ψ j u w→ψ j u w') a w
theorem z1s{id:Nat}{a0:Act}{w0:World}(m:Nat)(hmn:m<ops.size)(R:Bool→World→Prop)(sl:List Tmp)(ψ:Nat→Value→World→Prop)(hm:P.follows .mixedOrders=true)(hap:zf5 ops sl=true)
  (hback:(List.range ops.size).all (fun i=>((ops[i]?).map (·.after.all fun e=> !Region.binds .any e||decide (e.on<i))).getD true)=true)
  (hR:R false {w0 with drawn:=w0.drawn+1}) (hstep:AllOps (z30 P ops Q a0 m R sl ψ) 0 ops.toList)
  (hend:∀a w,FrOf ops a0 a→R true w→(∀j,j<ops.size→ψ j (a.eval (.tmp (sl.getD j 0))) w)→Q .normal a w):
  (Code.region id ops true).wp P Q a0 w0:=by
 refine wp_region_any hm (zhe (fun listed a w=>FrOf ops a0 a∧R (listed.getD m false) w∧(∀j o,ops[j]?=some o→listed.getD j false=true→∀e∈o.after,Region.binds .any e=true→listed.getD e.on false=true)∧∀j,j<ops.size→listed.getD j false=true→ψ j (a.eval (.tmp (sl.getD j 0))) w) ?_ ?_ _ _ _ _ (by simp) ?_ ?_)
 ·rintro listed a w i n ⟨U,J,L,X⟩ hi;obtain⟨b,o,I,l⟩:=mem_ready.1 hi;have c:i<ops.size:=(Array.getElem?_eq_some_iff.1 I).1
  have E:listed.getD i false=false:=by
   have:i<listed.size:=by omega
   simp only[Array.getD,this,dif_pos]at b⊢;exact b
  have h:=hstep.get _ _ i o (by simpa using I);rw[Nat.zero_add]at h;have F:∀e∈o.after,Region.binds .any e=true→listed.getD e.on false=true:=fun e C hb=>by simpa using l e C hb
  have u:∀e∈o.after,Region.binds .any e=true→e.on<ops.size:=by
   intro e C p;have S:=List.all_eq_true.1 hback i (by simpa using c);simp only[I,Option.map_some,Option.getD_some]at S;have Y:=(Array.all_eq_true_iff_forall_mem.1 S) e C;rw[p,Bool.not_true,Bool.false_or]at Y;have:=of_decide_eq_true Y;omega
  have r:∀x∈waitsFor ops i,listed.getD x false=true:=by
   intro x M;unfold waitsFor at M;rw[I]at M;simp only[Option.map_some,Option.getD_some]at M;obtain⟨e,C,rfl⟩:=List.mem_map.1 M;obtain⟨h3,O⟩:=List.mem_filter.1 C;exact F e (by simpa using h3) O
  refine wpOp_mono ?_ (h (listed.getD m false) a w (fun e=>by rw[←e];exact E) (fun hc=>zj6 L 8 (waitsFor ops i) r m (by simpa using hc)) U J fun e C hb=>X _ (u e (by simpa using C) hb) (F e (by simpa using C) hb));rintro a' w' ⟨v,rfl,k,y,z⟩
  have N:∀j,(listed.setIfInBounds i true).getD j false=true→j=i∨listed.getD j false=true:=by
   intro j A;by_cases B:j=i
   ·exact .inl B
   ·rw[getD_set_ne false (Ne.symm B)]at A;exact .inr A
  have K:∀j,listed.getD j false=true→(listed.setIfInBounds i true).getD j false=true:=by
   intro j A;by_cases B:j=i
   ·subst B;rw[E]at A;cases A
   ·rw[getD_set_ne false (Ne.symm B)];exact A
  have s:R ((listed.setIfInBounds i true).getD m false) w':=by
   by_cases him:i=m
   ·subst him
    have e:(listed.setIfInBounds i true).getD i false=true:=by
     have:i<listed.size:=by omega
     simp[Array.getD,this]
    rw[e]
    simpa using k
   ·rw[getD_set_ne false him];have e:(i==m)=false:=by simpa using him
    simpa[e] using k
  refine⟨U.put I v,s,?_,fun j hjs A=>?_⟩
  ·intro j oj D A e C hb;rcases N j A with rfl|A
   ·rw[I]at D;cases D;exact K _ (F e C hb)
   ·exact K _ (L j oj D A e C hb)
  ·rcases N j A with rfl|hj2
   ·exact y
   ·clear A;have A:=hj2;have B:j≠i:=by intro e;subst e;rw[E]at A;cases A
    have S:=z j _ B (X j hjs A)
    have Y:(a.put o.dst v).eval (.tmp (sl.getD j 0))=a.eval (.tmp (sl.getD j 0)):=by
     cases hd:o.dst with
     |none=>rfl
     |some d=>
      refine Act.eval_put_ne _ _ _ _ fun e=>?_;have h3:=List.all_eq_true.1 (List.all_eq_true.1 hap i (by simpa using c)) j (by simpa using hjs);simp only[I,Option.bind_some,hd,Bool.or_eq_true]at h3;rcases h3 with h3|h3|h3
      ·exact B (by simpa using(beq_iff_eq.1 h3).symm)
      ·simp[e]at h3
      ·have D:ops[j]?=some ops[j]:=by simp[hjs]
       simp only[D,Option.map_some,Option.getD_some]at h3;obtain⟨x,M,O⟩:=List.any_eq_true.1 (Array.any_toList.trans h3);simp only[Bool.and_eq_true,beq_iff_eq]at O;have:=L j _ D A x (by simpa using M) O.1;rw[O.2,E]at this;cases this
    rw[Y];exact S
 ·rintro listed a w n ⟨U,J,L,X⟩ q;exact hend a w U (by rw[zh0 hback listed n q m hmn]at J;exact J) fun j A=>X j A (zh0 hback listed n q j A)
 ·simp[zmf,List.countP_replicate]
 ·have Z:∀j,(Array.replicate ops.size false).getD j false=true→False:=by
   intro j A;rcases Nat.lt_or_ge j ops.size with h|h
   ·simp[Array.getD,h]at A
   ·simp[Array.getD,Nat.not_lt.2 h]at A
  have e:(Array.replicate ops.size false).getD m false=false:=by simp[Array.getD,hmn]
  refine⟨⟨rfl,rfl,fun _ _=>rfl⟩,?_,fun j _ _ A=>(Z j A).elim,fun j _ A=>(Z j A).elim⟩;rw[e];exact hR
theorem zjq{id:Nat}{a0:Act}{w0:World}(k m:Nat)(hmk:m<k)(R:Bool→World→Prop)(sl:List Tmp)(ψ:Nat→Value→World→Prop)(hm:P.follows .mixedOrders=true)(hap:zf5 ops sl=true)
  (hback:(List.range ops.size).all (fun i=>((ops[i]?).map (·.after.all fun e=> !Region.binds .any e||decide (e.on<i))).getD true)=true) (htail:zjm ops k=true) (hkn:k≤ops.size)
  (hR:R false {w0 with drawn:=w0.drawn+1}) (hstep:AllOps (z30 P ops Q a0 m R sl ψ) 0 (ops.toList.take k))
  (hend:∀a w,FrOf ops a0 a→R true w→(∀j,j<k→ψ j (a.eval (.tmp (sl.getD j 0))) w)→wpOps P ops Q ((List.range ops.size).drop k) a w):
  (Code.region id ops true).wp P Q a0 w0:=by
 refine wp_region_any hm (zhe (fun listed a w=>
  ((∀i,k≤i→listed.getD i false=false)∧FrOf ops a0 a∧R (listed.getD m false) w∧(∀j o,ops[j]?=some o→listed.getD j false=true→∀e∈o.after,Region.binds .any e=true→listed.getD e.on false=true)∧∀j,j<k→listed.getD j false=true→ψ j (a.eval (.tmp (sl.getD j 0))) w)∨
  (∃i,k≤i∧i≤ops.size∧(∀j,j<i→listed.getD j false=true)∧(∀j,i≤j→listed.getD j false=false)∧wpOps P ops Q ((List.range ops.size).drop i) a w)) ?_ ?_ _ _ _ _ (by simp) ?_ ?_)
 ·rintro listed a w i hs hI hi;obtain⟨s,o,Z,I⟩:=mem_ready.1 hi;have Y:i<ops.size:=(Array.getElem?_eq_some_iff.1 Z).1
  have M:listed.getD i false=false:=by
   have:i<listed.size:=by omega
   simp only[Array.getD,this,dif_pos]at s⊢;exact s
  have p:∀j,(listed.setIfInBounds i true).getD j false=true→j=i∨listed.getD j false=true:=by
   intro j A;by_cases D:j=i
   ·exact .inl D
   ·rw[getD_set_ne false (Ne.symm D)]at A;exact .inr A
  have N:∀j,listed.getD j false=true→(listed.setIfInBounds i true).getD j false=true:=by
   intro j A;by_cases D:j=i
   ·subst D;rw[M]at A;cases A
   ·rw[getD_set_ne false (Ne.symm D)];exact A
  have c:(listed.setIfInBounds i true).getD i false=true:=by
   have:i<listed.size:=by omega
   simp[Array.getD,this]
  have X:∀{a:Act} {w:World},k≤i→(∀j,j<i→listed.getD j false=true)→(∀j,i≤j→listed.getD j false=false)→wpOps P ops Q ((List.range ops.size).drop i) a w→
    wpOp P ops Q i (fun q n=>((∀x,k≤x→(listed.setIfInBounds i true).getD x false=false)∧FrOf ops a0 q∧R ((listed.setIfInBounds i true).getD m false) n∧(∀j o,ops[j]?=some o→(listed.setIfInBounds i true).getD j false=true→∀e∈o.after,Region.binds .any e=true→(listed.setIfInBounds i true).getD e.on false=true)∧∀j,j<k→(listed.setIfInBounds i true).getD j false=true→ψ j (q.eval (.tmp (sl.getD j 0))) n)∨
     (∃x,k≤x∧x≤ops.size∧(∀j,j<x→(listed.setIfInBounds i true).getD j false=true)∧(∀j,x≤j→(listed.setIfInBounds i true).getD j false=false)∧wpOps P ops Q ((List.range ops.size).drop x) q n)) a w:=by
   intro a w A7 B E b;rw[zj7 Y,wpOps_cons]at b;refine wpOp_mono (fun q n h'=>.inr ⟨i+1,by omega,by omega,fun j A=>?_,fun j A=>?_,h'⟩) b
   ·by_cases D:j=i
    ·subst D;exact c
    ·exact N j (B j (by omega))
   ·rw[getD_set_ne false (by omega)];exact E j (by omega)
  rcases hI with⟨C,hF,hRw,L,hp⟩|⟨x,hkx,hxn,B,E,b⟩
  ·by_cases hik:i<k
   ·have h:=hstep.get _ _ i o (by rw[List.getElem?_take_of_lt hik];simpa using Z);rw[Nat.zero_add]at h;have S:∀e∈o.after,Region.binds .any e=true→listed.getD e.on false=true:=fun e J hb=>by simpa using I e J hb
    have A4:∀e∈o.after,Region.binds .any e=true→e.on<k:=by
     intro e J A0;have h1:=List.all_eq_true.1 hback i (by simpa using Y);simp only[Z,Option.map_some,Option.getD_some]at h1;have h2:=(Array.all_eq_true_iff_forall_mem.1 h1) e J;rw[A0,Bool.not_true,Bool.false_or]at h2;have:=of_decide_eq_true h2;omega
    have A1:∀x∈waitsFor ops i,listed.getD x false=true:=by
     intro x F;unfold waitsFor at F;rw[Z]at F;simp only[Option.map_some,Option.getD_some]at F;obtain⟨e,J,rfl⟩:=List.mem_map.1 F;obtain⟨h3,U⟩:=List.mem_filter.1 J;exact S e (by simpa using h3) U
    refine wpOp_mono ?_ (h (listed.getD m false) a w (fun e=>by rw[←e];exact M) (fun hc=>zj6 L 8 (waitsFor ops i) A1 m (by simpa using hc)) hF hRw fun e J hb=>hp _ (A4 e (by simpa using J) hb) (S e (by simpa using J) hb));rintro q n ⟨v,rfl,r,A6,u⟩
    have A2:R ((listed.setIfInBounds i true).getD m false) n:=by
     by_cases him:i=m
     ·subst him;rw[c]
      simpa using r
     ·rw[getD_set_ne false him];have e:(i==m)=false:=by simpa using him
      simpa[e] using r
    refine .inl ⟨fun y hy=>?_,hF.put Z v,A2,?_,fun j hjs A=>?_⟩
    ·rw[getD_set_ne false (by omega)];exact C y hy
    ·intro j oj K A e J hb;rcases p j A with rfl|A
     ·rw[Z]at K;cases K;exact N _ (S e J hb)
     ·exact N _ (L j oj K A e J hb)
    ·rcases p j A with rfl|hj2
     ·exact A6
     ·have D:j≠i:=by intro e;subst e;rw[M]at hj2;cases hj2
      have h1:=u j _ D (hp j hjs hj2)
      have h2:(a.put o.dst v).eval (.tmp (sl.getD j 0))=a.eval (.tmp (sl.getD j 0)):=by
       cases hd:o.dst with
       |none=>rfl
       |some d=>
        refine Act.eval_put_ne _ _ _ _ fun e=>?_;have l:j<ops.size:=by omega
        have h3:=List.all_eq_true.1 (List.all_eq_true.1 hap i (by simpa using Y)) j (by simpa using l);simp only[Z,Option.bind_some,hd,Bool.or_eq_true]at h3;rcases h3 with h3|h3|h3
        ·exact D (by simpa using(beq_iff_eq.1 h3).symm)
        ·simp[e]at h3
        ·have K:ops[j]?=some ops[j]:=by simp[l]
         simp only[K,Option.map_some,Option.getD_some]at h3;obtain⟨x,F,U⟩:=List.any_eq_true.1 (Array.any_toList.trans h3);simp only[Bool.and_eq_true,beq_iff_eq]at U;have:=L j _ K hj2 x (by simpa using F) U.1;rw[U.2,M]at this;cases this
      rw[h2];exact h1
   ·have z:k≤i:=by omega
    have O:∀j,j<i→listed.getD j false=true:=fun j A=>zen htail Y z A hi L
    have A5:i=k:=by
     by_cases F:i=k
     ·exact F
     ·have h1:=O k (by omega);rw[C k (Nat.le_refl _)]at h1;cases h1
    subst A5;exact X (Nat.le_refl _) O C (hend a w hF (by rw[O m hmk]at hRw;exact hRw) fun j A=>hp j A (O j A))
  ·have A3:i=x:=by
    rcases Nat.lt_trichotomy i x with h1|h1|h1
    ·have:=B i h1;rw[M]at this;cases this
    ·exact h1
    ·have L:∀j o,ops[j]?=some o→listed.getD j false=true→∀e∈o.after,Region.binds .any e=true→listed.getD e.on false=true:=by
      intro j o K A e J hb
      have A8:j<x:=by
       rcases Nat.lt_or_ge j x with h2|h2
       ·exact h2
       ·rw[E j h2]at A;cases A
      have l:j<ops.size:=by omega
      have h3:=List.all_eq_true.1 hback j (by simpa using l);simp only[K,Option.map_some,Option.getD_some]at h3;have U:=(Array.all_eq_true_iff_forall_mem.1 h3) e J;rw[hb,Bool.not_true,Bool.false_or]at U;have:=of_decide_eq_true U;exact B e.on (by omega)
     have:=zen htail Y (by omega) h1 hi L;rw[E x (Nat.le_refl _)]at this;cases this
   subst A3;exact X hkx B E b
 ·rintro listed a w hs hI hr;have I:=zh0 hback listed hs hr;rcases hI with⟨C,hF,hRw,L,hp⟩|⟨x,hkx,hxn,B,E,b⟩
  ·have u:k=ops.size:=by
    rcases Nat.lt_or_ge k ops.size with h|h
    ·have:=I k h;rw[C k (Nat.le_refl _)]at this;cases this
    ·omega
   have:=hend a w hF (by rw[I m (by omega)]at hRw;exact hRw) fun j A=>hp j A (I j (by omega));rw[u,List.drop_of_length_le (by simp)]at this;exact this
  ·have F:x=ops.size:=by
    rcases Nat.lt_or_ge x ops.size with h|h
    ·have:=I x h;rw[E x (Nat.le_refl _)]at this;cases this
    ·omega
   rw[F,List.drop_of_length_le (by simp)]at b;exact b
 ·simp[zmf,List.countP_replicate]
 ·have C:∀j,(Array.replicate ops.size false).getD j false=true→False:=by
   intro j A;rcases Nat.lt_or_ge j ops.size with h|h
   ·simp[Array.getD,h]at A
   ·simp[Array.getD,Nat.not_lt.2 h]at A
  have e0:(Array.replicate ops.size false).getD m false=false:=by
   cases F:(Array.replicate ops.size false).getD m false with
   |false=>rfl
   |true=>exact(C m F).elim
  refine .inl ⟨fun i _=>?_,⟨rfl,rfl,fun _ _=>rfl⟩,(by rw[e0];exact hR),fun j _ _ A=>(C j A).elim,fun j _ A=>(C j A).elim⟩
  cases F:(Array.replicate ops.size false).getD i false with
  |false=>rfl
  |true=>exact(C i F).elim
end
