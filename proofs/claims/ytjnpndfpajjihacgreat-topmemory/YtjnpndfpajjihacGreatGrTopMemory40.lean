/-
  
-/
import Derived.Test.YtjnpndfpajjihacGreatGrTopMemory0
import Derived.Orders
import Derived.Great.Frames
import Derived.Laws.Tables
namespace Go.Proofs.YtjnpndfpajjihacGreat
open Go.RowKit
section
variable {P:Program} {ops:Array Oper} {Q:Exit→Act→World→Prop} {md:Region.Mode}
def zmk (listed:Array Bool):Nat:=listed.toList.countP (fun b=> !b)
theorem zzi {listed:Array Bool}{i:Nat}(h:listed.getD i true=false):zmk (listed.setIfInBounds i true)<zmk listed:=by
 unfold zmk;rw[Array.toList_setIfInBounds]
 have hi:i<listed.toList.length:=by
  rcases Nat.lt_or_ge i listed.size with h'|h'
  ·simpa using h'
  ·simp[Array.getD,Nat.not_lt.2 h'] at h
 have hv:listed.toList[i]=false:=by
  have hs:i<listed.size:=by simpa using hi
  simpa[Array.getD,hs] using h
 generalize listed.toList=l at *;clear h
 induction l generalizing i with
 |nil=>simp at hi
 |cons x l ih=>
  cases i with
  |zero=>simp only[List.getElem_cons_zero] at hv;subst hv;simp
  |succ i=>
   simp only[List.getElem_cons_succ] at hv;simp only[List.set_cons_succ,List.countP_cons];have:=ih (by simpa using hi) hv;omega
theorem zwc {listed:Array Bool}(h:zmk listed=0):Region.ready md ops listed=[]:=by
 unfold zmk at h;rw[List.countP_eq_zero] at h;refine List.eq_nil_iff_forall_not_mem.2 fun i hi=>?_;have hm:=(mem_ready.1 hi).1;rcases Nat.lt_or_ge i listed.size with h'|h'
 ·have:=h (listed[i]) (by simp)
  simp[Array.getD,h'] at hm;simp[hm] at this
 ·simp[Array.getD,Nat.not_lt.2 h'] at hm
theorem zi8 (I:Array Bool→Act→World→Prop)
  (hstep:∀listed a w i,listed.size=ops.size→I listed a w→i∈Region.ready md ops listed→wpOp P ops Q i (I (listed.setIfInBounds i true)) a w)
  (hfin:∀listed a w,listed.size=ops.size→I listed a w→Region.ready md ops listed=[]→Q .normal a w):
  ∀(fuel:Nat) (listed:Array Bool) (a:Act) (w:World),listed.size=ops.size→zmk listed≤fuel→I listed a w→wpAny P md ops Q fuel listed a w:=by
 intro fuel
 induction fuel with
 |zero=>
  intro listed a w hs hl hI;have hr:Region.ready md ops listed=[]:=zwc (by omega);exact⟨hr,hfin listed a w hs hI hr⟩
 |succ fuel ih=>
  intro listed a w hs hl hI;refine⟨hfin listed a w hs hI,fun i hi=>wpOp_mono (fun a' w' h'=>ih _ a' w' (by simpa using hs) ?_ h') (hstep listed a w i hs hI hi)⟩;have:=zzi (mem_ready.1 hi).1;omega
def z2t (ops:Array Oper):List Tmp:=ops.toList.filterMap (·.dst)
structure FrOf (ops:Array Oper)(a0 a:Act):Prop where
 size:a.tmps.size=a0.tmps.size
 defers:a.defers=a0.defers
 other:∀t,(z2t ops).contains t=false→a.eval (.tmp t)=a0.eval (.tmp t)
theorem FrOf.put {a0 a:Act}(h:FrOf ops a0 a){i:Nat}{o:Oper}(ho:ops[i]?=some o)(v:Value):FrOf ops a0 (a.put o.dst v):=by
 refine⟨by rw[Act.size_put];exact h.size,by rw[Act.defers_put'];exact h.defers,fun t ht=>?_⟩;rw[←h.other t ht]
 cases hd:o.dst with
 |none=>rfl
 |some d=>
  refine Act.eval_put_ne _ _ _ _ fun e=>?_;subst e;have:d∈z2t ops:=List.mem_filterMap.2 ⟨o,by rw[Array.mem_toList_iff];exact Array.mem_of_getElem? ho,hd⟩;simp[this] at ht
def AllOps (F:Nat→Oper→Prop):Nat→List Oper→Prop
 |_,[]=>True
 |k,o::l=>F k o∧AllOps F (k+1) l
theorem AllOps.get {F:Nat→Oper→Prop}:∀(l:List Oper) (k:Nat),AllOps F k l→∀i o,l[i]?=some o→F (k+i) o
 |[],_,_,i,o,h=>by simp at h
 |x::l,k,h,0,o,hi=>by simp at hi;subst hi;exact h.1
 |x::l,k,h,i+1,o,hi=>by
  have:=AllOps.get l (k+1) h.2 i o (by simpa using hi);rw[show k+(i+1)=k+1+i by omega];exact this
theorem zi9 {ops:Array Oper}(hb:(List.range ops.size).all (fun i=>((ops[i]?).map (·.after.all fun e=> !Region.binds .any e||decide (e.on<i))).getD true)=true):
  ∀listed:Array Bool,listed.size=ops.size→Region.ready .any ops listed=[]→∀j,j<ops.size→listed.getD j false=true:=by
 intro listed hs hr j
 induction j using Nat.strongRecOn with
 |_ j ih=>
  intro hj;by_cases h:listed.getD j false=true
  ·exact h
  exfalso
  have hjl:j<listed.size:=by omega
  have hn:listed.getD j true=false:=by
   simp only[Array.getD,hjl,dif_pos] at h⊢
   simpa using h
  have:j∈Region.ready .any ops listed:=by
   refine mem_ready.2 ⟨hn,ops[j],by simp[hj],fun e he hbn=>?_⟩;have:=List.all_eq_true.1 hb j (by simpa using hj);simp only[hj,Array.getElem?_eq_getElem,Option.map_some,Option.getD_some] at this;have h2:=(Array.all_eq_true_iff_forall_mem.1 this) e he;rw[hbn,Bool.not_true,Bool.false_or] at h2;have h3:=ih e.on (by simpa using h2) (by have:=of_decide_eq_true h2;omega)
   simpa using h3
  rw[hr] at this;cases this
def zhl (ops:Array Oper)(sl:List Tmp):Bool:=
 (List.range ops.size).all fun i=>(List.range ops.size).all fun j=>i==j||(match(ops[i]?).bind (·.dst) with
  |some d=>d !=sl.getD j 0||((ops[j]?).map (·.after.any fun e=>Region.binds .any e&&e.on==i)).getD false
  |none=>true)
def z2u (P:Program)(ops:Array Oper)(Q:Exit→Act→World→Prop)(a0:Act)(R:World→Prop)(sl:List Tmp)(ψ:Nat→Value→World→Prop)(i:Nat)(o:Oper):Prop:=
 ∀a w,FrOf ops a0 a→R w→(∀e∈o.after.toList,Region.binds .any e=true→ψ e.on (a.eval (.tmp (sl.getD e.on 0))) w)→
  wpOp P ops Q i (fun a' w'=>∃v,a'=a.put o.dst v∧R w'∧ψ i (a'.eval (.tmp (sl.getD i 0))) w'∧∀j u,j≠i→ψ j u w→ψ j u w') a w
theorem zep {id:Nat}{a0:Act}{w0:World}(R:World→Prop)(sl:List Tmp)(ψ:Nat→Value→World→Prop)(hm:P.follows .mixedOrders=true)(hap:zhl ops sl=true)
  (hback:(List.range ops.size).all (fun i=>((ops[i]?).map (·.after.all fun e=> !Region.binds .any e||decide (e.on<i))).getD true)=true)
  (hR:R {w0 with drawn:=w0.drawn+1}) (hstep:AllOps (z2u P ops Q a0 R sl ψ) 0 ops.toList)
  (hend:∀a w,FrOf ops a0 a→R w→(∀j,j<ops.size→ψ j (a.eval (.tmp (sl.getD j 0))) w)→Q .normal a w):
  (Code.region id ops true).wp P Q a0 w0:=by
 refine wp_region_any hm (zi8 (fun listed a w=>FrOf ops a0 a∧R w∧(∀j o,ops[j]?=some o→listed.getD j false=true→∀e∈o.after,Region.binds .any e=true→listed.getD e.on false=true)∧∀j,j<ops.size→listed.getD j false=true→ψ j (a.eval (.tmp (sl.getD j 0))) w) ?_ ?_ _ _ _ _ (by simp) ?_ ?_)
 ·rintro listed a w i hs ⟨hF,hRw,hcl,hp⟩ hi
  obtain⟨hun,o,ho,hall⟩:=mem_ready.1 hi;have hil:i<ops.size:=(Array.getElem?_eq_some_iff.1 ho).1
  have hunf:listed.getD i false=false:=by
   have:i<listed.size:=by omega
   simp only[Array.getD,this,dif_pos] at hun⊢;exact hun
  have h:=hstep.get _ _ i o (by simpa using ho);rw[Nat.zero_add] at h;have hall':∀e∈o.after,Region.binds .any e=true→listed.getD e.on false=true:=fun e he hb=>by simpa using hall e he hb
  have hon:∀e∈o.after,Region.binds .any e=true→e.on<ops.size:=by
   intro e he hbn;have h1:=List.all_eq_true.1 hback i (by simpa using hil);simp only[ho,Option.map_some,Option.getD_some] at h1;have h2:=(Array.all_eq_true_iff_forall_mem.1 h1) e he;rw[hbn,Bool.not_true,Bool.false_or] at h2;have:=of_decide_eq_true h2;omega
  refine wpOp_mono ?_ (h a w hF hRw fun e he hb=>hp _ (hon e (by simpa using he) hb) (hall' e (by simpa using he) hb));rintro a' w' ⟨v,rfl,hR',hi',hk⟩
  have hset:∀j,(listed.setIfInBounds i true).getD j false=true→j=i∨listed.getD j false=true:=by
   intro j hj;by_cases hji:j=i
   ·exact .inl hji
   ·rw[getD_set_ne false (Ne.symm hji)] at hj;exact .inr hj
  have hset':∀j,listed.getD j false=true→(listed.setIfInBounds i true).getD j false=true:=by
   intro j hj;by_cases hji:j=i
   ·subst hji;rw[hunf] at hj;cases hj
   ·rw[getD_set_ne false (Ne.symm hji)];exact hj
  refine⟨hF.put ho v,hR',?_,fun j hjs hj=>?_⟩
  ·intro j oj hoj hj e he hb
   rcases hset j hj with rfl|hj
   ·rw[ho] at hoj;cases hoj;exact hset' _ (hall' e he hb)
   ·exact hset' _ (hcl j oj hoj hj e he hb)
  ·rcases hset j hj with rfl|hj2
   ·exact hi'
   ·clear hj
    have hj:=hj2;have hji:j≠i:=by intro e;subst e;rw[hunf] at hj;cases hj
    have h1:=hk j _ hji (hp j hjs hj)
    have h2:(a.put o.dst v).eval (.tmp (sl.getD j 0))=a.eval (.tmp (sl.getD j 0)):=by
     cases hd:o.dst with
     |none=>rfl
     |some d=>
      refine Act.eval_put_ne _ _ _ _ fun e=>?_;have h3:=List.all_eq_true.1 (List.all_eq_true.1 hap i (by simpa using hil)) j (by simpa using hjs);simp only[ho,Option.bind_some,hd,Bool.or_eq_true] at h3;rcases h3 with h3|h3|h3
      ·exact hji (by simpa using(beq_iff_eq.1 h3).symm)
      ·simp[e] at h3
      ·have hoj:ops[j]?=some ops[j]:=by simp[hjs]
       simp only[hoj,Option.map_some,Option.getD_some] at h3;obtain⟨x,hx,h4⟩:=List.any_eq_true.1 (Array.any_toList.trans h3);simp only[Bool.and_eq_true,beq_iff_eq] at h4;have:=hcl j _ hoj hj x (by simpa using hx) h4.1;rw[h4.2,hunf] at this;cases this
    rw[h2];exact h1
 ·rintro listed a w hs ⟨hF,hRw,hcl,hp⟩ hr
  exact hend a w hF hRw fun j hj=>hp j hj (zi9 hback listed hs hr j hj)
 ·simp[zmk,List.countP_replicate]
 ·have hno:∀j,(Array.replicate ops.size false).getD j false=true→False:=by
   intro j hj;rcases Nat.lt_or_ge j ops.size with h|h
   ·simp[Array.getD,h] at hj
   ·simp[Array.getD,Nat.not_lt.2 h] at hj
  exact⟨⟨rfl,rfl,fun _ _=>rfl⟩,hR,fun j _ _ hj=>(hno j hj).elim,fun j _ hj=>(hno j hj).elim⟩
def waitsFor (ops:Array Oper)(i:Nat):List Nat:=((ops[i]?).map fun o=>(o.after.toList.filter (Region.binds .any)).map (·.on)).getD []
def ancOf (ops:Array Oper):Nat→List Nat→List Nat
 |0,S=>S
 |n+1,S=>ancOf ops n (S++S.flatMap (waitsFor ops)).eraseDups
def zlx (ops:Array Oper)(k:Nat):Bool:=
 (List.range ops.size).all fun i=>decide (i<k)||(List.range i).all fun j=>(ancOf ops 8 (waitsFor ops i)).contains j
theorem znm {listed:Array Bool}(hcl:∀j o,ops[j]?=some o→listed.getD j false=true→∀e∈o.after,Region.binds .any e=true→listed.getD e.on false=true):∀(n:Nat) (S:List Nat),(∀j∈S,listed.getD j false=true)→∀j∈ancOf ops n S,listed.getD j false=true:=by
 intro n
 induction n with
 |zero=>intro S h j hj;exact h j hj
 |succ n ih=>
  intro S h j hj;refine ih _ ?_ j hj;intro x hx;rw[List.mem_eraseDups] at hx;rcases List.mem_append.1 hx with h1|h1
  ·exact h x h1
  ·obtain⟨y,hy,hxy⟩:=List.mem_flatMap.1 h1
   unfold waitsFor at hxy
   cases ho:ops[y]? with
   |none=>rw[ho] at hxy;simp at hxy
   |some o=>
    rw[ho] at hxy;simp only[Option.map_some,Option.getD_some] at hxy;obtain⟨e,he,rfl⟩:=List.mem_map.1 hxy;obtain⟨h2,h3⟩:=List.mem_filter.1 he;exact hcl y o ho (h y hy) e (by simpa using h2) h3
theorem zhm {k i j:Nat}(h:zlx ops k=true)(hi:i<ops.size)(hk:k≤i)(hj:j<i){listed:Array Bool}(hr:i∈Region.ready .any ops listed)
  (hcl:∀j o,ops[j]?=some o→listed.getD j false=true→∀e∈o.after,Region.binds .any e=true→listed.getD e.on false=true):listed.getD j false=true:=by
 have h1:=List.all_eq_true.1 h i (List.mem_range.2 hi);rw[Bool.or_eq_true] at h1;rcases h1 with h1|h1
 ·have:=of_decide_eq_true h1;omega
 ·have h2:=List.all_eq_true.1 h1 j (List.mem_range.2 hj)
  obtain⟨_,o,ho,hall⟩:=mem_ready.1 hr;refine znm hcl 8 (waitsFor ops i) ?_ j (by simpa using h2);intro x hx;unfold waitsFor at hx;rw[ho] at hx;simp only[Option.map_some,Option.getD_some] at hx;obtain⟨e,he,rfl⟩:=List.mem_map.1 hx;obtain⟨h3,h4⟩:=List.mem_filter.1 he
  simpa using hall e (by simpa using h3) h4
theorem znn {n k:Nat}(h:k<n):(List.range n).drop k=k::(List.range n).drop (k+1):=by
 rw[List.drop_eq_getElem_cons (by simpa using h),List.getElem_range]
theorem zbe {id:Nat}{a0:Act}{w0:World}(k:Nat)(R:World→Prop)(sl:List Tmp)(ψ:Nat→Value→World→Prop)(hm:P.follows .mixedOrders=true)(hap:zhl ops sl=true)
  (hback:(List.range ops.size).all (fun i=>((ops[i]?).map (·.after.all fun e=> !Region.binds .any e||decide (e.on<i))).getD true)=true) (htail:zlx ops k=true) (hkn:k≤ops.size)
  (hR:R {w0 with drawn:=w0.drawn+1}) (hstep:AllOps (z2u P ops Q a0 R sl ψ) 0 (ops.toList.take k))
  (hend:∀a w,FrOf ops a0 a→R w→(∀j,j<k→ψ j (a.eval (.tmp (sl.getD j 0))) w)→wpOps P ops Q ((List.range ops.size).drop k) a w):
  (Code.region id ops true).wp P Q a0 w0:=by
 refine wp_region_any hm (zi8 (fun listed a w=>
  ((∀i,k≤i→listed.getD i false=false)∧FrOf ops a0 a∧R w∧(∀j o,ops[j]?=some o→listed.getD j false=true→∀e∈o.after,Region.binds .any e=true→listed.getD e.on false=true)∧∀j,j<k→listed.getD j false=true→ψ j (a.eval (.tmp (sl.getD j 0))) w)∨
  (∃i,k≤i∧i≤ops.size∧(∀j,j<i→listed.getD j false=true)∧(∀j,i≤j→listed.getD j false=false)∧wpOps P ops Q ((List.range ops.size).drop i) a w)) ?_ ?_ _ _ _ _ (by simp) ?_ ?_)
 ·rintro listed a w i hs hI hi
  obtain⟨hun,o,ho,hall⟩:=mem_ready.1 hi;have hil:i<ops.size:=(Array.getElem?_eq_some_iff.1 ho).1
  have hunf:listed.getD i false=false:=by
   have:i<listed.size:=by omega
   simp only[Array.getD,this,dif_pos] at hun⊢;exact hun
  have hset:∀j,(listed.setIfInBounds i true).getD j false=true→j=i∨listed.getD j false=true:=by
   intro j hj;by_cases hji:j=i
   ·exact .inl hji
   ·rw[getD_set_ne false (Ne.symm hji)] at hj;exact .inr hj
  have hset':∀j,listed.getD j false=true→(listed.setIfInBounds i true).getD j false=true:=by
   intro j hj;by_cases hji:j=i
   ·subst hji;rw[hunf] at hj;cases hj
   ·rw[getD_set_ne false (Ne.symm hji)];exact hj
  have hseti:(listed.setIfInBounds i true).getD i false=true:=by
   have:i<listed.size:=by omega
   simp[Array.getD,this]
  have goTail:∀{a:Act} {w:World},k≤i→(∀j,j<i→listed.getD j false=true)→(∀j,i≤j→listed.getD j false=false)→wpOps P ops Q ((List.range ops.size).drop i) a w→
    wpOp P ops Q i (fun a' w'=>((∀x,k≤x→(listed.setIfInBounds i true).getD x false=false)∧FrOf ops a0 a'∧R w'∧(∀j o,ops[j]?=some o→(listed.setIfInBounds i true).getD j false=true→∀e∈o.after,Region.binds .any e=true→(listed.setIfInBounds i true).getD e.on false=true)∧∀j,j<k→(listed.setIfInBounds i true).getD j false=true→ψ j (a'.eval (.tmp (sl.getD j 0))) w')∨
     (∃x,k≤x∧x≤ops.size∧(∀j,j<x→(listed.setIfInBounds i true).getD j false=true)∧(∀j,x≤j→(listed.setIfInBounds i true).getD j false=false)∧wpOps P ops Q ((List.range ops.size).drop x) a' w')) a w:=by
   intro a w hki hall1 hno1 hw;rw[znn hil,wpOps_cons] at hw;refine wpOp_mono (fun a' w' h'=>.inr ⟨i+1,by omega,by omega,fun j hj=>?_,fun j hj=>?_,h'⟩) hw
   ·by_cases hji:j=i
    ·subst hji;exact hseti
    ·exact hset' j (hall1 j (by omega))
   ·rw[getD_set_ne false (by omega)];exact hno1 j (by omega)
  rcases hI with⟨hno,hF,hRw,hcl,hp⟩|⟨x,hkx,hxn,hall1,hno1,hw⟩
  ·by_cases hik:i<k
   ·have h:=hstep.get _ _ i o (by rw[List.getElem?_take_of_lt hik];simpa using ho)
    rw[Nat.zero_add] at h;have hall':∀e∈o.after,Region.binds .any e=true→listed.getD e.on false=true:=fun e he hb=>by simpa using hall e he hb
    have hon:∀e∈o.after,Region.binds .any e=true→e.on<k:=by
     intro e he hbn;have h1:=List.all_eq_true.1 hback i (by simpa using hil);simp only[ho,Option.map_some,Option.getD_some] at h1;have h2:=(Array.all_eq_true_iff_forall_mem.1 h1) e he;rw[hbn,Bool.not_true,Bool.false_or] at h2;have:=of_decide_eq_true h2;omega
    refine wpOp_mono ?_ (h a w hF hRw fun e he hb=>hp _ (hon e (by simpa using he) hb) (hall' e (by simpa using he) hb));rintro a' w' ⟨v,rfl,hR',hi',hk⟩;refine .inl ⟨fun y hy=>?_,hF.put ho v,hR',?_,fun j hjs hj=>?_⟩
    ·rw[getD_set_ne false (by omega)];exact hno y hy
    ·intro j oj hoj hj e he hb
     rcases hset j hj with rfl|hj
     ·rw[ho] at hoj;cases hoj;exact hset' _ (hall' e he hb)
     ·exact hset' _ (hcl j oj hoj hj e he hb)
    ·rcases hset j hj with rfl|hj2
     ·exact hi'
     ·have hji:j≠i:=by intro e;subst e;rw[hunf] at hj2;cases hj2
      have h1:=hk j _ hji (hp j hjs hj2)
      have h2:(a.put o.dst v).eval (.tmp (sl.getD j 0))=a.eval (.tmp (sl.getD j 0)):=by
       cases hd:o.dst with
       |none=>rfl
       |some d=>
        refine Act.eval_put_ne _ _ _ _ fun e=>?_;have hjn:j<ops.size:=by omega
        have h3:=List.all_eq_true.1 (List.all_eq_true.1 hap i (by simpa using hil)) j (by simpa using hjn);simp only[ho,Option.bind_some,hd,Bool.or_eq_true] at h3;rcases h3 with h3|h3|h3
        ·exact hji (by simpa using(beq_iff_eq.1 h3).symm)
        ·simp[e] at h3
        ·have hoj:ops[j]?=some ops[j]:=by simp[hjn]
         simp only[hoj,Option.map_some,Option.getD_some] at h3;obtain⟨x,hx,h4⟩:=List.any_eq_true.1 (Array.any_toList.trans h3);simp only[Bool.and_eq_true,beq_iff_eq] at h4;have:=hcl j _ hoj hj2 x (by simpa using hx) h4.1;rw[h4.2,hunf] at this;cases this
      rw[h2];exact h1
   ·have hik2:k≤i:=by omega
    have hlst:∀j,j<i→listed.getD j false=true:=fun j hj=>zhm htail hil hik2 hj hi hcl
    have hie:i=k:=by
     by_cases hx:i=k
     ·exact hx
     ·have h1:=hlst k (by omega)
      rw[hno k (Nat.le_refl _)] at h1;cases h1
    subst hie;exact goTail (Nat.le_refl _) hlst hno (hend a w hF hRw fun j hj=>hp j hj (hlst j hj))
  ·have hix:i=x:=by
    rcases Nat.lt_trichotomy i x with h1|h1|h1
    ·have:=hall1 i h1;rw[hunf] at this;cases this
    ·exact h1
    ·have hcl:∀j o,ops[j]?=some o→listed.getD j false=true→∀e∈o.after,Region.binds .any e=true→listed.getD e.on false=true:=by
      intro j o hoj hj e he hb
      have hjx:j<x:=by
       rcases Nat.lt_or_ge j x with h2|h2
       ·exact h2
       ·rw[hno1 j h2] at hj;cases hj
      have hjn:j<ops.size:=by omega
      have h3:=List.all_eq_true.1 hback j (by simpa using hjn);simp only[hoj,Option.map_some,Option.getD_some] at h3;have h4:=(Array.all_eq_true_iff_forall_mem.1 h3) e he;rw[hb,Bool.not_true,Bool.false_or] at h4;have:=of_decide_eq_true h4;exact hall1 e.on (by omega)
     have:=zhm htail hil (by omega) h1 hi hcl;rw[hno1 x (Nat.le_refl _)] at this;cases this
   subst hix;exact goTail hkx hall1 hno1 hw
 ·rintro listed a w hs hI hr
  have hall:=zi9 hback listed hs hr;rcases hI with⟨hno,hF,hRw,hcl,hp⟩|⟨x,hkx,hxn,hall1,hno1,hw⟩
  ·have hk:k=ops.size:=by
    rcases Nat.lt_or_ge k ops.size with h|h
    ·have:=hall k h;rw[hno k (Nat.le_refl _)] at this;cases this
    ·omega
   have:=hend a w hF hRw fun j hj=>hp j hj (hall j (by omega));rw[hk,List.drop_of_length_le (by simp)] at this;exact this
  ·have hx:x=ops.size:=by
    rcases Nat.lt_or_ge x ops.size with h|h
    ·have:=hall x h;rw[hno1 x (Nat.le_refl _)] at this;cases this
    ·omega
   rw[hx,List.drop_of_length_le (by simp)] at hw;exact hw
 ·simp[zmk,List.countP_replicate]
 ·have hno:∀j,(Array.replicate ops.size false).getD j false=true→False:=by
   intro j hj;rcases Nat.lt_or_ge j ops.size with h|h
   ·simp[Array.getD,h] at hj
   ·simp[Array.getD,Nat.not_lt.2 h] at hj
  refine .inl ⟨fun i _=>?_,⟨rfl,rfl,fun _ _=>rfl⟩,hR,fun j _ _ hj=>(hno j hj).elim,fun j _ hj=>(hno j hj).elim⟩
  cases hx:(Array.replicate ops.size false).getD i false with
  |false=>rfl
  |true=>exact(hno i hx).elim
def z3k (P:Program)(ops:Array Oper)(Q:Exit→Act→World→Prop)(a0:Act)(m:Nat)(R:Value→World→Prop)(sl:List Tmp)(ψ:Nat→Value→Value→World→Prop)(i:Nat)(o:Oper):Prop:=
 ∀a w,FrOf ops a0 a→R (a.eval (.tmp m)) w→(∀e∈o.after.toList,Region.binds .any e=true→ψ e.on (a.eval (.tmp (sl.getD e.on 0))) (a.eval (.tmp m)) w)→
  wpOp P ops Q i (fun a' w'=>∃v,a'=a.put o.dst v∧R (a'.eval (.tmp m)) w'∧ψ i (a'.eval (.tmp (sl.getD i 0))) (a'.eval (.tmp m)) w'∧∀j x,j≠i→ψ j x (a.eval (.tmp m)) w→ψ j x (a'.eval (.tmp m)) w') a w
theorem zc7 {id:Nat}{a0:Act}{w0:World}(k m:Nat)(R:Value→World→Prop)(sl:List Tmp)(ψ:Nat→Value→Value→World→Prop)(hm:P.follows .mixedOrders=true)(hap:zhl ops sl=true)
  (hback:(List.range ops.size).all (fun i=>((ops[i]?).map (·.after.all fun e=> !Region.binds .any e||decide (e.on<i))).getD true)=true) (htail:zlx ops k=true) (hkn:k≤ops.size)
  (hR:R (a0.eval (.tmp m)) {w0 with drawn:=w0.drawn+1}) (hstep:AllOps (z3k P ops Q a0 m R sl ψ) 0 (ops.toList.take k))
  (hend:∀a w,FrOf ops a0 a→R (a.eval (.tmp m)) w→(∀j,j<k→ψ j (a.eval (.tmp (sl.getD j 0))) (a.eval (.tmp m)) w)→wpOps P ops Q ((List.range ops.size).drop k) a w):
  (Code.region id ops true).wp P Q a0 w0:=by
 refine wp_region_any hm (zi8 (fun listed a w=>
  ((∀i,k≤i→listed.getD i false=false)∧FrOf ops a0 a∧R (a.eval (.tmp m)) w∧(∀j o,ops[j]?=some o→listed.getD j false=true→∀e∈o.after,Region.binds .any e=true→listed.getD e.on false=true)∧∀j,j<k→listed.getD j false=true→ψ j (a.eval (.tmp (sl.getD j 0))) (a.eval (.tmp m)) w)∨
  (∃i,k≤i∧i≤ops.size∧(∀j,j<i→listed.getD j false=true)∧(∀j,i≤j→listed.getD j false=false)∧wpOps P ops Q ((List.range ops.size).drop i) a w)) ?_ ?_ _ _ _ _ (by simp) ?_ ?_)
 ·rintro listed a w i hs hI hi
  obtain⟨hun,o,ho,hall⟩:=mem_ready.1 hi;have hil:i<ops.size:=(Array.getElem?_eq_some_iff.1 ho).1
  have hunf:listed.getD i false=false:=by
   have:i<listed.size:=by omega
   simp only[Array.getD,this,dif_pos] at hun⊢;exact hun
  have hset:∀j,(listed.setIfInBounds i true).getD j false=true→j=i∨listed.getD j false=true:=by
   intro j hj;by_cases hji:j=i
   ·exact .inl hji
   ·rw[getD_set_ne false (Ne.symm hji)] at hj;exact .inr hj
  have hset':∀j,listed.getD j false=true→(listed.setIfInBounds i true).getD j false=true:=by
   intro j hj;by_cases hji:j=i
   ·subst hji;rw[hunf] at hj;cases hj
   ·rw[getD_set_ne false (Ne.symm hji)];exact hj
  have hseti:(listed.setIfInBounds i true).getD i false=true:=by
   have:i<listed.size:=by omega
   simp[Array.getD,this]
  have goTail:∀{a:Act} {w:World},k≤i→(∀j,j<i→listed.getD j false=true)→(∀j,i≤j→listed.getD j false=false)→wpOps P ops Q ((List.range ops.size).drop i) a w→
    wpOp P ops Q i (fun a' w'=>((∀x,k≤x→(listed.setIfInBounds i true).getD x false=false)∧FrOf ops a0 a'∧R (a'.eval (.tmp m)) w'∧(∀j o,ops[j]?=some o→(listed.setIfInBounds i true).getD j false=true→∀e∈o.after,Region.binds .any e=true→(listed.setIfInBounds i true).getD e.on false=true)∧∀j,j<k→(listed.setIfInBounds i true).getD j false=true→ψ j (a'.eval (.tmp (sl.getD j 0))) (a'.eval (.tmp m)) w')∨
     (∃x,k≤x∧x≤ops.size∧(∀j,j<x→(listed.setIfInBounds i true).getD j false=true)∧(∀j,x≤j→(listed.setIfInBounds i true).getD j false=false)∧wpOps P ops Q ((List.range ops.size).drop x) a' w')) a w:=by
   intro a w hki hall1 hno1 hw;rw[znn hil,wpOps_cons] at hw;refine wpOp_mono (fun a' w' h'=>.inr ⟨i+1,by omega,by omega,fun j hj=>?_,fun j hj=>?_,h'⟩) hw
   ·by_cases hji:j=i
    ·subst hji;exact hseti
    ·exact hset' j (hall1 j (by omega))
   ·rw[getD_set_ne false (by omega)];exact hno1 j (by omega)
  rcases hI with⟨hno,hF,hRw,hcl,hp⟩|⟨x,hkx,hxn,hall1,hno1,hw⟩
  ·by_cases hik:i<k
   ·have h:=hstep.get _ _ i o (by rw[List.getElem?_take_of_lt hik];simpa using ho)
    rw[Nat.zero_add] at h;have hall':∀e∈o.after,Region.binds .any e=true→listed.getD e.on false=true:=fun e he hb=>by simpa using hall e he hb
    have hon:∀e∈o.after,Region.binds .any e=true→e.on<k:=by
     intro e he hbn;have h1:=List.all_eq_true.1 hback i (by simpa using hil);simp only[ho,Option.map_some,Option.getD_some] at h1;have h2:=(Array.all_eq_true_iff_forall_mem.1 h1) e he;rw[hbn,Bool.not_true,Bool.false_or] at h2;have:=of_decide_eq_true h2;omega
    refine wpOp_mono ?_ (h a w hF hRw fun e he hb=>hp _ (hon e (by simpa using he) hb) (hall' e (by simpa using he) hb));rintro a' w' ⟨v,rfl,hR',hi',hk⟩;refine .inl ⟨fun y hy=>?_,hF.put ho v,hR',?_,fun j hjs hj=>?_⟩
    ·rw[getD_set_ne false (by omega)];exact hno y hy
    ·intro j oj hoj hj e he hb
     rcases hset j hj with rfl|hj
     ·rw[ho] at hoj;cases hoj;exact hset' _ (hall' e he hb)
     ·exact hset' _ (hcl j oj hoj hj e he hb)
    ·rcases hset j hj with rfl|hj2
     ·exact hi'
     ·have hji:j≠i:=by intro e;subst e;rw[hunf] at hj2;cases hj2
      have h1:=hk j _ hji (hp j hjs hj2)
      have h2:(a.put o.dst v).eval (.tmp (sl.getD j 0))=a.eval (.tmp (sl.getD j 0)):=by
       cases hd:o.dst with
       |none=>rfl
       |some d=>
        refine Act.eval_put_ne _ _ _ _ fun e=>?_;have hjn:j<ops.size:=by omega
        have h3:=List.all_eq_true.1 (List.all_eq_true.1 hap i (by simpa using hil)) j (by simpa using hjn);simp only[ho,Option.bind_some,hd,Bool.or_eq_true] at h3;rcases h3 with h3|h3|h3
        ·exact hji (by simpa using(beq_iff_eq.1 h3).symm)
        ·simp[e] at h3
        ·have hoj:ops[j]?=some ops[j]:=by simp[hjn]
         simp only[hoj,Option.map_some,Option.getD_some] at h3;obtain⟨x,hx,h4⟩:=List.any_eq_true.1 (Array.any_toList.trans h3);simp only[Bool.and_eq_true,beq_iff_eq] at h4;have:=hcl j _ hoj hj2 x (by simpa using hx) h4.1;rw[h4.2,hunf] at this;cases this
      rw[h2];exact h1
   ·have hik2:k≤i:=by omega
    have hlst:∀j,j<i→listed.getD j false=true:=fun j hj=>zhm htail hil hik2 hj hi hcl
    have hie:i=k:=by
     by_cases hx:i=k
     ·exact hx
     ·have h1:=hlst k (by omega)
      rw[hno k (Nat.le_refl _)] at h1;cases h1
    subst hie;exact goTail (Nat.le_refl _) hlst hno (hend a w hF hRw fun j hj=>hp j hj (hlst j hj))
  ·have hix:i=x:=by
    rcases Nat.lt_trichotomy i x with h1|h1|h1
    ·have:=hall1 i h1;rw[hunf] at this;cases this
    ·exact h1
    ·have hcl:∀j o,ops[j]?=some o→listed.getD j false=true→∀e∈o.after,Region.binds .any e=true→listed.getD e.on false=true:=by
      intro j o hoj hj e he hb
      have hjx:j<x:=by
       rcases Nat.lt_or_ge j x with h2|h2
       ·exact h2
       ·rw[hno1 j h2] at hj;cases hj
      have hjn:j<ops.size:=by omega
      have h3:=List.all_eq_true.1 hback j (by simpa using hjn);simp only[hoj,Option.map_some,Option.getD_some] at h3;have h4:=(Array.all_eq_true_iff_forall_mem.1 h3) e he;rw[hb,Bool.not_true,Bool.false_or] at h4;have:=of_decide_eq_true h4;exact hall1 e.on (by omega)
     have:=zhm htail hil (by omega) h1 hi hcl;rw[hno1 x (Nat.le_refl _)] at this;cases this
   subst hix;exact goTail hkx hall1 hno1 hw
 ·rintro listed a w hs hI hr
  have hall:=zi9 hback listed hs hr;rcases hI with⟨hno,hF,hRw,hcl,hp⟩|⟨x,hkx,hxn,hall1,hno1,hw⟩
  ·have hk:k=ops.size:=by
    rcases Nat.lt_or_ge k ops.size with h|h
    ·have:=hall k h;rw[hno k (Nat.le_refl _)] at this;cases this
    ·omega
   have:=hend a w hF hRw fun j hj=>hp j hj (hall j (by omega));rw[hk,List.drop_of_length_le (by simp)] at this;exact this
  ·have hx:x=ops.size:=by
    rcases Nat.lt_or_ge x ops.size with h|h
    ·have:=hall x h;rw[hno1 x (Nat.le_refl _)] at this;cases this
    ·omega
   rw[hx,List.drop_of_length_le (by simp)] at hw;exact hw
 ·simp[zmk,List.countP_replicate]
 ·have hno:∀j,(Array.replicate ops.size false).getD j false=true→False:=by
   intro j hj;rcases Nat.lt_or_ge j ops.size with h|h
   ·simp[Array.getD,h] at hj
   ·simp[Array.getD,Nat.not_lt.2 h] at hj
  refine .inl ⟨fun i _=>?_,⟨rfl,rfl,fun _ _=>rfl⟩,hR,fun j _ _ hj=>(hno j hj).elim,fun j _ hj=>(hno j hj).elim⟩
  cases hx:(Array.replicate ops.size false).getD i false with
  |false=>rfl
  |true=>exact(hno i hx).elim
theorem zap {ops:Array Oper}{a0 a:Act}{n d:Nat}{v:Value}(hF:FrOf ops a0 a)(hn:a0.tmps.size=n)(hd:d<n):(a.put (some d) v).eval (.tmp d)=v:=
 Act.eval_put_same _ _ _ (by rw[hF.size,hn];exact hd)
theorem _root_.Go.Act.eval_func (a:Act)(f:FuncId):a.eval (.func f)=.func (.func f) #[] #[]:=rfl
theorem _root_.Go.Act.eval_const (a:Act)(v:Value):a.eval (.const v)=v:=rfl
theorem zcj (a:Act)(n:Nat)(hs:a.tmps.size=n)(hd:a.defers=[]):a=⟨((List.range n).map fun t=>a.eval (.tmp t)).toArray,[]⟩:=by
 obtain⟨ts,ds⟩:=a;simp only at hs hd;subst hd hs
 congr 1
 refine Array.ext (by simp) fun i h1 h2=>?_;simp[Act.eval,h1]
theorem zax {i:Nat}{o:Oper}{a:Act}{w:World}{K:Act→World→Prop}(v:Value)(hi:ops[i]?=some o)(hg:o.guard=none)
  (hrun:(execOp a.eval o).run P w=.ok (.value v) w) (h:K (a.put o.dst v) w):wpOp P ops Q i K a w:=by
 unfold wpOp;have hw:Region.wanted o (yielded ops a.tmps)=true:=by simp[Region.wanted,hg]
 simp only[hi,hw,if_true,Oper.wp,hrun,Oper.upon];exact .inl h
theorem zfw {i:Nat}{o:Oper}{a:Act}{w w':World}{K:Act→World→Prop}(v:Value)(hi:ops[i]?=some o)(hg:o.guard=none)
  (hrun:(execOp a.eval o).run P w=.ok (.value v) w') (h:K (a.put o.dst v) w'):wpOp P ops Q i K a w:=by
 unfold wpOp;have hw:Region.wanted o (yielded ops a.tmps)=true:=by simp[Region.wanted,hg]
 simp only[hi,hw,if_true,Oper.wp,hrun,Oper.upon];exact .inl h
theorem zco {i:Nat}{o:Oper}{a:Act}{w w':World}{K:Act→World→Prop}(hi:ops[i]?=some o)(hg:o.guard=none)
  (hrun:(execOp a.eval o).run P w=.ok .skip w') (h:K (a.put o.dst undef) w'):wpOp P ops Q i K a w:=by
 unfold wpOp;have hw:Region.wanted o (yielded ops a.tmps)=true:=by simp[Region.wanted,hg]
 simp only[hi,hw,if_true,Oper.wp,hrun,Oper.upon];exact .inl h
theorem zwd {a:Act}{g d:Nat}{b:Bool}(hd:(ops[g]?).bind (·.dst)=some d)(hv:a.eval (.tmp d)=.bool b):yielded ops a.tmps g=some b:=by
 unfold yielded;rw[hd]
 have h2:a.tmps[d]?=some (.bool b):=by
  simp only[Act.eval,Array.getD_eq_getD_getElem?] at hv
  cases h:a.tmps[d]? with
  |none=>rw[h] at hv;simp[undef] at hv
  |some x=>rw[h] at hv;simp at hv;rw[hv]
 simp[h2]
theorem zbn {g d:Nat}{b:Bool}{o:Oper}{a:Act}(hg:o.guard=some (g,b))(hd:(ops[g]?).bind (·.dst)=some d)(hv:a.eval (.tmp d)=.bool b):Region.wanted o (yielded ops a.tmps)=true:=by
 simp[Region.wanted,hg,zwd hd hv]
theorem zfx {i:Nat}{o:Oper}{a:Act}{w:World}{K:Act→World→Prop}(v:Value)(hi:ops[i]?=some o)(hw:Region.wanted o (yielded ops a.tmps)=true)
  (hrun:(execOp a.eval o).run P w=.ok (.value v) w) (h:K (a.put o.dst v) w):wpOp P ops Q i K a w:=by
 unfold wpOp;simp only[hi,hw,if_true,Oper.wp,hrun,Oper.upon];exact .inl h
theorem zno {i:Nat}{o:Oper}{a:Act}{w:World}{K:Act→World→Prop}(f:FuncId)(args:Array Value)(hi:ops[i]?=some o)(hw:Region.wanted o (yielded ops a.tmps)=true)
  (hrun:(execOp a.eval o).run P w=.ok (.enter f args) w) (post:Ending→World→Prop) (hc:Calls P f args w post)
  (h:∀e w',post e w'→∃v,e=.returned v∧K (a.put o.dst v) w'):wpOp P ops Q i K a w:=by
 unfold wpOp;simp only[hi,hw,if_true,Oper.wp,hrun,Oper.upon];refine .inl (hc.mono ?_);intro e w' hp;obtain⟨v,rfl,hk⟩:=h e w' hp;exact hk
theorem z4h {i:Nat}{o:Oper}{a:Act}{w:World}{K:Act→World→Prop}(hi:ops[i]?=some o)(hg:o.guard=none)(h:o.wp P a w K Q):wpOp P ops Q i K a w:=by
 unfold wpOp;have hw:Region.wanted o (yielded ops a.tmps)=true:=by simp[Region.wanted,hg]
 simp only[hi,hw,if_true];exact .inl h
theorem z16 {i:Nat}{o:Oper}{a:Act}{w:World}{K:Act→World→Prop}(t:TypeId)(parts:Array (Nat×Operand))(vals:List (Nat×Value))(cells:Array Value)(hi:ops[i]?=some o)(hg:o.guard=none)(ho:o.op=.build t parts)
  (hv:(parts.map fun(i,x)=>(i,a.eval x)).toList=vals) (hb:P.built t vals=some cells) (h:K (a.put o.dst (.agg cells)) w):wpOp P ops Q i K a w:=by
 refine z4h hi hg (wp_build t parts ho ?_ ?_)
 ·rw[hv,hb];rfl
 ·rw[hv,hb];exact h
theorem zj7 {i:Nat}{o:Oper}{a:Act}{w:World}{K:Act→World→Prop}(ty:TypeId)(x y:Operand)(g:Nat)(cells:Array Value)(hi:ops[i]?=some o)(hgd:o.guard=none)(ho:o.op=.store ty x y)
  (hx:a.eval x=.pointer (some ⟨g,0,none⟩)) (hy:a.eval y=.agg cells) (t:TypeId) (old:Array Value) (hg:w.heap[g]?=some (.cells old t (0,0))) (hn:(P.info? ty).map (·.size)=some cells.size)
  (hold:old.size=cells.size) (h1:cells.all (·.oneCell')=true) (h:K (a.put o.dst undef) (w.setRow g cells)):wpOp P ops Q i K a w:=
 z4h hi hgd (wp_store_row ty x y ho g cells hx hy t old hg hn hold h1 h)
theorem zbu {i:Nat}{o:Oper}{a:Act}{w:World}{K:Act→World→Prop}(f:FuncId)(args:Array Value)(hi:ops[i]?=some o)(hg:o.guard=none)
  (hrun:(execOp a.eval o).run P w=.ok (.enter f args) w) (post:Ending→World→Prop) (hc:Calls P f args w post)
  (h:∀e w',post e w'→∃v,e=.returned v∧K (a.put o.dst v) w'):wpOp P ops Q i K a w:=by
 unfold wpOp;have hw:Region.wanted o (yielded ops a.tmps)=true:=by simp[Region.wanted,hg]
 simp only[hi,hw,if_true,Oper.wp,hrun,Oper.upon];refine .inl (hc.mono ?_);intro e w' hp;obtain⟨v,rfl,hk⟩:=h e w' hp;exact hk
theorem zak {i n d s:Nat}{o:Oper}{a a0:Act}{w:World}{R:World→Prop}{ψ:Nat→Value→World→Prop}{dst:Option Tmp}(v:Value)(hi:ops[i]?=some o)(hg:o.guard=none)
  (hrun:(execOp a.eval o).run P w=.ok (.value v) w) (hF:FrOf ops a0 a) (hn:a0.tmps.size=n) (hR:R w) (h:ψ i v w) (h1:o.dst=some d:=by rfl) (h2:dst=some d:=by rfl) (h3:s=d:=by rfl) (hd:d<n:=by decide):
  wpOp P ops Q i (fun a' w'=>∃v,a'=a.put dst v∧R w'∧ψ i (a'.eval (.tmp s)) w'∧∀j u,j≠i→ψ j u w→ψ j u w') a w:=by
 subst h2 h3;refine zax v hi hg hrun ⟨v,by rw[h1],hR,?_,fun _ _ _ h=>h⟩;rw[h1,zap hF hn hd];exact h
theorem zbw {i n d s m:Nat}{o:Oper}{a a0:Act}{w:World}{R:Value→World→Prop}{ψ:Nat→Value→Value→World→Prop}{dst:Option Tmp}(v:Value)(hi:ops[i]?=some o)(hg:o.guard=none)
  (hrun:(execOp a.eval o).run P w=.ok (.value v) w) (hF:FrOf ops a0 a) (hn:a0.tmps.size=n) (hR:R (a.eval (.tmp m)) w) (h:ψ i v (a.eval (.tmp m)) w) (h1:o.dst=some d:=by rfl) (h2:dst=some d:=by rfl) (h3:s=d:=by rfl) (hd:d<n:=by decide) (hm:d≠m:=by decide):
  wpOp P ops Q i (fun a' w'=>∃v,a'=a.put dst v∧R (a'.eval (.tmp m)) w'∧ψ i (a'.eval (.tmp s)) (a'.eval (.tmp m)) w'∧∀j x,j≠i→ψ j x (a.eval (.tmp m)) w→ψ j x (a'.eval (.tmp m)) w') a w:=by
 subst h2 h3;refine zax v hi hg hrun ⟨v,by rw[h1],?_,?_,fun j x _ h=>?_⟩
 ·rw[h1,Act.eval_put_ne _ _ _ _ hm]
  exact hR
 ·rw[h1,zap hF hn hd,Act.eval_put_ne _ _ _ _ hm]
  exact h
 ·rw[h1,Act.eval_put_ne _ _ _ _ hm]
  exact h
theorem zf6 {i n d s:Nat}{o:Oper}{a a0:Act}{w:World}{R:World→Prop}{ψ:Nat→Value→World→Prop}{dst:Option Tmp}(v:Value)(hi:ops[i]?=some o)(hw:Region.wanted o (yielded ops a.tmps)=true)
  (hrun:(execOp a.eval o).run P w=.ok (.value v) w) (hF:FrOf ops a0 a) (hn:a0.tmps.size=n) (hR:R w) (h:ψ i v w) (h1:o.dst=some d:=by rfl) (h2:dst=some d:=by rfl) (h3:s=d:=by rfl) (hd:d<n:=by decide):
  wpOp P ops Q i (fun a' w'=>∃v,a'=a.put dst v∧R w'∧ψ i (a'.eval (.tmp s)) w'∧∀j u,j≠i→ψ j u w→ψ j u w') a w:=by
 subst h2 h3;refine zfx v hi hw hrun ⟨v,by rw[h1],hR,?_,fun _ _ _ h=>h⟩;rw[h1,zap hF hn hd];exact h
end
section
variable {P:Program} {ops:Array Oper} {Q:Exit→Act→World→Prop}
def z4t (P:Program)(ops:Array Oper)(Q:Exit→Act→World→Prop)(a0:Act)(m:Nat)(R:Bool→World→Prop)(sl:List Tmp)(ψ:Nat→Value→World→Prop)(i:Nat)(o:Oper):Prop:=
 ∀b a w,(i=m→b=false)→((ancOf ops 8 (waitsFor ops i)).contains m=true→b=true)→FrOf ops a0 a→R b w→(∀e∈o.after.toList,Region.binds .any e=true→ψ e.on (a.eval (.tmp (sl.getD e.on 0))) w)→
  wpOp P ops Q i (fun a' w'=>∃v,a'=a.put o.dst v∧R (b||i==m) w'∧ψ i (a'.eval (.tmp (sl.getD i 0))) w'∧∀j u,j≠i→ψ j u w→ψ j u w') a w
theorem zmo {id:Nat}{a0:Act}{w0:World}(m:Nat)(hmn:m<ops.size)(R:Bool→World→Prop)(sl:List Tmp)(ψ:Nat→Value→World→Prop)(hm:P.follows .mixedOrders=true)(hap:zhl ops sl=true)
  (hback:(List.range ops.size).all (fun i=>((ops[i]?).map (·.after.all fun e=> !Region.binds .any e||decide (e.on<i))).getD true)=true)
  (hR:R false {w0 with drawn:=w0.drawn+1}) (hstep:AllOps (z4t P ops Q a0 m R sl ψ) 0 ops.toList)
  (hend:∀a w,FrOf ops a0 a→R true w→(∀j,j<ops.size→ψ j (a.eval (.tmp (sl.getD j 0))) w)→Q .normal a w):
  (Code.region id ops true).wp P Q a0 w0:=by
 refine wp_region_any hm (zi8 (fun listed a w=>FrOf ops a0 a∧R (listed.getD m false) w∧(∀j o,ops[j]?=some o→listed.getD j false=true→∀e∈o.after,Region.binds .any e=true→listed.getD e.on false=true)∧∀j,j<ops.size→listed.getD j false=true→ψ j (a.eval (.tmp (sl.getD j 0))) w) ?_ ?_ _ _ _ _ (by simp) ?_ ?_)
 ·rintro listed a w i hs ⟨hF,hRw,hcl,hp⟩ hi
  obtain⟨hun,o,ho,hall⟩:=mem_ready.1 hi;have hil:i<ops.size:=(Array.getElem?_eq_some_iff.1 ho).1
  have hunf:listed.getD i false=false:=by
   have:i<listed.size:=by omega
   simp only[Array.getD,this,dif_pos] at hun⊢;exact hun
  have h:=hstep.get _ _ i o (by simpa using ho);rw[Nat.zero_add] at h;have hall':∀e∈o.after,Region.binds .any e=true→listed.getD e.on false=true:=fun e he hb=>by simpa using hall e he hb
  have hon:∀e∈o.after,Region.binds .any e=true→e.on<ops.size:=by
   intro e he hbn;have h1:=List.all_eq_true.1 hback i (by simpa using hil);simp only[ho,Option.map_some,Option.getD_some] at h1;have h2:=(Array.all_eq_true_iff_forall_mem.1 h1) e he;rw[hbn,Bool.not_true,Bool.false_or] at h2;have:=of_decide_eq_true h2;omega
  have hwt:∀x∈waitsFor ops i,listed.getD x false=true:=by
   intro x hx;unfold waitsFor at hx;rw[ho] at hx;simp only[Option.map_some,Option.getD_some] at hx;obtain⟨e,he,rfl⟩:=List.mem_map.1 hx;obtain⟨h3,h4⟩:=List.mem_filter.1 he;exact hall' e (by simpa using h3) h4
  refine wpOp_mono ?_ (h (listed.getD m false) a w (fun e=>by rw[←e];exact hunf) (fun hc=>znm hcl 8 (waitsFor ops i) hwt m (by simpa using hc)) hF hRw fun e he hb=>hp _ (hon e (by simpa using he) hb) (hall' e (by simpa using he) hb));rintro a' w' ⟨v,rfl,hR',hi',hk⟩
  have hset:∀j,(listed.setIfInBounds i true).getD j false=true→j=i∨listed.getD j false=true:=by
   intro j hj;by_cases hji:j=i
   ·exact .inl hji
   ·rw[getD_set_ne false (Ne.symm hji)] at hj;exact .inr hj
  have hset':∀j,listed.getD j false=true→(listed.setIfInBounds i true).getD j false=true:=by
   intro j hj;by_cases hji:j=i
   ·subst hji;rw[hunf] at hj;cases hj
   ·rw[getD_set_ne false (Ne.symm hji)];exact hj
  have hRm:R ((listed.setIfInBounds i true).getD m false) w':=by
   by_cases him:i=m
   ·subst him
    have e:(listed.setIfInBounds i true).getD i false=true:=by
     have:i<listed.size:=by omega
     simp[Array.getD,this]
    rw[e]
    simpa using hR'
   ·rw[getD_set_ne false him]
    have e:(i==m)=false:=by simpa using him
    simpa[e] using hR'
  refine⟨hF.put ho v,hRm,?_,fun j hjs hj=>?_⟩
  ·intro j oj hoj hj e he hb
   rcases hset j hj with rfl|hj
   ·rw[ho] at hoj;cases hoj;exact hset' _ (hall' e he hb)
   ·exact hset' _ (hcl j oj hoj hj e he hb)
  ·rcases hset j hj with rfl|hj2
   ·exact hi'
   ·clear hj
    have hj:=hj2;have hji:j≠i:=by intro e;subst e;rw[hunf] at hj;cases hj
    have h1:=hk j _ hji (hp j hjs hj)
    have h2:(a.put o.dst v).eval (.tmp (sl.getD j 0))=a.eval (.tmp (sl.getD j 0)):=by
     cases hd:o.dst with
     |none=>rfl
     |some d=>
      refine Act.eval_put_ne _ _ _ _ fun e=>?_;have h3:=List.all_eq_true.1 (List.all_eq_true.1 hap i (by simpa using hil)) j (by simpa using hjs);simp only[ho,Option.bind_some,hd,Bool.or_eq_true] at h3;rcases h3 with h3|h3|h3
      ·exact hji (by simpa using(beq_iff_eq.1 h3).symm)
      ·simp[e] at h3
      ·have hoj:ops[j]?=some ops[j]:=by simp[hjs]
       simp only[hoj,Option.map_some,Option.getD_some] at h3;obtain⟨x,hx,h4⟩:=List.any_eq_true.1 (Array.any_toList.trans h3);simp only[Bool.and_eq_true,beq_iff_eq] at h4;have:=hcl j _ hoj hj x (by simpa using hx) h4.1;rw[h4.2,hunf] at this;cases this
    rw[h2];exact h1
 ·rintro listed a w hs ⟨hF,hRw,hcl,hp⟩ hr
  exact hend a w hF (by rw[zi9 hback listed hs hr m hmn] at hRw;exact hRw) fun j hj=>hp j hj (zi9 hback listed hs hr j hj)
 ·simp[zmk,List.countP_replicate]
 ·have hno:∀j,(Array.replicate ops.size false).getD j false=true→False:=by
   intro j hj;rcases Nat.lt_or_ge j ops.size with h|h
   ·simp[Array.getD,h] at hj
   ·simp[Array.getD,Nat.not_lt.2 h] at hj
  have e:(Array.replicate ops.size false).getD m false=false:=by simp[Array.getD,hmn]
  refine⟨⟨rfl,rfl,fun _ _=>rfl⟩,?_,fun j _ _ hj=>(hno j hj).elim,fun j _ hj=>(hno j hj).elim⟩;rw[e];exact hR
end
end Go.Proofs.YtjnpndfpajjihacGreat

