/-
  
-/
import Derived.RangeFuncNested
import Derived.RangeFuncBound
import Derived.RangeFuncCalls
import Derived.RangeFuncLeaves
import Derived.Shelf.Abstract
import Derived.Shelf.RegionOpen
import Derived.OwnWalkIn
import Derived.TacticsInMore
import Derived.LoopNIn
import Derived.LoopIn
import Derived.Test.YtjnpndfpajjihacGreatGrTopOrdered0
namespace Go.Proofs.YtjnpndfpajjihacGreat
open Go.RowKit
def zi7 (F:Fence)(n:Nat)(P:Program)(g:Nat)(lb:Array Value)(vals:Nat→Array Value)(N:Nat)(Kp:World→World→Prop)(w:World):Prop:=
 ∀(l:Nat) (J:Nat→World→Prop) (W:World),Below w.heap.size w W→(∀k V,J k V→J k V.drew)→
  (∀k V,k<N→J k V→YieldAt F (n - 1) P l (vals k) V fun e V'=>e=.returned (.bool true)∧J (k+1) V'∧Kp V V')→
  J 0 W→CallsIn F n P g (#[.func (.yield l) #[] #[]]++lb) W fun e W'=>(∃v,e=.returned v)∧J N W'
section
variable {F:Fence} {n:Nat} {P:Program}
def z5g (Kp:World→World→Prop)(I:World→Prop)(W:World):Exit→Act→World→Prop
 |.normal,_,W'=>KeepsOthers W W'∧Kp W W'∧I W'
 |_,_,_=>False
theorem zi8{g:Operand}{ps:Array Tmp}{assign body:Code}{Q:Exit→Act→World→Prop}{a:Act}{w w0:World}{gf:Nat}{lb:Array Value}{vals:Nat→Array Value}{N:Nat}{Kp:World→World→Prop}
  (hro:F.round=none) (h1:1≤n) (hg:a.eval g=.func (.func gf) #[] lb) (hF:F.fn gf) (eg:∀args w,(callFunc gf args).run P w=.ok (.enter gf args) w)
  (hc:zi7 F (n - 1) P gf lb vals N Kp w0) (hb0:Below w0.heap.size w0 w) (hKt:∀A B C:World,Kp A B→Kp B C→Kp A C)
  (hKb:∀(W:World) (r:Nat) (o o':Obj),W.heap[r]?=some o→o.isCells=false→Kp W (W.putObj r o')) (hps:∀k,(vals k).size=ps.size)
  (I:Nat→World→Prop) (hI:∀k (A B:World) (row:Option Nat),I k A→A.grownBy B row→(∀r,row=some r→w.heap.size≤r∧∃o:Obj,A.heap[r]?=some o∧o.isCells=false)→I k B) (hd:∀k V,I k V→I k V.drew) (h0:I 0 w) (a₁:Nat→Act)
  (hassign:∀(l k:Nat) (W:World) (K:Act→World→Prop),K (a₁ k) W→
   assign.wpIn (F.inRound l) (n - 1 - 1) P (Exit.then K (fun _ _ _=>False)) {tmps:=(ps.zip (vals k)).foldl (fun t (p,v)=>t.setIfInBounds p v) a.tmps,defers:=[]} W)
  (hbody:∀(l k:Nat) (W:World),k<N→I k W→body.wpIn (F.inRound l) (n - 1 - 1) P (z5g Kp (I (k+1)) W) (a₁ k) W)
  (hdone:∀(D:Nat) (W:World),w.heap.size≤D→I N W→W.heap[D]?=some (.deferred (some []))→Q .normal {a with defers:={target:=.collected D,args:=#[]}::a.defers} W):
  (Code.rangeFunc g ps assign body).wpIn F n P Q a w:=by
 refine wpIn_rangeFunc fun fn hfn=>?_;rw[hro];obtain⟨L,E⟩:∃L:LoopState→Loop,L=fun st=>{state:=st,pending:=none,fn,tmps:=a.tmps,params:=ps,assign,body,defers:=w.heap.size}:=⟨_,rfl⟩;obtain⟨V,M⟩:∃V,V=(w.alloc (.deferred (some []))).alloc (.loop (L .ready)):=⟨_,rfl⟩;have hz:V.heap.size=w.heap.size+1+1:=by rw[M];simp
 have c:Below w.heap.size w V:=by rw[M];exact((Below.refl _ _).alloc (Nat.le_refl _) _).alloc (by simp) _
 have x:V.heap[w.heap.size+1]?=some (.loop (L .ready)):=by
  rw[M];have:=World.alloc_heap_new (w.alloc (.deferred (some []))) (.loop (L .ready));rwa [World.size_alloc]at this
 have s:V.heap[w.heap.size]?=some (.deferred (some [])):=by
  rw[M];exact(Below.heap_alloc _ _ _ (by simp)).trans (World.alloc_heap_new w _)
 have q:I 0 V:=by
  rw[M];exact hI 0 _ _ none (hI 0 _ _ none h0 (World.grownBy_alloc _ _ none) (fun r e=>by cases e)) (World.grownBy_alloc _ _ none) (fun r e=>by cases e)
 have put:∀k A st,I k A→A.heap[w.heap.size+1]?=some (.loop (L st))→∀o',I k (A.putObj (w.heap.size+1) o'):=fun k A st R hA o'=>
  hI k _ _ _ R (grownBy_putObj' A (w.heap.size+1) o') (fun r e=>by cases e;exact⟨by omega,_,hA,rfl⟩)
 refine⟨w.heap.size+1,[{target:=.collected w.heap.size,args:=#[]}],V,{target:=.fn (.func gf) lb,args:=#[.func (.yield (w.heap.size+1)) #[] #[]]},V,gf,#[.func (.yield (w.heap.size+1)) #[] #[]]++lb,V,?_,?_,?_,?_,fun _=>h1,?_⟩
 ·rw[M,E];exact run_enterLoop_outer _ _ _ _ _
 ·simp only[resolve,hg];simp[go_sem]
 ·intro f' Y;simp[Target.leads]at Y;subst Y;exact hF
 ·simp[invoke,go_sem,eg]
 ·refine(hc (w.heap.size+1) (fun k W=>I k W∧W.heap[w.heap.size+1]?=some (.loop (L .ready))∧W.heap[w.heap.size]?=some (.deferred (some []))) V (hb0.trans (c.mono hb0.size)) (fun k W h=>⟨hd k W h.1,h.2.1,h.2.2⟩) ?_ ⟨q,x,s⟩).mono ?_
  ·rintro k W m ⟨R,J,j⟩;have i:=(Array.getElem?_eq_some_iff.1 J).1;have Z:=run_yield (P:=P) (args:=vals k) J (by rw[E];exact hps k);rw[E]at Z;refine⟨fn,_,assign,body,Z,roundIn_of_wpIn hfn (hassign _ k W _ ⟨_,run_beginRound J (by rw[E]),?_⟩)⟩;have e2:(W.putObj (w.heap.size+1) (.loop {L .ready with state:=.busy})).heap[w.heap.size+1]?=some (.loop (L .busy)):=by rw[E];exact World.putObj_heap_same i
   have k2:(W.putObj (w.heap.size+1) (.loop {L .ready with state:=.busy})).heap[w.heap.size]?=some (.deferred (some [])):=(World.putObj_heap_other (by omega)).trans j;refine wpIn_mono (hbody _ k _ m (put k W _ R J _)) ?_;rintro e a3 W3 O
   cases e with
   |normal=>
    obtain⟨d,u,q3⟩:=O;have U:=d.same _ _ e2 rfl;have z:=d.same _ _ k2 rfl;have S:=run_endRound (P:=P) none U;refine⟨_,_,S,rfl,⟨put (k+1) W3 _ q3 U _,?_,(World.putObj_heap_other (by omega)).trans z⟩,hKt _ _ _ (hKt _ _ _ (hKb _ _ _ _ J rfl) u) (hKb _ _ _ _ U rfl)⟩;rw[World.putObj_heap_same (Array.getElem?_eq_some_iff.1 U).1,E];rfl
   |ret=>exact O.elim
   |exit id=>exact O.elim
   |goto t=>exact O.elim
   |panic ch=>exact O.elim
   |outgrown=>exact O.elim
  ·rintro e y ⟨⟨v,rfl⟩,R,X,b⟩;have S:=run_endLoop (P:=P) X (by rw[E];simp);exact⟨none,_,by rw[E]at S;exact S,hdone _ _ (Nat.le_refl _) (put N y _ R X _) ((World.putObj_heap_other (by omega)).trans b)⟩
end
section
variable {F:Fence} {n:Nat} {P:Program}
def z4d (base:Nat)(Kp:World→World→Prop)(I:World→Prop)(W:World):Exit→Act→World→Prop
 |.normal,_,W'=>(W'.heap[base]?=W.heap[base]?∧W'.heap[base+1]?=W.heap[base+1]?)∧Kp W W'∧I W'
 |_,_,_=>False
theorem zwj{g:Operand}{ps:Array Tmp}{assign body:Code}{Q:Exit→Act→World→Prop}{a:Act}{w w0:World}{gf:Nat}{lb:Array Value}{vals:Nat→Array Value}{N:Nat}{Kp:World→World→Prop}
  (hro:F.round=none) (h1:1≤n) (hg:a.eval g=.func (.func gf) #[] lb) (hF:F.fn gf) (eg:∀args w,(callFunc gf args).run P w=.ok (.enter gf args) w)
  (hc:zi7 F (n - 1) P gf lb vals N Kp w0) (hb0:Below w0.heap.size w0 w) (hKt:∀A B C:World,Kp A B→Kp B C→Kp A C)
  (hKb:∀(W:World) (r:Nat) (o o':Obj),W.heap[r]?=some o→o.isCells=false→Kp W (W.putObj r o')) (hps:∀k,(vals k).size=ps.size)
  (I:Nat→World→Prop) (hI:∀k (A B:World) (row:Option Nat),I k A→A.grownBy B row→(∀r,row=some r→w.heap.size≤r∧∃o:Obj,A.heap[r]?=some o∧o.isCells=false)→I k B) (hd:∀k V,I k V→I k V.drew) (h0:I 0 w) (J:Nat→Act→World→Prop)
  (hJ:∀k a' (A B:World) (row:Option Nat),J k a' A→A.grownBy B row→(∀r,row=some r→w.heap.size≤r∧∃o:Obj,A.heap[r]?=some o∧o.isCells=false)→J k a' B)
  (hassign:∀(l k:Nat) (W:World) (K:Act→World→Prop),k<N→I k W→w.heap.size+1<W.heap.size→(∀a' V,V.heap[w.heap.size]?=W.heap[w.heap.size]?→V.heap[w.heap.size+1]?=W.heap[w.heap.size+1]?→Kp W V→J k a' V→K a' V)→
   assign.wpIn (F.inRound l) (n - 1 - 1) P (Exit.then K (fun _ _ _=>False)) {tmps:=(ps.zip (vals k)).foldl (fun t (p,v)=>t.setIfInBounds p v) a.tmps,defers:=[]} W)
  (hbody:∀(l k:Nat) (a':Act) (W:World),k<N→J k a' W→w.heap.size+1<W.heap.size→body.wpIn (F.inRound l) (n - 1 - 1) P (z4d w.heap.size Kp (I (k+1)) W) a' W)
  (hdone:∀(D:Nat) (W:World),w.heap.size≤D→I N W→W.heap[D]?=some (.deferred (some []))→Q .normal {a with defers:={target:=.collected D,args:=#[]}::a.defers} W):
  (Code.rangeFunc g ps assign body).wpIn F n P Q a w:=by
 refine wpIn_rangeFunc fun fn hfn=>?_;rw[hro];obtain⟨L,E⟩:∃L:LoopState→Loop,L=fun st=>{state:=st,pending:=none,fn,tmps:=a.tmps,params:=ps,assign,body,defers:=w.heap.size}:=⟨_,rfl⟩;obtain⟨V,O⟩:∃V,V=(w.alloc (.deferred (some []))).alloc (.loop (L .ready)):=⟨_,rfl⟩;have hz:V.heap.size=w.heap.size+1+1:=by rw[O];simp
 have j:Below w.heap.size w V:=by rw[O];exact((Below.refl _ _).alloc (Nat.le_refl _) _).alloc (by simp) _
 have hl:V.heap[w.heap.size+1]?=some (.loop (L .ready)):=by
  rw[O];have:=World.alloc_heap_new (w.alloc (.deferred (some []))) (.loop (L .ready));rwa [World.size_alloc]at this
 have z:V.heap[w.heap.size]?=some (.deferred (some [])):=by
  rw[O];exact(Below.heap_alloc _ _ _ (by simp)).trans (World.alloc_heap_new w _)
 have x:I 0 V:=by
  rw[O];exact hI 0 _ _ none (hI 0 _ _ none h0 (World.grownBy_alloc _ _ none) (fun r e=>by cases e)) (World.grownBy_alloc _ _ none) (fun r e=>by cases e)
 have put:∀k A st,I k A→A.heap[w.heap.size+1]?=some (.loop (L st))→∀o',I k (A.putObj (w.heap.size+1) o'):=fun k A st U hA o'=>
  hI k _ _ _ U (grownBy_putObj' A (w.heap.size+1) o') (fun r e=>by cases e;exact⟨by omega,_,hA,rfl⟩)
 refine⟨w.heap.size+1,[{target:=.collected w.heap.size,args:=#[]}],V,{target:=.fn (.func gf) lb,args:=#[.func (.yield (w.heap.size+1)) #[] #[]]},V,gf,#[.func (.yield (w.heap.size+1)) #[] #[]]++lb,V,?_,?_,?_,?_,fun _=>h1,?_⟩
 ·rw[O,E];exact run_enterLoop_outer _ _ _ _ _
 ·simp only[resolve,hg];simp[go_sem]
 ·intro f' c;simp[Target.leads]at c;subst c;exact hF
 ·simp[invoke,go_sem,eg]
 ·refine(hc (w.heap.size+1) (fun k W=>I k W∧W.heap[w.heap.size+1]?=some (.loop (L .ready))∧W.heap[w.heap.size]?=some (.deferred (some []))) V (hb0.trans (j.mono hb0.size)) (fun k W h=>⟨hd k W h.1,h.2.1,h.2.2⟩) ?_ ⟨x,hl,z⟩).mono ?_
  ·rintro k W b ⟨U,S,u⟩;have d:=run_yield (P:=P) (args:=vals k) S (by rw[E];exact hps k);rw[E]at d;refine⟨fn,_,assign,body,d,roundIn_of_wpIn hfn (hassign _ k W _ b U (Array.getElem?_eq_some_iff.1 S).1 fun a' V v1 v2 hKV hj=>?_)⟩;have M:V.heap[w.heap.size+1]?=some (.loop (L .ready)):=v2.trans S;have m:V.heap[w.heap.size]?=some (.deferred (some [])):=v1.trans u;have s:=(Array.getElem?_eq_some_iff.1 M).1;refine⟨_,run_beginRound M (by rw[E]),?_⟩;have y:(V.putObj (w.heap.size+1) (.loop {L .ready with state:=.busy})).heap[w.heap.size+1]?=some (.loop (L .busy)):=by rw[E];exact World.putObj_heap_same s
   have k2:(V.putObj (w.heap.size+1) (.loop {L .ready with state:=.busy})).heap[w.heap.size]?=some (.deferred (some [])):=(World.putObj_heap_other (by omega)).trans m;refine wpIn_mono (hbody _ k a' _ b (hJ k a' _ _ _ hj (grownBy_putObj' V (w.heap.size+1) _) (fun r e=>by cases e;exact⟨by omega,_,M,rfl⟩)) (Array.getElem?_eq_some_iff.1 y).1) ?_;rintro e a3 W3 R
   cases e with
   |normal=>
    obtain⟨q,q2,q3⟩:=R;have Y:=q.2.trans y;have k3:=q.1.trans k2;have X:=run_endRound (P:=P) none Y;refine⟨_,_,X,rfl,⟨put (k+1) W3 _ q3 Y _,?_,(World.putObj_heap_other (by omega)).trans k3⟩,hKt _ _ _ (hKt _ _ _ hKV (hKt _ _ _ (hKb _ _ _ _ M rfl) q2)) (hKb _ _ _ _ Y rfl)⟩;rw[World.putObj_heap_same (Array.getElem?_eq_some_iff.1 Y).1,E];rfl
   |ret=>exact R.elim
   |exit id=>exact R.elim
   |goto t=>exact R.elim
   |panic ch=>exact R.elim
   |outgrown=>exact R.elim
  ·rintro e W2 ⟨⟨v,rfl⟩,U,Z,i⟩;have X:=run_endLoop (P:=P) Z (by rw[E];simp);exact⟨none,_,by rw[E]at X;exact X,hdone _ _ (Nat.le_refl _) (put N W2 _ U Z _) ((World.putObj_heap_other (by omega)).trans i)⟩
end
def zvg (F:Fence)(n:Nat)(P:Program)(g:Nat)(lb:Array Value)(vals:Nat→Array Value)(N:Nat)(Kp:World→World→Prop)(w:World):Prop:=
 ∀(l:Nat) (J:Nat→World→Prop) (S:World→Prop) (W:World),Below w.heap.size w W→
  (∀k V,k<N→J k V→YieldAt F (n - 1) P l (vals k) V fun e V'=>Kp V V'∧((e=.returned (.bool true)∧J (k+1) V')∨(e=.returned (.bool false)∧S V')))→
  J 0 W→CallsIn F n P g (#[.func (.yield l) #[] #[]]++lb) W fun e W'=>(∃v,e=.returned v)∧(J N W'∨S W')
section
variable {F:Fence} {n:Nat} {P:Program}
def zrr (base:Nat)(Kp:World→World→Prop)(I:World→Prop)(S:Code→World→Prop)(W:World):Exit→Act→World→Prop
 |.normal,_,W'=>(W'.heap[base]?=W.heap[base]?∧W'.heap[base+1]?=W.heap[base+1]?)∧Kp W W'∧I W'
 |.ret,_,W'=>(W'.heap[base]?=W.heap[base]?∧W'.heap[base+1]?=W.heap[base+1]?)∧Kp W W'∧S .ret W'
 |.exit id,_,W'=>(W'.heap[base]?=W.heap[base]?∧W'.heap[base+1]?=W.heap[base+1]?)∧Kp W W'∧S (.exit id) W'
 |_,_,_=>False
theorem zrs{g:Operand}{ps:Array Tmp}{assign body:Code}{Q:Exit→Act→World→Prop}{a:Act}{w w0:World}{gf:Nat}{lb:Array Value}{vals:Nat→Array Value}{N:Nat}{Kp:World→World→Prop}
  (hro:F.round=none) (h1:1≤n) (hg:a.eval g=.func (.func gf) #[] lb) (hF:F.fn gf) (eg:∀args w,(callFunc gf args).run P w=.ok (.enter gf args) w)
  (hc:zvg F (n - 1) P gf lb vals N Kp w0) (hb0:Below w0.heap.size w0 w) (hKt:∀A B C:World,Kp A B→Kp B C→Kp A C)
  (hKb:∀(W:World) (r:Nat) (o o':Obj),W.heap[r]?=some o→o.isCells=false→Kp W (W.putObj r o')) (hps:∀k,(vals k).size=ps.size)
  (I:Nat→World→Prop) (hI:∀k (A B:World) (row:Option Nat),I k A→A.grownBy B row→(∀r,row=some r→w.heap.size≤r∧∃o:Obj,A.heap[r]?=some o∧o.isCells=false)→I k B) (h0:I 0 w)
  (S:Code→World→Prop) (hS:∀c (A B:World) (row:Option Nat),S c A→A.grownBy B row→(∀r,row=some r→w.heap.size≤r∧∃o:Obj,A.heap[r]?=some o∧o.isCells=false)→S c B) (J:Nat→Act→World→Prop)
  (hJ:∀k a' (A B:World) (row:Option Nat),J k a' A→A.grownBy B row→(∀r,row=some r→w.heap.size≤r∧∃o:Obj,A.heap[r]?=some o∧o.isCells=false)→J k a' B)
  (hassign:∀(l k:Nat) (W:World) (K:Act→World→Prop),k<N→I k W→w.heap.size+1<W.heap.size→(∀a' V,V.heap[w.heap.size]?=W.heap[w.heap.size]?→V.heap[w.heap.size+1]?=W.heap[w.heap.size+1]?→Kp W V→J k a' V→K a' V)→
   assign.wpIn (F.inRound l) (n - 1 - 1) P (Exit.then K (fun _ _ _=>False)) {tmps:=(ps.zip (vals k)).foldl (fun t (p,v)=>t.setIfInBounds p v) a.tmps,defers:=[]} W)
  (hbody:∀(l k:Nat) (a':Act) (W:World),k<N→J k a' W→w.heap.size+1<W.heap.size→body.wpIn (F.inRound l) (n - 1 - 1) P (zrr w.heap.size Kp (I (k+1)) S W) a' W)
  (hdone:∀(D:Nat) (W:World),w.heap.size≤D→I N W→W.heap[D]?=some (.deferred (some []))→Q .normal {a with defers:={target:=.collected D,args:=#[]}::a.defers} W)
  (hout:∀(c:Code) (D:Nat) (W:World),w.heap.size≤D→S c W→W.heap[D]?=some (.deferred (some []))→c.wpIn F n P Q {a with defers:={target:=.collected D,args:=#[]}::a.defers} W):
  (Code.rangeFunc g ps assign body).wpIn F n P Q a w:=by
 refine wpIn_rangeFunc fun fn hfn=>?_;rw[hro];obtain⟨L,M⟩:∃L:LoopState→Option Code→Loop,L=fun st c=>{state:=st,pending:=c,fn,tmps:=a.tmps,params:=ps,assign,body,defers:=w.heap.size}:=⟨_,rfl⟩;obtain⟨V,Z⟩:∃V,V=(w.alloc (.deferred (some []))).alloc (.loop (L .ready none)):=⟨_,rfl⟩;have hz:V.heap.size=w.heap.size+1+1:=by rw[Z];simp
 have A0:Below w.heap.size w V:=by rw[Z];exact((Below.refl _ _).alloc (Nat.le_refl _) _).alloc (by simp) _
 have hl:V.heap[w.heap.size+1]?=some (.loop (L .ready none)):=by
  rw[Z];have:=World.alloc_heap_new (w.alloc (.deferred (some []))) (.loop (L .ready none));rwa [World.size_alloc]at this
 have hk:V.heap[w.heap.size]?=some (.deferred (some [])):=by
  rw[Z];exact(Below.heap_alloc _ _ _ (by simp)).trans (World.alloc_heap_new w _)
 have A4:I 0 V:=by
  rw[Z];exact hI 0 _ _ none (hI 0 _ _ none h0 (World.grownBy_alloc _ _ none) (fun r e=>by cases e)) (World.grownBy_alloc _ _ none) (fun r e=>by cases e)
 have put:∀k A st p,I k A→A.heap[w.heap.size+1]?=some (.loop (L st p))→∀o',I k (A.putObj (w.heap.size+1) o'):=fun k A st p U hA o'=>
  hI k _ _ _ U (grownBy_putObj' A (w.heap.size+1) o') (fun r e=>by cases e;exact⟨by omega,_,hA,rfl⟩)
 have putS:∀c A st p,S c A→A.heap[w.heap.size+1]?=some (.loop (L st p))→∀o',S c (A.putObj (w.heap.size+1) o'):=fun c A st p U hA o'=>
  hS c _ _ _ U (grownBy_putObj' A (w.heap.size+1) o') (fun r e=>by cases e;exact⟨by omega,_,hA,rfl⟩)
 refine⟨w.heap.size+1,[{target:=.collected w.heap.size,args:=#[]}],V,{target:=.fn (.func gf) lb,args:=#[.func (.yield (w.heap.size+1)) #[] #[]]},V,gf,#[.func (.yield (w.heap.size+1)) #[] #[]]++lb,V,?_,?_,?_,?_,fun _=>h1,?_⟩
 ·rw[Z,M];exact run_enterLoop_outer _ _ _ _ _
 ·simp only[resolve,hg];simp[go_sem]
 ·intro f' u;simp[Target.leads]at u;subst u;exact hF
 ·simp[invoke,go_sem,eg]
 ·refine(hc (w.heap.size+1) (fun k W=>I k W∧W.heap[w.heap.size+1]?=some (.loop (L .ready none))∧W.heap[w.heap.size]?=some (.deferred (some []))) (fun W=>∃c,S c W∧W.heap[w.heap.size+1]?=some (.loop (L .done (some c)))∧W.heap[w.heap.size]?=some (.deferred (some []))) V (hb0.trans (A0.mono hb0.size)) ?_ ⟨A4,hl,hk⟩).mono ?_
  ·rintro k W s ⟨U,i,A3⟩;have z:=run_yield (P:=P) (args:=vals k) i (by rw[M];exact hps k);rw[M]at z;refine⟨fn,_,assign,body,z,roundIn_of_wpIn hfn (hassign _ k W _ s U (Array.getElem?_eq_some_iff.1 i).1 fun a' V v1 v2 hKV hj=>?_)⟩;have R:V.heap[w.heap.size+1]?=some (.loop (L .ready none)):=v2.trans i;have A1:V.heap[w.heap.size]?=some (.deferred (some [])):=v1.trans A3;have A2:=(Array.getElem?_eq_some_iff.1 R).1;refine⟨_,run_beginRound R (by rw[M]),?_⟩;have q:(V.putObj (w.heap.size+1) (.loop {L .ready none with state:=.busy})).heap[w.heap.size+1]?=some (.loop (L .busy none)):=by rw[M];exact World.putObj_heap_same A2
   have x:(V.putObj (w.heap.size+1) (.loop {L .ready none with state:=.busy})).heap[w.heap.size]?=some (.deferred (some [])):=(World.putObj_heap_other (by omega)).trans A1;refine wpIn_mono (hbody _ k a' _ s (hJ k a' _ _ _ hj (grownBy_putObj' V (w.heap.size+1) _) (fun r e=>by cases e;exact⟨by omega,_,R,rfl⟩)) (Array.getElem?_eq_some_iff.1 q).1) ?_;rintro e a3 y b
   cases e with
   |normal=>
    obtain⟨Y,d,m⟩:=b;have E:=Y.2.trans q;have j:=Y.1.trans x;have O:=run_endRound (P:=P) none E;refine⟨_,_,O,hKt _ _ _ hKV (hKt _ _ _ (hKt _ _ _ (hKb _ _ _ _ R rfl) d) (hKb _ _ _ _ E rfl)),.inl ⟨rfl,put (k+1) y _ _ m E _,?_,(World.putObj_heap_other (by omega)).trans j⟩⟩;rw[World.putObj_heap_same (Array.getElem?_eq_some_iff.1 E).1,M];rfl
   |ret=>
    obtain⟨Y,d,m⟩:=b;have E:=Y.2.trans q;have j:=Y.1.trans x;have O:=run_endRound (P:=P) (some .ret) E;refine⟨_,_,O,hKt _ _ _ hKV (hKt _ _ _ (hKt _ _ _ (hKb _ _ _ _ R rfl) d) (hKb _ _ _ _ E rfl)),.inr ⟨rfl,.ret,putS _ y _ _ m E _,?_,(World.putObj_heap_other (by omega)).trans j⟩⟩;rw[World.putObj_heap_same (Array.getElem?_eq_some_iff.1 E).1,M];rfl
   |exit id=>
    obtain⟨Y,d,m⟩:=b;have E:=Y.2.trans q;have j:=Y.1.trans x;have O:=run_endRound (P:=P) (some (.exit id)) E;refine⟨_,_,O,hKt _ _ _ hKV (hKt _ _ _ (hKt _ _ _ (hKb _ _ _ _ R rfl) d) (hKb _ _ _ _ E rfl)),.inr ⟨rfl,.exit id,putS _ y _ _ m E _,?_,(World.putObj_heap_other (by omega)).trans j⟩⟩;rw[World.putObj_heap_same (Array.getElem?_eq_some_iff.1 E).1,M];rfl
   |goto t=>exact b.elim
   |panic ch=>exact b.elim
   |outgrown=>exact b.elim
  ·rintro e W2 ⟨⟨v,rfl⟩,⟨U,X,h⟩|⟨c,U,X,h⟩⟩
   ·have O:=run_endLoop (P:=P) X (by rw[M];simp);exact⟨none,_,by rw[M]at O;exact O,hdone _ _ (Nat.le_refl _) (put N W2 _ _ U X _) ((World.putObj_heap_other (by omega)).trans h)⟩
   ·have O:=run_endLoop (P:=P) X (by rw[M];simp);exact⟨some c,_,by rw[M]at O;exact O,hout c _ _ (Nat.le_refl _) (putS c W2 _ _ U X _) ((World.putObj_heap_other (by omega)).trans h)⟩
end
