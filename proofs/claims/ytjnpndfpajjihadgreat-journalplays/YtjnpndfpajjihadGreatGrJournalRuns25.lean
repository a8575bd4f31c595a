import Derived.RangeFuncNested
import Derived.RangeFuncBound
import Derived.RangeFuncCalls
import Derived.RangeFuncLeaves
import Derived.Shelf.Abstract
import Derived.Shelf.RegionOpen
import Derived.OwnWalkIn
import Derived.TacticsInMore
import Derived.LoopNIn
import Derived.LoopIn
import Derived.Test.YtjnpndfpajjihadGreatGrJournalRuns0
namespace Go.Proofs.YtjnpndfpajjihadGreat
open Go.RowKit
open Option renaming none -> Z,some -> J
open Bool renaming false -> O,true -> I
open Go renaming World -> K,Value -> E
open Value renaming bool -> Y
variable{Kp:World->World->Prop}{Q:Exit->Act->World->Prop}{a:Act}{g:Operand}{gf:Nat}{lb:Array Value}{vals:Nat->Array Value}{w w0:World}
def FH (F:Fence)(n:Nat)(P:Program)(g:Nat)(lb:Array E)(vals:Nat->Array E)(N:Nat)(Kp:K->K->Prop)(w:K):Prop:=
 ∀(l:Nat) (J:Nat->K->Prop) (W:K),Below w.heap.size w W->(∀k V,J k V->J k V.drew)->
  (∀k V,k<N->J k V->YieldAt F (n - 1) P l (vals k) V λe B=>e=.returned (Y I)/\J (k+1) B/\Kp V B)->
  J 0 W->CallsIn F n P g (#[.func (.yield l) #[] #[]]++lb) W λe D=>(∃v,e=.returned v)/\J N D
section
variable {F:Fence} {n:Nat} {P:Program}
def WZ (Kp:K->K->Prop)(I:K->Prop)(W:K):Exit->Act->K->Prop
 |.normal,_,W'=>KeepsOthers W W'/\Kp W W'/\I W'
 |_,_,_=>False
theorem JM{ps:Array Tmp}{assign body:Code}{N:Nat}
  (A8:F.round=Z) (h1:1<=n) (hg:a.eval g=.func (.func gf) #[] lb) (hF:F.fn gf) (eg:∀args w,(callFunc gf args).run P w=.ok (.enter gf args) w)
  (hc:FH F (n - 1) P gf lb vals N Kp w0) (A6:Below w0.heap.size w0 w) (A5:∀A B C:K,Kp A B->Kp B C->Kp A C)
  (A7:∀(W:K) (r:Nat) (o o':Obj),W.heap[r]?=J o->o.isCells=O->Kp W (W.putObj r o')) (A9:∀k,(vals k).size=ps.size)
  (I:Nat->K->Prop) (hI:∀k (A B:K) (row:Option Nat),I k A->A.grownBy B row->(∀r,row=J r->w.heap.size<=r/\∃o:Obj,A.heap[r]?=J o/\o.isCells=O)->I k B) (hd:∀k V,I k V->I k V.drew) (h0:I 0 w) (a₁:Nat->Act)
  (A0:∀(l k:Nat) (W:K) (B1:Act->K->Prop),B1 (a₁ k) W->
   assign.wpIn (F.inRound l) (n - 1 - 1) P (Exit.then B1 (λ_ _ _=>False)) {tmps:=(ps.zip (vals k)).foldl (λt (p,v)=>t.setIfInBounds p v) a.tmps,defers:=[]} W)
  (A3:∀(l k:Nat) (W:K),k<N->I k W->body.wpIn (F.inRound l) (n - 1 - 1) P (WZ Kp (I (k+1)) W) (a₁ k) W)
  (A2:∀(D:Nat) (W:K),w.heap.size<=D->I N W->W.heap[D]?=J (.deferred (J []))->Q .normal {a with defers:={target:=.collected D,args:=#[]}::a.defers} W):
  (Code.rangeFunc g ps assign body).wpIn F n P Q a w:=by
 refine wpIn_rangeFunc λfn B0=>?_;rw[A8];obtain⟨L,E⟩:∃L:LoopState->Loop,L=λst=>{state:=st,pending:=Z,fn,tmps:=a.tmps,params:=ps,assign,body,defers:=w.heap.size}:=⟨_,rfl⟩;obtain⟨V,A1⟩:∃V,V=(w.alloc (.deferred (J []))).alloc (.loop (L .ready)):=⟨_,rfl⟩;have hz:V.heap.size=w.heap.size+1+1:=by rw[A1];simp
 have q:Below w.heap.size w V:=by rw[A1];exact((Ub _ _).alloc (Sb _) _).alloc (by simp) _
 have hl:V.heap[w.heap.size+1]?=J (.loop (L .ready)):=by
  rw[A1];have:=World.alloc_heap_new (w.alloc (.deferred (J []))) (.loop (L .ready));rwa [ng]at this
 have s:V.heap[w.heap.size]?=J (.deferred (J [])):=by
  rw[A1];exact(kd _ _ _ (by simp)).trans (World.alloc_heap_new w _)
 have m:I 0 V:=by
  rw[A1];exact hI 0 _ _ Z (hI 0 _ _ Z h0 (Qe _ _ Z) (λr e=>by cases e)) (Qe _ _ Z) (λr e=>by cases e)
 have put:∀k A st,I k A->A.heap[w.heap.size+1]?=J (.loop (L st))->∀o',I k (A.putObj (w.heap.size+1) o'):=λk A st R hA o'=>
  hI k _ _ _ R (grownBy_putObj' A (w.heap.size+1) o') (λr e=>by cases e;exact⟨by omega,_,hA,rfl⟩)
 refine⟨w.heap.size+1,[{target:=.collected w.heap.size,args:=#[]}],V,{target:=.fn (.func gf) lb,args:=#[.func (.yield (w.heap.size+1)) #[] #[]]},V,gf,#[.func (.yield (w.heap.size+1)) #[] #[]]++lb,V,?_,?_,?_,?_,λ_=>h1,?_⟩
 .rw[A1,E];exact run_enterLoop_outer _ _ _ _ _
 .simp only[resolve,hg];simp[go_sem]
 .intro f' Y;simp[Target.leads]at Y;subst Y;exact hF
 .simp[invoke,go_sem,eg]
 .refine(hc (w.heap.size+1) (λk W=>I k W/\W.heap[w.heap.size+1]?=J (.loop (L .ready))/\W.heap[w.heap.size]?=J (.deferred (J []))) V (A6.trans (q.mono A6.size)) (λk W h=>⟨hd k W h.1,h.2.1,h.2.2⟩) ?_ ⟨m,hl,s⟩).mono ?_
  .rintro k W i ⟨R,A4,c⟩;have B2:=(Wb.1 A4).1;have j:=run_yield (P:=P) (args:=vals k) A4 (by rw[E];exact A9 k);rw[E]at j;refine⟨fn,_,assign,body,j,roundIn_of_wpIn B0 (A0 _ k W _ ⟨_,run_beginRound A4 (by rw[E]),?_⟩)⟩;have y:(W.putObj (w.heap.size+1) (.loop {L .ready with state:=.busy})).heap[w.heap.size+1]?=J (.loop (L .busy)):=by rw[E];exact World.putObj_heap_same B2
   have k2:(W.putObj (w.heap.size+1) (.loop {L .ready with state:=.busy})).heap[w.heap.size]?=J (.deferred (J [])):=(World.putObj_heap_other (by omega)).trans c;refine wpIn_mono (A3 _ k _ i (put k W _ R A4 _)) ?_;rintro e a3 z M
   cases e with
   |normal=>
    obtain⟨d,q2,x⟩:=M;have U:=d.same _ _ y rfl;have u:=d.same _ _ k2 rfl;have S:=run_endRound (P:=P) Z U;refine⟨_,_,S,rfl,⟨put (k+1) z _ x U _,?_,(World.putObj_heap_other (by omega)).trans u⟩,A5 _ _ _ (A5 _ _ _ (A7 _ _ _ _ A4 rfl) q2) (A7 _ _ _ _ U rfl)⟩;rw[World.putObj_heap_same (Wb.1 U).1,E];rfl
   |ret=>exact M.elim
   |exit id=>exact M.elim
   |goto t=>exact M.elim
   |panic ch=>exact M.elim
   |outgrown=>exact M.elim
  .rintro e W2 ⟨⟨v,rfl⟩,R,X,b⟩;have S:=run_endLoop (P:=P) X (by rw[E];simp);exact⟨Z,_,by rw[E]at S;exact S,A2 _ _ (Sb _) (put N W2 _ R X _) ((World.putObj_heap_other (by omega)).trans b)⟩
end
section
variable {F:Fence} {n:Nat} {P:Program}
def Hb (base:Nat)(Kp:K->K->Prop)(I:K->Prop)(W:K):Exit->Act->K->Prop
 |.normal,_,W'=>(W'.heap[base]?=W.heap[base]?/\W'.heap[base+1]?=W.heap[base+1]?)/\Kp W W'/\I W'
 |_,_,_=>False
theorem NU{ps:Array Tmp}{assign body:Code}{N:Nat}
  (A9:F.round=Z) (h1:1<=n) (hg:a.eval g=.func (.func gf) #[] lb) (hF:F.fn gf) (eg:∀args w,(callFunc gf args).run P w=.ok (.enter gf args) w)
  (hc:FH F (n - 1) P gf lb vals N Kp w0) (A6:Below w0.heap.size w0 w) (A1:∀A B C:K,Kp A B->Kp B C->Kp A C)
  (A5:∀(W:K) (r:Nat) (o o':Obj),W.heap[r]?=J o->o.isCells=O->Kp W (W.putObj r o')) (B0:∀k,(vals k).size=ps.size)
  (I:Nat->K->Prop) (hI:∀k (A B:K) (row:Option Nat),I k A->A.grownBy B row->(∀r,row=J r->w.heap.size<=r/\∃o:Obj,A.heap[r]?=J o/\o.isCells=O)->I k B) (hd:∀k V,I k V->I k V.drew) (h0:I 0 w) (A7:Nat->Act->K->Prop)
  (hJ:∀k a' (A B:K) (row:Option Nat),A7 k a' A->A.grownBy B row->(∀r,row=J r->w.heap.size<=r/\∃o:Obj,A.heap[r]?=J o/\o.isCells=O)->A7 k a' B)
  (A0:∀(l k:Nat) (W:K) (B3:Act->K->Prop),k<N->I k W->w.heap.size+1<W.heap.size->(∀a' V,V.heap[w.heap.size]?=W.heap[w.heap.size]?->V.heap[w.heap.size+1]?=W.heap[w.heap.size+1]?->Kp W V->A7 k a' V->B3 a' V)->
   assign.wpIn (F.inRound l) (n - 1 - 1) P (Exit.then B3 (λ_ _ _=>False)) {tmps:=(ps.zip (vals k)).foldl (λt (p,v)=>t.setIfInBounds p v) a.tmps,defers:=[]} W)
  (A3:∀(l k:Nat) (a':Act) (W:K),k<N->A7 k a' W->w.heap.size+1<W.heap.size->body.wpIn (F.inRound l) (n - 1 - 1) P (Hb w.heap.size Kp (I (k+1)) W) a' W)
  (A4:∀(D:Nat) (W:K),w.heap.size<=D->I N W->W.heap[D]?=J (.deferred (J []))->Q .normal {a with defers:={target:=.collected D,args:=#[]}::a.defers} W):
  (Code.rangeFunc g ps assign body).wpIn F n P Q a w:=by
 refine wpIn_rangeFunc λfn A8=>?_;rw[A9];obtain⟨L,E⟩:∃L:LoopState->Loop,L=λst=>{state:=st,pending:=Z,fn,tmps:=a.tmps,params:=ps,assign,body,defers:=w.heap.size}:=⟨_,rfl⟩;obtain⟨V,R⟩:∃V,V=(w.alloc (.deferred (J []))).alloc (.loop (L .ready)):=⟨_,rfl⟩;have hz:V.heap.size=w.heap.size+1+1:=by rw[R];simp
 have y:Below w.heap.size w V:=by rw[R];exact((Ub _ _).alloc (Sb _) _).alloc (by simp) _
 have hl:V.heap[w.heap.size+1]?=J (.loop (L .ready)):=by
  rw[R];have:=World.alloc_heap_new (w.alloc (.deferred (J []))) (.loop (L .ready));rwa [ng]at this
 have z:V.heap[w.heap.size]?=J (.deferred (J [])):=by
  rw[R];exact(kd _ _ _ (by simp)).trans (World.alloc_heap_new w _)
 have x:I 0 V:=by
  rw[R];exact hI 0 _ _ Z (hI 0 _ _ Z h0 (Qe _ _ Z) (λr e=>by cases e)) (Qe _ _ Z) (λr e=>by cases e)
 have put:∀k A st,I k A->A.heap[w.heap.size+1]?=J (.loop (L st))->∀o',I k (A.putObj (w.heap.size+1) o'):=λk A st S hA o'=>
  hI k _ _ _ S (grownBy_putObj' A (w.heap.size+1) o') (λr e=>by cases e;exact⟨by omega,_,hA,rfl⟩)
 refine⟨w.heap.size+1,[{target:=.collected w.heap.size,args:=#[]}],V,{target:=.fn (.func gf) lb,args:=#[.func (.yield (w.heap.size+1)) #[] #[]]},V,gf,#[.func (.yield (w.heap.size+1)) #[] #[]]++lb,V,?_,?_,?_,?_,λ_=>h1,?_⟩
 .rw[R,E];exact run_enterLoop_outer _ _ _ _ _
 .simp only[resolve,hg];simp[go_sem]
 .intro f' b;simp[Target.leads]at b;subst b;exact hF
 .simp[invoke,go_sem,eg]
 .refine(hc (w.heap.size+1) (λk W=>I k W/\W.heap[w.heap.size+1]?=J (.loop (L .ready))/\W.heap[w.heap.size]?=J (.deferred (J []))) V (A6.trans (y.mono A6.size)) (λk W h=>⟨hd k W h.1,h.2.1,h.2.2⟩) ?_ ⟨x,hl,z⟩).mono ?_
  .rintro k W c ⟨S,U,j⟩;have u:=run_yield (P:=P) (args:=vals k) U (by rw[E];exact B0 k);rw[E]at u;refine⟨fn,_,assign,body,u,roundIn_of_wpIn A8 (A0 _ k W _ c S (Wb.1 U).1 λa' V v1 v2 B1 hj=>?_)⟩;have M:V.heap[w.heap.size+1]?=J (.loop (L .ready)):=v2.trans U;have s:V.heap[w.heap.size]?=J (.deferred (J [])):=v1.trans j;have d:=(Wb.1 M).1;refine⟨_,run_beginRound M (by rw[E]),?_⟩;have q:(V.putObj (w.heap.size+1) (.loop {L .ready with state:=.busy})).heap[w.heap.size+1]?=J (.loop (L .busy)):=by rw[E];exact World.putObj_heap_same d
   have k2:(V.putObj (w.heap.size+1) (.loop {L .ready with state:=.busy})).heap[w.heap.size]?=J (.deferred (J [])):=(World.putObj_heap_other (by omega)).trans s;refine wpIn_mono (A3 _ k a' _ c (hJ k a' _ _ _ hj (grownBy_putObj' V (w.heap.size+1) _) (λr e=>by cases e;exact⟨by omega,_,M,rfl⟩)) (Wb.1 q).1) ?_;rintro e a3 W3 A2
   cases e with
   |normal=>
    obtain⟨m,q2,q3⟩:=A2;have Y:=m.2.trans q;have k3:=m.1.trans k2;have X:=run_endRound (P:=P) Z Y;refine⟨_,_,X,rfl,⟨put (k+1) W3 _ q3 Y _,?_,(World.putObj_heap_other (by omega)).trans k3⟩,A1 _ _ _ (A1 _ _ _ B1 (A1 _ _ _ (A5 _ _ _ _ M rfl) q2)) (A5 _ _ _ _ Y rfl)⟩;rw[World.putObj_heap_same (Wb.1 Y).1,E];rfl
   |ret=>exact A2.elim
   |exit id=>exact A2.elim
   |goto t=>exact A2.elim
   |panic ch=>exact A2.elim
   |outgrown=>exact A2.elim
  .rintro e W2 ⟨⟨v,rfl⟩,S,B2,i⟩;have X:=run_endLoop (P:=P) B2 (by rw[E];simp);exact⟨Z,_,by rw[E]at X;exact X,A4 _ _ (Sb _) (put N W2 _ S B2 _) ((World.putObj_heap_other (by omega)).trans i)⟩
end
def FM (F:Fence)(n:Nat)(P:Program)(g:Nat)(lb:Array E)(vals:Nat->Array E)(N:Nat)(Kp:K->K->Prop)(w:K):Prop:=
 ∀(l:Nat) (J:Nat->K->Prop) (S:K->Prop) (W:K),Below w.heap.size w W->
  (∀k V,k<N->J k V->YieldAt F (n - 1) P l (vals k) V λe B=>Kp V B/\((e=.returned (Y I)/\J (k+1) B)\/(e=.returned (Y O)/\S B)))->
  J 0 W->CallsIn F n P g (#[.func (.yield l) #[] #[]]++lb) W λe D=>(∃v,e=.returned v)/\(J N D\/S D)
section
variable {F:Fence} {n:Nat} {P:Program}
def tY (base:Nat)(Kp:K->K->Prop)(I:K->Prop)(S:Code->K->Prop)(W:K):Exit->Act->K->Prop
 |.normal,_,W'=>(W'.heap[base]?=W.heap[base]?/\W'.heap[base+1]?=W.heap[base+1]?)/\Kp W W'/\I W'
 |.ret,_,W'=>(W'.heap[base]?=W.heap[base]?/\W'.heap[base+1]?=W.heap[base+1]?)/\Kp W W'/\S .ret W'
 |.exit id,_,W'=>(W'.heap[base]?=W.heap[base]?/\W'.heap[base+1]?=W.heap[base+1]?)/\Kp W W'/\S (.exit id) W'
 |_,_,_=>False
theorem MX{ps:Array Tmp}{assign body:Code}{N:Nat}
  (B6:F.round=Z) (h1:1<=n) (hg:a.eval g=.func (.func gf) #[] lb) (hF:F.fn gf) (eg:∀args w,(callFunc gf args).run P w=.ok (.enter gf args) w)
  (hc:FM F (n - 1) P gf lb vals N Kp w0) (B2:Below w0.heap.size w0 w) (A4:∀A B C:K,Kp A B->Kp B C->Kp A C)
  (A5:∀(W:K) (r:Nat) (o o':Obj),W.heap[r]?=J o->o.isCells=O->Kp W (W.putObj r o')) (B7:∀k,(vals k).size=ps.size)
  (I:Nat->K->Prop) (hI:∀k (A B:K) (row:Option Nat),I k A->A.grownBy B row->(∀r,row=J r->w.heap.size<=r/\∃o:Obj,A.heap[r]?=J o/\o.isCells=O)->I k B) (h0:I 0 w)
  (S:Code->K->Prop) (hS:∀c (A B:K) (row:Option Nat),S c A->A.grownBy B row->(∀r,row=J r->w.heap.size<=r/\∃o:Obj,A.heap[r]?=J o/\o.isCells=O)->S c B) (B4:Nat->Act->K->Prop)
  (hJ:∀k a' (A B:K) (row:Option Nat),B4 k a' A->A.grownBy B row->(∀r,row=J r->w.heap.size<=r/\∃o:Obj,A.heap[r]?=J o/\o.isCells=O)->B4 k a' B)
  (A7:∀(l k:Nat) (W:K) (B8:Act->K->Prop),k<N->I k W->w.heap.size+1<W.heap.size->(∀a' V,V.heap[w.heap.size]?=W.heap[w.heap.size]?->V.heap[w.heap.size+1]?=W.heap[w.heap.size+1]?->Kp W V->B4 k a' V->B8 a' V)->
   assign.wpIn (F.inRound l) (n - 1 - 1) P (Exit.then B8 (λ_ _ _=>False)) {tmps:=(ps.zip (vals k)).foldl (λt (p,v)=>t.setIfInBounds p v) a.tmps,defers:=[]} W)
  (B0:∀(l k:Nat) (a':Act) (W:K),k<N->B4 k a' W->w.heap.size+1<W.heap.size->body.wpIn (F.inRound l) (n - 1 - 1) P (tY w.heap.size Kp (I (k+1)) S W) a' W)
  (B1:∀(D:Nat) (W:K),w.heap.size<=D->I N W->W.heap[D]?=J (.deferred (J []))->Q .normal {a with defers:={target:=.collected D,args:=#[]}::a.defers} W)
  (B3:∀(c:Code) (D:Nat) (W:K),w.heap.size<=D->S c W->W.heap[D]?=J (.deferred (J []))->c.wpIn F n P Q {a with defers:={target:=.collected D,args:=#[]}::a.defers} W):
  (Code.rangeFunc g ps assign body).wpIn F n P Q a w:=by
 refine wpIn_rangeFunc λfn B5=>?_;rw[B6];obtain⟨L,M⟩:∃L:LoopState->Option Code->Loop,L=λst c=>{state:=st,pending:=c,fn,tmps:=a.tmps,params:=ps,assign,body,defers:=w.heap.size}:=⟨_,rfl⟩;obtain⟨V,b⟩:∃V,V=(w.alloc (.deferred (J []))).alloc (.loop (L .ready Z)):=⟨_,rfl⟩;have hz:V.heap.size=w.heap.size+1+1:=by rw[b];simp
 have A3:Below w.heap.size w V:=by rw[b];exact((Ub _ _).alloc (Sb _) _).alloc (by simp) _
 have hl:V.heap[w.heap.size+1]?=J (.loop (L .ready Z)):=by
  rw[b];have:=World.alloc_heap_new (w.alloc (.deferred (J []))) (.loop (L .ready Z));rwa [ng]at this
 have hk:V.heap[w.heap.size]?=J (.deferred (J [])):=by
  rw[b];exact(kd _ _ _ (by simp)).trans (World.alloc_heap_new w _)
 have A2:I 0 V:=by
  rw[b];exact hI 0 _ _ Z (hI 0 _ _ Z h0 (Qe _ _ Z) (λr e=>by cases e)) (Qe _ _ Z) (λr e=>by cases e)
 have put:∀k A st p,I k A->A.heap[w.heap.size+1]?=J (.loop (L st p))->∀o',I k (A.putObj (w.heap.size+1) o'):=λk A st p U hA o'=>
  hI k _ _ _ U (grownBy_putObj' A (w.heap.size+1) o') (λr e=>by cases e;exact⟨by omega,_,hA,rfl⟩)
 have putS:∀c A st p,S c A->A.heap[w.heap.size+1]?=J (.loop (L st p))->∀o',S c (A.putObj (w.heap.size+1) o'):=λc A st p U hA o'=>
  hS c _ _ _ U (grownBy_putObj' A (w.heap.size+1) o') (λr e=>by cases e;exact⟨by omega,_,hA,rfl⟩)
 refine⟨w.heap.size+1,[{target:=.collected w.heap.size,args:=#[]}],V,{target:=.fn (.func gf) lb,args:=#[.func (.yield (w.heap.size+1)) #[] #[]]},V,gf,#[.func (.yield (w.heap.size+1)) #[] #[]]++lb,V,?_,?_,?_,?_,λ_=>h1,?_⟩
 .rw[b,M];exact run_enterLoop_outer _ _ _ _ _
 .simp only[resolve,hg];simp[go_sem]
 .intro f' s;simp[Target.leads]at s;subst s;exact hF
 .simp[invoke,go_sem,eg]
 .refine(hc (w.heap.size+1) (λk W=>I k W/\W.heap[w.heap.size+1]?=J (.loop (L .ready Z))/\W.heap[w.heap.size]?=J (.deferred (J []))) (λW=>∃c,S c W/\W.heap[w.heap.size+1]?=J (.loop (L .done (J c)))/\W.heap[w.heap.size]?=J (.deferred (J []))) V (B2.trans (A3.mono B2.size)) ?_ ⟨A2,hl,hk⟩).mono ?_
  .rintro k W u ⟨U,j,A0⟩;have hy:=run_yield (P:=P) (args:=vals k) j (by rw[M];exact B7 k);rw[M]at hy;refine⟨fn,_,assign,body,hy,roundIn_of_wpIn B5 (A7 _ k W _ u U (Wb.1 j).1 λa' V v1 v2 A8 hj=>?_)⟩;have R:V.heap[w.heap.size+1]?=J (.loop (L .ready Z)):=v2.trans j;have A1:V.heap[w.heap.size]?=J (.deferred (J [])):=v1.trans A0;have z:=(Wb.1 R).1;refine⟨_,run_beginRound R (by rw[M]),?_⟩;have q:(V.putObj (w.heap.size+1) (.loop {L .ready Z with state:=.busy})).heap[w.heap.size+1]?=J (.loop (L .busy Z)):=by rw[M];exact World.putObj_heap_same z
   have y:(V.putObj (w.heap.size+1) (.loop {L .ready Z with state:=.busy})).heap[w.heap.size]?=J (.deferred (J [])):=(World.putObj_heap_other (by omega)).trans A1;refine wpIn_mono (B0 _ k a' _ u (hJ k a' _ _ _ hj (grownBy_putObj' V (w.heap.size+1) _) (λr e=>by cases e;exact⟨by omega,_,R,rfl⟩)) (Wb.1 q).1) ?_;rintro e a3 x A9
   cases e with
   |normal=>
    obtain⟨Y,m,i⟩:=A9;have E:=Y.2.trans q;have h:=Y.1.trans y;have A6:=run_endRound (P:=P) Z E;refine⟨_,_,A6,A4 _ _ _ A8 (A4 _ _ _ (A4 _ _ _ (A5 _ _ _ _ R rfl) m) (A5 _ _ _ _ E rfl)),.inl ⟨rfl,put (k+1) x _ _ i E _,?_,(World.putObj_heap_other (by omega)).trans h⟩⟩;rw[World.putObj_heap_same (Wb.1 E).1,M];rfl
   |ret=>
    obtain⟨Y,m,i⟩:=A9;have E:=Y.2.trans q;have h:=Y.1.trans y;have A6:=run_endRound (P:=P) (J .ret) E;refine⟨_,_,A6,A4 _ _ _ A8 (A4 _ _ _ (A4 _ _ _ (A5 _ _ _ _ R rfl) m) (A5 _ _ _ _ E rfl)),.inr ⟨rfl,.ret,putS _ x _ _ i E _,?_,(World.putObj_heap_other (by omega)).trans h⟩⟩;rw[World.putObj_heap_same (Wb.1 E).1,M];rfl
   |exit id=>
    obtain⟨Y,m,i⟩:=A9;have E:=Y.2.trans q;have h:=Y.1.trans y;have A6:=run_endRound (P:=P) (J (.exit id)) E;refine⟨_,_,A6,A4 _ _ _ A8 (A4 _ _ _ (A4 _ _ _ (A5 _ _ _ _ R rfl) m) (A5 _ _ _ _ E rfl)),.inr ⟨rfl,.exit id,putS _ x _ _ i E _,?_,(World.putObj_heap_other (by omega)).trans h⟩⟩;rw[World.putObj_heap_same (Wb.1 E).1,M];rfl
   |goto t=>exact A9.elim
   |panic ch=>exact A9.elim
   |outgrown=>exact A9.elim
  .rintro e W2 ⟨⟨v,rfl⟩,⟨U,X,d⟩|⟨c,U,X,d⟩⟩
   .have A6:=run_endLoop (P:=P) X (by rw[M];simp);exact⟨Z,_,by rw[M]at A6;exact A6,B1 _ _ (Sb _) (put N W2 _ _ U X _) ((World.putObj_heap_other (by omega)).trans d)⟩
   .have A6:=run_endLoop (P:=P) X (by rw[M];simp);exact⟨J c,_,by rw[M]at A6;exact A6,B3 c _ _ (Sb _) (putS c W2 _ _ U X _) ((World.putObj_heap_other (by omega)).trans d)⟩
end
