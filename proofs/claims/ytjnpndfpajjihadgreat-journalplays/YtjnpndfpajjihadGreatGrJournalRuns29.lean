import Derived.Test.YtjnpndfpajjihadGreatGrJournalRuns25
import Derived.Test.YtjnpndfpajjihadGreatGrJournalRuns4
set_option maxRecDepth 100000
set_option maxHeartbeats 40000000
namespace Go.Proofs.YtjnpndfpajjihadGreat
open Go.RowKit Go.Shelf
open Value renaming int -> H,slice -> M,pointer -> C,bool -> Y
open IntKind renaming i64 -> G
open Option renaming none -> Z,some -> J
open Bool renaming false -> O,true -> I
open Go renaming World -> K,Value -> E
open Obj renaming cells -> T
open Ending renaming returned -> N
variable{Bn Bs:Nat}{W W':World}
def WA (len n:Nat):Nat:=(len+(n - 1))/n
def UB (len n k:Nat):Nat:=if n<=len - k*n then n else len - k*n
def KeepsB (Bs Bn:Nat)(W W':K):Prop:=∀k,(k=Bs\/k=Bn)->∀o,W.heap[k]?=J o->o.isCells=I->W'.heap[k]?=J o
theorem KeepsB.refl(Bs Bn:Nat)(W:K):KeepsB Bs Bn W W:=λ_ _ _ h _=>h
theorem KeepsB.trans(A B C:K)(h:KeepsB Bs Bn A B)(k:KeepsB Bs Bn B C):KeepsB Bs Bn A C:=λj D o Q L=>k j D o (h j D o Q L) L
theorem KeepsB.drew{A B:K}(h:KeepsB Bs Bn A B):KeepsB Bs Bn A B.drew:=λj L o D Q=>h j L o D Q
theorem KeepsB.put(W:K)(r:Nat)(o Q:Obj)(L:W.heap[r]?=J o)(D:o.isCells=O):KeepsB Bs Bn W (W.putObj r Q):=by
 intro k _ o2 A C;have B:k≠r:=by intro e;subst e;rw[L]at A;cases A;rw[D]at C;cases C
 exact(World.putObj_heap_other B).trans A
theorem KeepsB.boxed(h:KeepsB Bs Bn W W'){B:Nat}(D:B=Bs\/B=Bn){t:TypeId}{v:E}(hb:Boxed W B t v):Boxed W' B t v:=h B D _ hb rfl
theorem KeepsB.of_fr{D B base:Nat}(h:Fr D B base W W'){Q L:TypeId}{d X:E}(h1:Boxed W Bs Q d)(h2:Boxed W Bn L X)(c:Q≠108)(i:L≠108)(a:Bs≠D)(b:Bs≠B)(e:Bn≠D)(R:Bn≠B):KeepsB Bs Bn W W':=by
 rintro k (rfl|rfl) o A _
 .rw[show W.heap[k]?=_ from h1]at A;cases A;exact h.boxed h1 c a b
 .rw[show W.heap[k]?=_ from h2]at A;cases A;exact h.boxed h2 i e R
open Go.Proofs.Tryz
open Go.RowKit Go.Shelf
attribute [local go_sem] Oper.semAt_some
theorem bb(F:Fence)(n:Nat)(L:F.fn 177)(B:F.round=Z)(a:Option Addr)(len cap:Nat)(w:K):
  CallsIn F n prog 177 #[M a len cap,H G 20] w λe D=>e=N (.func (.func 211) #[] #[C (J ⟨w.heap.size,0,Z⟩),C (J ⟨w.heap.size+1,0,Z⟩)])/\D=(w.alloc (T #[M a len cap] 47)).alloc (T #[H G 20] 3):=by
 refine Sd func177 rfl L ?_ B;simp only[ntmps177,List.size_toArray,List.length_cons,List.length_nil,Nat.reduceAdd,Nat.reduceSub,Array.replicate_succ,Array.replicate_zero,List.push_toArray,List.append_toArray,List.nil_append,List.cons_append]
 gi_wp2
 go_ret;exact⟨rfl,rfl⟩
theorem cT(F:Fence)(n:Nat)(x:F.fn 211)(q:F.round=Z)(hn:1<=n)(l Bs Bn b off len cap:Nat)(A5:len<=1000)(A4:len<=cap)(c:Nat->K->Prop)(hd:∀k V,c k V->c k V.drew)
  (y:∀k V,k<WA len 20->c k V->YieldAt F (n - 1) prog l #[M (J ⟨b,off+20*k,Z⟩) (UB len 20 k) (UB len 20 k)] V λe r=>e=N (Y I)/\c (k+1) r/\KeepsB Bs Bn V r)
  (W:K) (s:Boxed W Bs 47 (M (J ⟨b,off,Z⟩) len cap)) (d:Boxed W Bn 3 (H G 20)) (h0:c 0 W):
  CallsIn F n prog 211 #[.func (.yield l) #[] #[],C (J ⟨Bs,0,Z⟩),C (J ⟨Bn,0,Z⟩)] W λe W'=>(∃v,e=N v)/\c (WA len 20) W':=by
 have hN:WA len 20=(len+19)/20:=rfl;have A0:(len:Int)<=(cap:Int):=by omega
 refine Sd func211 rfl x ?_ q;simp only[ntmps211,List.size_toArray,List.length_cons,List.length_nil,Nat.reduceAdd,Nat.reduceSub,Array.replicate_succ,Array.replicate_zero,List.push_toArray,List.append_toArray,List.nil_append,List.cons_append]
 gi_wp2
 gi_loopw [4] (λi wr=>∃k:Nat,k<=WA len 20/\i=H G ((20*k:Nat):Int)/\c k wr/\KeepsB Bs Bn W wr) (λi _=>len+20 - (intOf i).toNat)
 case atStart=>exact⟨0,Vb _,rfl,h0,KeepsB.refl _ _ _⟩
 case round=>
  obtain⟨k,hk,rfl,u,h1⟩:=hrel;have c1:=(h1.boxed (.inl rfl) s).cell;have c2:=(h1.boxed (.inr rfl) d).cell;by_cases hlt:20*k<len
  .have E:((20*k:Nat):Int)<(len:Int):=by omega
   have U:(0:Int)<=((20*k:Nat):Int):=by omega
   obtain⟨fn,A2,assign,body,X,w⟩:=y k wr.drew (by omega) (hd _ _ u);have L:k+1<=WA len 20:=by omega
   obtain⟨pl,D⟩:∃pl,pl=UB len 20 k:=⟨_,rfl⟩;rw[<-D]at X;have A:pl=if 20<=len - 20*k then 20 else len - 20*k:=by rw[D,UB,Zf]
   obtain⟨j,Q⟩:∃j,j=20*k:=⟨_,rfl⟩;rw[<-Q]at hlt E U X A|-;have S:=zA Q;have A3:¬cap=j:=by omega
   have A1:(j:Int)<=(cap:Int):=by omega
   clear Q D;by_cases hm:20<=len - j
   .have O:pl=20:=by rw[A];split<;>omega
    have R:¬(((len - j:Nat):Int)<20):=by omega
    subst O;clear A;have A6:(j:Int)+((len - j:Nat):Int)=(len:Int):=by omega
    gi_wp2
    gi_region
    all_goals
     gi_wp2
     refine w.mono ?_;rintro e a ⟨rfl,m,p⟩;have B:=KeepsB.trans _ _ _ h1.drew p;have z:=(KeepsB.boxed B (.inr rfl) d).cell
     gi_wp2
     go_roundw
     case rel=>exact⟨k+1,L,by rw[S.o];go_num,m,B⟩
     case measure=>simp[intOf];omega
   .have O:pl=len - j:=by rw[A];split<;>omega
    have R:((len - j:Nat):Int)<20:=by omega
    subst O;clear A;have A6:(j:Int)+((len - j:Nat):Int)=(len:Int):=by omega
    gi_wp2
    gi_region
    all_goals
     gi_wp2
     refine w.mono ?_;rintro e a ⟨rfl,m,p⟩;have B:=KeepsB.trans _ _ _ h1.drew p;have z:=(KeepsB.boxed B (.inr rfl) d).cell
     gi_wp2
     go_roundw
     case rel=>exact⟨k+1,L,by rw[S.o];go_num,m,B⟩
     case measure=>simp[intOf];omega
  .have E:¬(((20*k:Nat):Int)<(len:Int)):=by omega
   have e:k=WA len 20:=by omega
   subst e
   gi_wp2
   go_end0
   exact⟨⟨_,rfl⟩,u⟩
open Go.RowKit Go.Shelf
attribute [local go_sem] Oper.semAt_some
theorem xT(F:Fence)(n:Nat)(L:F.fn 178)(B:F.round=Z)(a:Option Addr)(len cap:Nat)(w:K):
  CallsIn F n prog 178 #[M a len cap,H G 10] w λe D=>e=N (.func (.func 212) #[] #[C (J ⟨w.heap.size,0,Z⟩),C (J ⟨w.heap.size+1,0,Z⟩)])/\D=(w.alloc (T #[M a len cap] 46)).alloc (T #[H G 10] 3):=by
 refine Sd func178 rfl L ?_ B;simp only[ntmps178,List.size_toArray,List.length_cons,List.length_nil,Nat.reduceAdd,Nat.reduceSub,Array.replicate_succ,Array.replicate_zero,List.push_toArray,List.append_toArray,List.nil_append,List.cons_append]
 gi_wp2
 go_ret;exact⟨rfl,rfl⟩
theorem sR(F:Fence)(n:Nat)(x:F.fn 212)(q:F.round=Z)(hn:1<=n)(l Bs Bn b off len cap:Nat)(A5:len<=1000)(A4:len<=cap)(c:Nat->K->Prop)(hd:∀k V,c k V->c k V.drew)
  (y:∀k V,k<WA len 10->c k V->YieldAt F (n - 1) prog l #[M (J ⟨b,off+10*k*2,Z⟩) (UB len 10 k) (UB len 10 k)] V λe r=>e=N (Y I)/\c (k+1) r/\KeepsB Bs Bn V r)
  (W:K) (s:Boxed W Bs 46 (M (J ⟨b,off,Z⟩) len cap)) (d:Boxed W Bn 3 (H G 10)) (h0:c 0 W):
  CallsIn F n prog 212 #[.func (.yield l) #[] #[],C (J ⟨Bs,0,Z⟩),C (J ⟨Bn,0,Z⟩)] W λe W'=>(∃v,e=N v)/\c (WA len 10) W':=by
 have hN:WA len 10=(len+9)/10:=rfl;have A0:(len:Int)<=(cap:Int):=by omega
 refine Sd func212 rfl x ?_ q;simp only[ntmps212,List.size_toArray,List.length_cons,List.length_nil,Nat.reduceAdd,Nat.reduceSub,Array.replicate_succ,Array.replicate_zero,List.push_toArray,List.append_toArray,List.nil_append,List.cons_append]
 gi_wp2
 gi_loopw [4] (λi wr=>∃k:Nat,k<=WA len 10/\i=H G ((10*k:Nat):Int)/\c k wr/\KeepsB Bs Bn W wr) (λi _=>len+10 - (intOf i).toNat)
 case atStart=>exact⟨0,Vb _,rfl,h0,KeepsB.refl _ _ _⟩
 case round=>
  obtain⟨k,hk,rfl,u,h1⟩:=hrel;have c1:=(h1.boxed (.inl rfl) s).cell;have c2:=(h1.boxed (.inr rfl) d).cell;by_cases hlt:10*k<len
  .have E:((10*k:Nat):Int)<(len:Int):=by omega
   have U:(0:Int)<=((10*k:Nat):Int):=by omega
   obtain⟨fn,A2,assign,body,X,w⟩:=y k wr.drew (by omega) (hd _ _ u);have L:k+1<=WA len 10:=by omega
   obtain⟨pl,D⟩:∃pl,pl=UB len 10 k:=⟨_,rfl⟩;rw[<-D]at X;have A:pl=if 10<=len - 10*k then 10 else len - 10*k:=by rw[D,UB,Zf]
   obtain⟨j,Q⟩:∃j,j=10*k:=⟨_,rfl⟩;rw[<-Q]at hlt E U X A|-;have S:=zA Q;have A3:¬cap=j:=by omega
   have A1:(j:Int)<=(cap:Int):=by omega
   clear Q D;by_cases hm:10<=len - j
   .have O:pl=10:=by rw[A];split<;>omega
    have R:¬(((len - j:Nat):Int)<10):=by omega
    subst O;clear A;have A6:(j:Int)+((len - j:Nat):Int)=(len:Int):=by omega
    gi_wp2
    gi_region
    all_goals
     gi_wp2
     refine w.mono ?_;rintro e a ⟨rfl,m,p⟩;have B:=KeepsB.trans _ _ _ h1.drew p;have z:=(KeepsB.boxed B (.inr rfl) d).cell
     gi_wp2
     go_roundw
     case rel=>exact⟨k+1,L,by rw[S.o];go_num,m,B⟩
     case measure=>simp[intOf];omega
   .have O:pl=len - j:=by rw[A];split<;>omega
    have R:((len - j:Nat):Int)<10:=by omega
    subst O;clear A;have A6:(j:Int)+((len - j:Nat):Int)=(len:Int):=by omega
    gi_wp2
    gi_region
    all_goals
     gi_wp2
     refine w.mono ?_;rintro e a ⟨rfl,m,p⟩;have B:=KeepsB.trans _ _ _ h1.drew p;have z:=(KeepsB.boxed B (.inr rfl) d).cell
     gi_wp2
     go_roundw
     case rel=>exact⟨k+1,L,by rw[S.o];go_num,m,B⟩
     case measure=>simp[intOf];omega
  .have E:¬(((10*k:Nat):Int)<(len:Int)):=by omega
   have e:k=WA len 10:=by omega
   subst e
   gi_wp2
   go_end0
   exact⟨⟨_,rfl⟩,u⟩
open Go.RowKit Go.Shelf
attribute [local go_sem] Oper.semAt_some
theorem yY(F:Fence)(n:Nat)(Q:F.fn 211)(L:F.round=Z)(l Bs Bn cap:Nat)(a:Option Addr)(B:Nat->K->Prop)(W:K)(D:Boxed W Bs 47 (M a 0 cap))(h0:B 0 W):
  CallsIn F n prog 211 #[.func (.yield l) #[] #[],C (J ⟨Bs,0,Z⟩),C (J ⟨Bn,0,Z⟩)] W λe W'=>(∃v,e=N v)/\B 0 W':=by
 have c1:=D.cell;refine Sd func211 rfl Q ?_ L;simp only[ntmps211,List.size_toArray,List.length_cons,List.length_nil,Nat.reduceAdd,Nat.reduceSub,Array.replicate_succ,Array.replicate_zero,List.push_toArray,List.append_toArray,List.nil_append,List.cons_append]
 gi_wp2
 gi_loopw [4] (λi wr=>i=H G 0/\B 0 wr/\wr=W) (λ_ _=>0)
 case atStart=>exact⟨rfl,h0,rfl⟩
 case round=>
  obtain⟨rfl,A,rfl⟩:=hrel
  gi_wp2
  go_end0
  exact⟨⟨_,rfl⟩,A⟩
theorem xS(F:Fence)(n:Nat)(e:F.fn 211)(X:F.round=Z)(j:1<=n)(Bs Bn len cap:Nat)(a:Option Addr)(d:len<=1000)(c:0<len->len<=cap)(m:0<len->∃b L,a=J ⟨b,L,Z⟩)(w:K)(Q:Boxed w Bs 47 (M a len cap))(R:Boxed w Bn 3 (H G 20)):
  FH F n prog 211 #[C (J ⟨Bs,0,Z⟩),C (J ⟨Bn,0,Z⟩)] (λk=>#[M (a.map λx=>⟨x.block,x.off+20*k,Z⟩) (UB len 20 k) (UB len 20 k)]) (WA len 20) (KeepsB Bs Bn) w:=by
 intro l h W A hd E i;have B:Boxed W Bs 47 (M a len cap):=yA A Q.lt Q;have D:Boxed W Bn 3 (H G 20):=yA A R.lt R;rcases jf len with rfl|hp
 .exact yY F n e X l Bs Bn cap a h W B i
 .obtain⟨b,L,rfl⟩:=m hp;exact cT F n e X j l Bs Bn b L len cap d (c hp) h hd E W B D i
theorem uZ(F:Fence)(n:Nat)(Q:F.fn 212)(L:F.round=Z)(l Bs Bn cap:Nat)(a:Option Addr)(B:Nat->K->Prop)(W:K)(D:Boxed W Bs 46 (M a 0 cap))(h0:B 0 W):
  CallsIn F n prog 212 #[.func (.yield l) #[] #[],C (J ⟨Bs,0,Z⟩),C (J ⟨Bn,0,Z⟩)] W λe W'=>(∃v,e=N v)/\B 0 W':=by
 have c1:=D.cell;refine Sd func212 rfl Q ?_ L;simp only[ntmps212,List.size_toArray,List.length_cons,List.length_nil,Nat.reduceAdd,Nat.reduceSub,Array.replicate_succ,Array.replicate_zero,List.push_toArray,List.append_toArray,List.nil_append,List.cons_append]
 gi_wp2
 gi_loopw [4] (λi wr=>i=H G 0/\B 0 wr/\wr=W) (λ_ _=>0)
 case atStart=>exact⟨rfl,h0,rfl⟩
 case round=>
  obtain⟨rfl,A,rfl⟩:=hrel
  gi_wp2
  go_end0
  exact⟨⟨_,rfl⟩,A⟩
theorem aR(F:Fence)(n:Nat)(e:F.fn 212)(X:F.round=Z)(j:1<=n)(Bs Bn len cap:Nat)(a:Option Addr)(d:len<=1000)(c:0<len->len<=cap)(m:0<len->∃b L,a=J ⟨b,L,Z⟩)(w:K)(Q:Boxed w Bs 46 (M a len cap))(R:Boxed w Bn 3 (H G 10)):
  FH F n prog 212 #[C (J ⟨Bs,0,Z⟩),C (J ⟨Bn,0,Z⟩)] (λk=>#[M (a.map λx=>⟨x.block,x.off+10*k*2,Z⟩) (UB len 10 k) (UB len 10 k)]) (WA len 10) (KeepsB Bs Bn) w:=by
 intro l h W A hd E i;have B:Boxed W Bs 46 (M a len cap):=yA A Q.lt Q;have D:Boxed W Bn 3 (H G 10):=yA A R.lt R;rcases jf len with rfl|hp
 .exact uZ F n e X l Bs Bn cap a h W B i
 .obtain⟨b,L,rfl⟩:=m hp;exact sR F n e X j l Bs Bn b L len cap d (c hp) h hd E W B D i
