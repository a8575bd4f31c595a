/-
  
-/
import Derived.Test.YtjnpndfpajjihacGreatGrTopOrdered25
import Derived.Test.YtjnpndfpajjihacGreatGrTopOrdered4
set_option maxRecDepth 100000
set_option maxHeartbeats 40000000
namespace Go.Proofs.YtjnpndfpajjihacGreat
open Go.RowKit Go.Shelf
def zc6 (len n:Nat):Nat:=(len+(n - 1))/n
def zfk (len n k:Nat):Nat:=if n≤len - k*n then n else len - k*n
def KeepsB (Bs Bn:Nat)(W W':World):Prop:=∀k,(k=Bs∨k=Bn)→∀o,W.heap[k]?=some o→o.isCells=true→W'.heap[k]?=some o
theorem KeepsB.refl(Bs Bn:Nat)(W:World):KeepsB Bs Bn W W:=fun _ _ _ h _=>h
theorem KeepsB.trans{Bs Bn:Nat}(A B C:World)(h:KeepsB Bs Bn A B)(k:KeepsB Bs Bn B C):KeepsB Bs Bn A C:=fun j hj o ho hc=>k j hj o (h j hj o ho hc) hc
theorem KeepsB.drew{Bs Bn:Nat}{A B:World}(h:KeepsB Bs Bn A B):KeepsB Bs Bn A B.drew:=fun j hj o ho hc=>h j hj o ho hc
theorem KeepsB.put{Bs Bn:Nat}(W:World)(r:Nat)(o o':Obj)(hr:W.heap[r]?=some o)(ho:o.isCells=false):KeepsB Bs Bn W (W.putObj r o'):=by
 intro k _ o2 A C;have B:k≠r:=by intro e;subst e;rw[hr]at A;cases A;rw[ho]at C;cases C
 exact(World.putObj_heap_other B).trans A
theorem KeepsB.boxed{Bs Bn:Nat}{W W':World}(h:KeepsB Bs Bn W W'){B:Nat}(hB:B=Bs∨B=Bn){t:TypeId}{v:Value}(hb:Boxed W B t v):Boxed W' B t v:=h B hB _ hb rfl
theorem KeepsB.of_fr{Bs Bn Cs Cp base:Nat}{W W':World}(h:Fr Cs Cp base W W'){t1 t2:TypeId}{v1 v2:Value}(h1:Boxed W Bs t1 v1)(h2:Boxed W Bn t2 v2)(n1:t1≠124)(n2:t2≠124)(a1:Bs≠Cs)(a2:Bs≠Cp)(a3:Bn≠Cs)(a4:Bn≠Cp):KeepsB Bs Bn W W':=by
 rintro k (rfl|rfl) o A _
 ·rw[show W.heap[k]?=_ from h1]at A;cases A;exact h.boxed h1 n1 a1 a2
 ·rw[show W.heap[k]?=_ from h2]at A;cases A;exact h.boxed h2 n2 a3 a4
open Go.Proofs.Tryz
open Go.RowKit Go.Shelf
attribute [local go_sem] Oper.semAt_some
theorem z0m(F:Fence)(n:Nat)(hF:F.fn 167)(hro:F.round=none)(a:Option Addr)(len cap:Nat)(w:World):
  CallsIn F n prog 167 #[.slice a len cap,.int .i64 20] w fun e w'=>e=.returned (.func (.func 200) #[] #[.pointer (some ⟨w.heap.size,0,none⟩),.pointer (some ⟨w.heap.size+1,0,none⟩)])∧w'=(w.alloc (.cells #[.slice a len cap] 35)).alloc (.cells #[.int .i64 20] 3):=by
 refine callsIn_of_wp func167 rfl hF ?_ hro;simp only[ntmps167,List.size_toArray,List.length_cons,List.length_nil,Nat.reduceAdd,Nat.reduceSub,Array.replicate_succ,Array.replicate_zero,List.push_toArray,List.append_toArray,List.nil_append,List.cons_append]
 gi_wp2
 go_ret;exact⟨rfl,rfl⟩
theorem zt3(F:Fence)(n:Nat)(hF:F.fn 200)(hro:F.round=none)(hn:1≤n)(l Bs Bn b off len cap:Nat)(hlen:len≤1000)(hcap:len≤cap)(J:Nat→World→Prop)(hd:∀k V,J k V→J k V.drew)
  (hY:∀k V,k<zc6 len 20→J k V→YieldAt F (n - 1) prog l #[.slice (some ⟨b,off+20*k,none⟩) (zfk len 20 k) (zfk len 20 k)] V fun e V'=>e=.returned (.bool true)∧J (k+1) V'∧KeepsB Bs Bn V V')
  (W:World) (hBs:Boxed W Bs 35 (.slice (some ⟨b,off,none⟩) len cap)) (hBn:Boxed W Bn 3 (.int .i64 20)) (h0:J 0 W):
  CallsIn F n prog 200 #[.func (.yield l) #[] #[],.pointer (some ⟨Bs,0,none⟩),.pointer (some ⟨Bn,0,none⟩)] W fun e W'=>(∃v,e=.returned v)∧J (zc6 len 20) W':=by
 have hN:zc6 len 20=(len+19)/20:=rfl;have A0:(len:Int)≤(cap:Int):=by omega
 refine callsIn_of_wp func200 rfl hF ?_ hro;simp only[ntmps200,List.size_toArray,List.length_cons,List.length_nil,Nat.reduceAdd,Nat.reduceSub,Array.replicate_succ,Array.replicate_zero,List.push_toArray,List.append_toArray,List.nil_append,List.cons_append]
 gi_wp2
 gi_loopw [4] (fun i wr=>∃k:Nat,k≤zc6 len 20∧i=.int .i64 ((20*k:Nat):Int)∧J k wr∧KeepsB Bs Bn W wr) (fun i _=>len+20 - (intOf i).toNat)
 case atStart=>exact⟨0,Nat.zero_le _,rfl,h0,KeepsB.refl _ _ _⟩
 case round=>
  obtain⟨k,hk,rfl,L,C⟩:=hrel;have c1:=(C.boxed (.inl rfl) hBs).cell;have c2:=(C.boxed (.inr rfl) hBn).cell;by_cases hlt:20*k<len
  ·have I:((20*k:Nat):Int)<(len:Int):=by omega
   have U:(0:Int)≤((20*k:Nat):Int):=by omega
   obtain⟨fn,A1,assign,body,R,X⟩:=hY k wr.drew (by omega) (hd _ _ L);have M:k+1≤zc6 len 20:=by omega
   obtain⟨pl,D⟩:∃pl,pl=zfk len 20 k:=⟨_,rfl⟩;rw[←D]at R;have A:pl=if 20≤len - 20*k then 20 else len - 20*k:=by rw[D,zfk,Nat.mul_comm]
   obtain⟨j,Q⟩:∃j,j=20*k:=⟨_,rfl⟩;rw[←Q]at hlt I U R A⊢;have Y:=zab Q;have A3:¬cap=j:=by omega
   have A2:(j:Int)≤(cap:Int):=by omega
   clear Q D;by_cases hm:20≤len - j
   ·have O:pl=20:=by rw[A];split<;>omega
    have S:¬(((len - j:Nat):Int)<20):=by omega
    subst O;clear A;have N:(j:Int)+((len - j:Nat):Int)=(len:Int):=by omega
    gi_wp2
    gi_region
    all_goals
     gi_wp2
     refine X.mono ?_;rintro e a ⟨rfl,E,K⟩;have B:=KeepsB.trans _ _ _ C.drew K;have Z:=(KeepsB.boxed B (.inr rfl) hBn).cell
     gi_wp2
     go_roundw
     case rel=>exact⟨k+1,M,by rw[Y.o];go_num,E,B⟩
     case measure=>simp[intOf];omega
   ·have O:pl=len - j:=by rw[A];split<;>omega
    have S:((len - j:Nat):Int)<20:=by omega
    subst O;clear A;have N:(j:Int)+((len - j:Nat):Int)=(len:Int):=by omega
    gi_wp2
    gi_region
    all_goals
     gi_wp2
     refine X.mono ?_;rintro e a ⟨rfl,E,K⟩;have B:=KeepsB.trans _ _ _ C.drew K;have Z:=(KeepsB.boxed B (.inr rfl) hBn).cell
     gi_wp2
     go_roundw
     case rel=>exact⟨k+1,M,by rw[Y.o];go_num,E,B⟩
     case measure=>simp[intOf];omega
  ·have I:¬(((20*k:Nat):Int)<(len:Int)):=by omega
   have e:k=zc6 len 20:=by omega
   subst e
   gi_wp2
   go_end0
   exact⟨⟨_,rfl⟩,L⟩
open Go.RowKit Go.Shelf
attribute [local go_sem] Oper.semAt_some
theorem z0n(F:Fence)(n:Nat)(hF:F.fn 168)(hro:F.round=none)(a:Option Addr)(len cap:Nat)(w:World):
  CallsIn F n prog 168 #[.slice a len cap,.int .i64 10] w fun e w'=>e=.returned (.func (.func 201) #[] #[.pointer (some ⟨w.heap.size,0,none⟩),.pointer (some ⟨w.heap.size+1,0,none⟩)])∧w'=(w.alloc (.cells #[.slice a len cap] 34)).alloc (.cells #[.int .i64 10] 3):=by
 refine callsIn_of_wp func168 rfl hF ?_ hro;simp only[ntmps168,List.size_toArray,List.length_cons,List.length_nil,Nat.reduceAdd,Nat.reduceSub,Array.replicate_succ,Array.replicate_zero,List.push_toArray,List.append_toArray,List.nil_append,List.cons_append]
 gi_wp2
 go_ret;exact⟨rfl,rfl⟩
theorem zt4(F:Fence)(n:Nat)(hF:F.fn 201)(hro:F.round=none)(hn:1≤n)(l Bs Bn b off len cap:Nat)(hlen:len≤1000)(hcap:len≤cap)(J:Nat→World→Prop)(hd:∀k V,J k V→J k V.drew)
  (hY:∀k V,k<zc6 len 10→J k V→YieldAt F (n - 1) prog l #[.slice (some ⟨b,off+10*k*2,none⟩) (zfk len 10 k) (zfk len 10 k)] V fun e V'=>e=.returned (.bool true)∧J (k+1) V'∧KeepsB Bs Bn V V')
  (W:World) (hBs:Boxed W Bs 34 (.slice (some ⟨b,off,none⟩) len cap)) (hBn:Boxed W Bn 3 (.int .i64 10)) (h0:J 0 W):
  CallsIn F n prog 201 #[.func (.yield l) #[] #[],.pointer (some ⟨Bs,0,none⟩),.pointer (some ⟨Bn,0,none⟩)] W fun e W'=>(∃v,e=.returned v)∧J (zc6 len 10) W':=by
 have hN:zc6 len 10=(len+9)/10:=rfl;have A0:(len:Int)≤(cap:Int):=by omega
 refine callsIn_of_wp func201 rfl hF ?_ hro;simp only[ntmps201,List.size_toArray,List.length_cons,List.length_nil,Nat.reduceAdd,Nat.reduceSub,Array.replicate_succ,Array.replicate_zero,List.push_toArray,List.append_toArray,List.nil_append,List.cons_append]
 gi_wp2
 gi_loopw [4] (fun i wr=>∃k:Nat,k≤zc6 len 10∧i=.int .i64 ((10*k:Nat):Int)∧J k wr∧KeepsB Bs Bn W wr) (fun i _=>len+10 - (intOf i).toNat)
 case atStart=>exact⟨0,Nat.zero_le _,rfl,h0,KeepsB.refl _ _ _⟩
 case round=>
  obtain⟨k,hk,rfl,L,C⟩:=hrel;have c1:=(C.boxed (.inl rfl) hBs).cell;have c2:=(C.boxed (.inr rfl) hBn).cell;by_cases hlt:10*k<len
  ·have I:((10*k:Nat):Int)<(len:Int):=by omega
   have U:(0:Int)≤((10*k:Nat):Int):=by omega
   obtain⟨fn,A1,assign,body,R,X⟩:=hY k wr.drew (by omega) (hd _ _ L);have M:k+1≤zc6 len 10:=by omega
   obtain⟨pl,D⟩:∃pl,pl=zfk len 10 k:=⟨_,rfl⟩;rw[←D]at R;have A:pl=if 10≤len - 10*k then 10 else len - 10*k:=by rw[D,zfk,Nat.mul_comm]
   obtain⟨j,Q⟩:∃j,j=10*k:=⟨_,rfl⟩;rw[←Q]at hlt I U R A⊢;have Y:=zab Q;have A3:¬cap=j:=by omega
   have A2:(j:Int)≤(cap:Int):=by omega
   clear Q D;by_cases hm:10≤len - j
   ·have O:pl=10:=by rw[A];split<;>omega
    have S:¬(((len - j:Nat):Int)<10):=by omega
    subst O;clear A;have N:(j:Int)+((len - j:Nat):Int)=(len:Int):=by omega
    gi_wp2
    gi_region
    all_goals
     gi_wp2
     refine X.mono ?_;rintro e a ⟨rfl,E,K⟩;have B:=KeepsB.trans _ _ _ C.drew K;have Z:=(KeepsB.boxed B (.inr rfl) hBn).cell
     gi_wp2
     go_roundw
     case rel=>exact⟨k+1,M,by rw[Y.o];go_num,E,B⟩
     case measure=>simp[intOf];omega
   ·have O:pl=len - j:=by rw[A];split<;>omega
    have S:((len - j:Nat):Int)<10:=by omega
    subst O;clear A;have N:(j:Int)+((len - j:Nat):Int)=(len:Int):=by omega
    gi_wp2
    gi_region
    all_goals
     gi_wp2
     refine X.mono ?_;rintro e a ⟨rfl,E,K⟩;have B:=KeepsB.trans _ _ _ C.drew K;have Z:=(KeepsB.boxed B (.inr rfl) hBn).cell
     gi_wp2
     go_roundw
     case rel=>exact⟨k+1,M,by rw[Y.o];go_num,E,B⟩
     case measure=>simp[intOf];omega
  ·have I:¬(((10*k:Nat):Int)<(len:Int)):=by omega
   have e:k=zc6 len 10:=by omega
   subst e
   gi_wp2
   go_end0
   exact⟨⟨_,rfl⟩,L⟩
open Go.RowKit Go.Shelf
attribute [local go_sem] Oper.semAt_some
theorem zt5(F:Fence)(n:Nat)(hF:F.fn 200)(hro:F.round=none)(l Bs Bn cap:Nat)(a:Option Addr)(J:Nat→World→Prop)(W:World)(hBs:Boxed W Bs 35 (.slice a 0 cap))(h0:J 0 W):
  CallsIn F n prog 200 #[.func (.yield l) #[] #[],.pointer (some ⟨Bs,0,none⟩),.pointer (some ⟨Bn,0,none⟩)] W fun e W'=>(∃v,e=.returned v)∧J 0 W':=by
 have c1:=hBs.cell;refine callsIn_of_wp func200 rfl hF ?_ hro;simp only[ntmps200,List.size_toArray,List.length_cons,List.length_nil,Nat.reduceAdd,Nat.reduceSub,Array.replicate_succ,Array.replicate_zero,List.push_toArray,List.append_toArray,List.nil_append,List.cons_append]
 gi_wp2
 gi_loopw [4] (fun i wr=>i=.int .i64 0∧J 0 wr∧wr=W) (fun _ _=>0)
 case atStart=>exact⟨rfl,h0,rfl⟩
 case round=>
  obtain⟨rfl,A,rfl⟩:=hrel
  gi_wp2
  go_end0
  exact⟨⟨_,rfl⟩,A⟩
theorem zpo(F:Fence)(n:Nat)(hF:F.fn 200)(hro:F.round=none)(hn:1≤n)(Bs Bn len cap:Nat)(a:Option Addr)(hlen:len≤1000)(hcap:0<len→len≤cap)(ha:0<len→∃b off,a=some ⟨b,off,none⟩)(w:World)(hBs:Boxed w Bs 35 (.slice a len cap))(hBn:Boxed w Bn 3 (.int .i64 20)):
  zi7 F n prog 200 #[.pointer (some ⟨Bs,0,none⟩),.pointer (some ⟨Bn,0,none⟩)] (fun k=>#[.slice (a.map fun x=>⟨x.block,x.off+20*k,none⟩) (zfk len 20 k) (zfk len 20 k)]) (zc6 len 20) (KeepsB Bs Bn) w:=by
 intro l J W B hd D C;have A:Boxed W Bs 35 (.slice a len cap):=zad B hBs.lt hBs;have E:Boxed W Bn 3 (.int .i64 20):=zad B hBn.lt hBn;rcases Nat.eq_zero_or_pos len with rfl|hp
 ·exact zt5 F n hF hro l Bs Bn cap a J W A C
 ·obtain⟨b,off,rfl⟩:=ha hp;exact zt3 F n hF hro hn l Bs Bn b off len cap hlen (hcap hp) J hd D W A E C
theorem zt6(F:Fence)(n:Nat)(hF:F.fn 201)(hro:F.round=none)(l Bs Bn cap:Nat)(a:Option Addr)(J:Nat→World→Prop)(W:World)(hBs:Boxed W Bs 34 (.slice a 0 cap))(h0:J 0 W):
  CallsIn F n prog 201 #[.func (.yield l) #[] #[],.pointer (some ⟨Bs,0,none⟩),.pointer (some ⟨Bn,0,none⟩)] W fun e W'=>(∃v,e=.returned v)∧J 0 W':=by
 have c1:=hBs.cell;refine callsIn_of_wp func201 rfl hF ?_ hro;simp only[ntmps201,List.size_toArray,List.length_cons,List.length_nil,Nat.reduceAdd,Nat.reduceSub,Array.replicate_succ,Array.replicate_zero,List.push_toArray,List.append_toArray,List.nil_append,List.cons_append]
 gi_wp2
 gi_loopw [4] (fun i wr=>i=.int .i64 0∧J 0 wr∧wr=W) (fun _ _=>0)
 case atStart=>exact⟨rfl,h0,rfl⟩
 case round=>
  obtain⟨rfl,A,rfl⟩:=hrel
  gi_wp2
  go_end0
  exact⟨⟨_,rfl⟩,A⟩
theorem zpp(F:Fence)(n:Nat)(hF:F.fn 201)(hro:F.round=none)(hn:1≤n)(Bs Bn len cap:Nat)(a:Option Addr)(hlen:len≤1000)(hcap:0<len→len≤cap)(ha:0<len→∃b off,a=some ⟨b,off,none⟩)(w:World)(hBs:Boxed w Bs 34 (.slice a len cap))(hBn:Boxed w Bn 3 (.int .i64 10)):
  zi7 F n prog 201 #[.pointer (some ⟨Bs,0,none⟩),.pointer (some ⟨Bn,0,none⟩)] (fun k=>#[.slice (a.map fun x=>⟨x.block,x.off+10*k*2,none⟩) (zfk len 10 k) (zfk len 10 k)]) (zc6 len 10) (KeepsB Bs Bn) w:=by
 intro l J W B hd D C;have A:Boxed W Bs 34 (.slice a len cap):=zad B hBs.lt hBs;have E:Boxed W Bn 3 (.int .i64 10):=zad B hBn.lt hBn;rcases Nat.eq_zero_or_pos len with rfl|hp
 ·exact zt6 F n hF hro l Bs Bn cap a J W A C
 ·obtain⟨b,off,rfl⟩:=ha hp;exact zt4 F n hF hro hn l Bs Bn b off len cap hlen (hcap hp) J hd D W A E C
