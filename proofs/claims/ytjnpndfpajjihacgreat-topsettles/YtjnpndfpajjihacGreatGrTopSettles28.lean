/-
  
-/
import Derived.Test.YtjnpndfpajjihacGreatGrTopSettles27
import Derived.Test.YtjnpndfpajjihacGreatGrTopSettles15
set_option maxRecDepth 100000
set_option maxHeartbeats 40000000
namespace Go.Proofs.YtjnpndfpajjihacGreat
open Go.RowKit
theorem zp9(b:Int)(m:List (Int×ByteArray)):zgg b m=(zai b m).map fun s=>(b,s):=by
 induction m with
 |nil=>rfl
 |cons x m ih=>
  rw[zgg,zai];by_cases e:x.1=b
  ·subst e;simp
  ·rw[if_neg e,if_neg e,ih]
theorem zqa(b:Int)(m:List (Int×ByteArray)):(zai b m).isSome=za7 (blksOf m) b:=by
 induction m with
 |nil=>rfl
 |cons x m ih=>
  rw[zai];by_cases e:x.1=b
  ·subst e;simp[blksOf,za7]
  ·rw[if_neg e,ih];simp[blksOf,za7,e]
theorem zwh{l:List Tx}{L:Int→Int}{b:Int}:∀{K:Nat},(∀j,j<K→L b≠(j:Int))→zfw l L K b=none:=by
 intro K
 induction K with
 |zero=>intro _;rfl
 |succ K ih=>
  intro h;have A:=ih fun j hj=>h j (by omega);have B:=h K (by omega);rw[zfw,zg5];split
  ·rw[if_neg B];exact A
  ·exact A
theorem zsy{l:List Tx}{L L':Int→Int}{b:Int}(h:L b=L' b)(K:Nat):zfw l L K b=zfw l L' K b:=by
 induction K with
 |zero=>rfl
 |succ K ih=>rw[zfw,zfw,zg5,zg5,h,ih]
theorem zqb(l:List Tx)(b:Int):∀K,K≤l.length→zfw l (lastK l K) K b=(newestF (l.take K) b).map fun s=>(b,s):=by
 intro K
 induction K with
 |zero=>intro _;rfl
 |succ K ih=>
  intro hK;have E:l[K]?=some (l.getD K txz):=z1l (by omega);have A:lastK l (K+1) b=if zwd (l.getD K txz) b=true then(K:Int) else lastK l K b:=rfl
  rw[zj7 E,zfw,zg5,zp9,zgn];generalize l.getD K txz=t at *;have B:=zqa b t.info;by_cases hn:zwd t b=true
  ·rw[if_pos hn]at A;have C:zfw l (lastK l (K+1)) K b=none:=zwh fun j hj e=>by rw[A]at e;omega
   cases hx:zai b t.info with
   |some s=>simp[A]
   |none=>
    rw[hx]at B
    have D:za7 t.rev b=true:=by
     unfold zwd at hn;rw[←B]at hn
     simpa using hn
    simp[C,D]
  ·rw[if_neg hn]at A;have C:=(zsy (l:=l) A K).trans (ih (by omega));unfold zwd at hn;simp only[Bool.or_eq_true,not_or,Bool.not_eq_true]at hn
   cases hx:zai b t.info with
   |some s=>rw[hx,hn.2]at B;cases B
   |none=>simp[C,hn.1]
theorem zlp(l:List Tx)(b:Int):zfw l (lastK l l.length) l.length b=(newestF l b).map fun s=>(b,s):=by
 have:=zqb l b l.length (Nat.le_refl _)
 rwa [List.take_length]at this
theorem zxs(a:Option Addr)(c:Nat)(l:List Tx)(w:World)(h:SegTx w a l)(hn:l.length*128≤140737488355328)(hf:∀t∈l,Few t):
  Calls Tryz.prog 78 #[.slice a l.length c] w fun e w'=>∃v',e=.returned v'∧w'.ownsRow w.heap.size 84 2 v' (newestL l).length (cellsC (newestL l))∧Below w.heap.size w w':=by
 go_enter Tryz.func78,Tryz.ntmps78;go_wp2_with fail;refine(zkw a c l _ h hn hf).mono ?_;rintro e I ⟨B,n,rfl,R,hB,L⟩;have U:=zaa R;have N:=zaa L;clear h hf R L;go_wp2
 go_loopw [4,10] (fun v i wr=>∃k:Nat,k≤12∧i=.int .i64 k∧Hid (wr.ownsRow I.heap.size 84 2 v (asN (newestF l) k).length (cellsC (asN (newestF l) k)))∧Hid (Below I.heap.size I wr)) (fun _ i _=>12 - (intOf i).toNat)
 case atStart=>exact⟨0,Nat.zero_le _,rfl,World.ownsRow_nil _ _ _ _,Below.refl _ _⟩
 case round=>
  obtain⟨k,hk,rfl,A,D⟩:=hrel;by_cases hlt:k<12
  ·have A0:(k:Int)<12:=by omega
   have hq:=zeu (newestF l) k;have J:=zaa (zep (newestF l) k);have O:=zaa (U.o.below D.o);have C:(Lit.int .i64 (k:Int)).wf=true:=wfI (by omega) (by omega);generalize asN (newestF l) k=q at *
   cases ht:newestF l (k:Int) with
   |none=>
    have E:Hid (asN (newestF l) (k+1)=q):=by rw[Hid,J.o,zpm,ht];simp
    have Q:=O.o.lookNone (k:Int) C (by rw[zlp,ht];rfl);clear J C;go_wp2
    go_roundw
    case rel=>exact⟨k+1,by omega,by go_num,by rw[E.o];exact zah A.o (zab _ _),zae D.o (zab _ _)⟩
    case measure=>simp[intOf];omega
   |some u=>
    have E:Hid (asN (newestF l) (k+1)=q++[((k:Int),u)]):=by rw[Hid,J.o,zpm,ht];rfl
    have Q:=O.o.lookSome (k:Int) C (a:=(k:Int)) (s:=u) (by rw[zlp,ht];rfl);have M:=zaa (zah A.o (zab wr (.cells #[.int .i64 (k:Int),.string u] 84)));have F:=zaa (zae D.o (zab wr (.cells #[.int .i64 (k:Int),.string u] 84)));clear J C A;go_wp2_with (at_builtin;refine zig _ I I.heap.size rfl _ _ rfl _ q.length (cellsC q) rfl (zah M.o (zab _ _)) (some ⟨wr.heap.size+1,0,none⟩) 1 [((k:Int),u)] rfl (.inr ⟨wr.heap.size+1,0,rfl,by simp,fun i hi=>?_⟩) (by simp;omega) (Nat.le_trans F.o.size (by simp)) (zae F.o (zab _ _)) ?_)
    ·have:i=0:=by simpa using hi
     subst this;exact⟨by simp[go_sem],by simp[go_sem]⟩
    ·intro v' w' K S;clear M F;go_wp2
     go_roundw
     case rel=>exact⟨k+1,by omega,by go_num,by rw[E.o,List.length_append,zdr];exact K,S⟩
     case measure=>simp[intOf];omega
  ·have e:k=12:=by omega
   subst e;go_wp2;go_ret;exact⟨_,rfl,za8 A.o N.o.size,zae N.o D.o⟩
