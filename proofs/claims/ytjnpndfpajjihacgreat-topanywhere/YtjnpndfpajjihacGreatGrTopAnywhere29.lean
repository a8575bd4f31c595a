/-
  
-/
import Derived.Test.YtjnpndfpajjihacGreatGrTopAnywhere28
import Derived.Test.YtjnpndfpajjihacGreatGrTopAnywhere16
set_option maxRecDepth 100000
set_option maxHeartbeats 40000000
namespace Go.Proofs.YtjnpndfpajjihacGreat
open Go.RowKit
theorem zqj(b:Int)(m:List (Int×ByteArray)):zgd b m=(zai b m).map fun s=>(b,s):=by
 induction m with
 |nil=>rfl
 |cons x m ih=>
  rw[zgd,zai];by_cases e:x.1=b
  ·subst e;simp
  ·rw[if_neg e,if_neg e,ih]
theorem zqk(b:Int)(m:List (Int×ByteArray)):(zai b m).isSome=zaw (blksOf m) b:=by
 induction m with
 |nil=>rfl
 |cons x m ih=>
  rw[zai];by_cases e:x.1=b
  ·subst e;simp[blksOf,zaw]
  ·rw[if_neg e,ih];simp[blksOf,zaw,e]
theorem zwj{l:List Tx}{L:Int→Int}{b:Int}:∀{K:Nat},(∀j,j<K→L b≠(j:Int))→zfr l L K b=none:=by
 intro K
 induction K with
 |zero=>intro _;rfl
 |succ K ih=>
  intro h;have A:=ih fun j hj=>h j (by omega);have B:=h K (by omega);rw[zfr,zg1];split
  ·rw[if_neg B];exact A
  ·exact A
theorem zs0{l:List Tx}{L L':Int→Int}{b:Int}(h:L b=L' b)(K:Nat):zfr l L K b=zfr l L' K b:=by
 induction K with
 |zero=>rfl
 |succ K ih=>rw[zfr,zfr,zg1,zg1,h,ih]
theorem zql(l:List Tx)(b:Int):∀K,K≤l.length→zfr l (lastK l K) K b=(newestF (l.take K) b).map fun s=>(b,s):=by
 intro K
 induction K with
 |zero=>intro _;rfl
 |succ K ih=>
  intro hK;have D:l[K]?=some (l.getD K txz):=z1y (by omega);have A:lastK l (K+1) b=if zwf (l.getD K txz) b=true then(K:Int) else lastK l K b:=rfl
  rw[zkc D,zfr,zg1,zqj,zcg];generalize l.getD K txz=t at *;have B:=zqk b t.info;by_cases hn:zwf t b=true
  ·rw[if_pos hn]at A;have C:zfr l (lastK l (K+1)) K b=none:=zwj fun j hj e=>by rw[A]at e;omega
   cases hx:zai b t.info with
   |some s=>simp[A]
   |none=>
    rw[hx]at B
    have E:zaw t.rev b=true:=by
     unfold zwf at hn;rw[←B]at hn
     simpa using hn
    simp[C,E]
  ·rw[if_neg hn]at A;have C:=(zs0 (l:=l) A K).trans (ih (by omega));unfold zwf at hn;simp only[Bool.or_eq_true,not_or,Bool.not_eq_true]at hn
   cases hx:zai b t.info with
   |some s=>rw[hx,hn.2]at B;cases B
   |none=>simp[C,hn.1]
theorem zly(l:List Tx)(b:Int):zfr l (lastK l l.length) l.length b=(newestF l b).map fun s=>(b,s):=by
 have:=zql l b l.length (Nat.le_refl _)
 rwa [List.take_length]at this
theorem zxt(a:Option Addr)(c:Nat)(l:List Tx)(w:World)(h:SegTx w a l)(hn:l.length*128≤140737488355328)(hf:∀t∈l,Few t):
  Calls Tryz.prog 78 #[.slice a l.length c] w fun e w'=>∃v',e=.returned v'∧w'.ownsRow w.heap.size 84 2 v' (newestL l).length (cellsC (newestL l))∧Below w.heap.size w w':=by
 go_enter Tryz.func78,Tryz.ntmps78;go_wp2_with fail;refine(zk1 a c l _ h hn hf).mono ?_;rintro e F ⟨B,n,rfl,Q,hB,N⟩;have U:=zaa Q;have L:=zaa N;clear h hf Q N;go_wp2
 go_loopw [4,10] (fun v i wr=>∃k:Nat,k≤12∧i=.int .i64 k∧Hid (wr.ownsRow F.heap.size 84 2 v (asN (newestF l) k).length (cellsC (asN (newestF l) k)))∧Hid (Below F.heap.size F wr)) (fun _ i _=>12 - (intOf i).toNat)
 case atStart=>exact⟨0,Nat.zero_le _,rfl,World.ownsRow_nil _ _ _ _,Below.refl _ _⟩
 case round=>
  obtain⟨k,hk,rfl,A,D⟩:=hrel;by_cases hlt:k<12
  ·have A0:(k:Int)<12:=by omega
   have hq:=zem (newestF l) k;have K:=zaa (ze9 (newestF l) k);have O:=zaa (U.o.below D.o);have C:(Lit.int .i64 (k:Int)).wf=true:=wfI (by omega) (by omega);generalize asN (newestF l) k=q at *
   cases ht:newestF l (k:Int) with
   |none=>
    have E:Hid (asN (newestF l) (k+1)=q):=by rw[Hid,K.o,zus,ht];simp
    have S:=O.o.lookNone (k:Int) C (by rw[zly,ht];rfl);clear K C;go_wp2
    go_roundw
    case rel=>exact⟨k+1,by omega,by go_num,by rw[E.o];exact zah A.o (zab _ _),zae D.o (zab _ _)⟩
    case measure=>simp[intOf];omega
   |some u=>
    have E:Hid (asN (newestF l) (k+1)=q++[((k:Int),u)]):=by rw[Hid,K.o,zus,ht];rfl
    have S:=O.o.lookSome (k:Int) C (a:=(k:Int)) (s:=u) (by rw[zly,ht];rfl);have M:=zaa (zah A.o (zab wr (.cells #[.int .i64 (k:Int),.string u] 84)));have I:=zaa (zae D.o (zab wr (.cells #[.int .i64 (k:Int),.string u] 84)));clear K C A;go_wp2_with (at_builtin;refine zih _ F F.heap.size rfl _ _ rfl _ q.length (cellsC q) rfl (zah M.o (zab _ _)) (some ⟨wr.heap.size+1,0,none⟩) 1 [((k:Int),u)] rfl (.inr ⟨wr.heap.size+1,0,rfl,by simp,fun i hi=>?_⟩) (by simp;omega) (Nat.le_trans I.o.size (by simp)) (zae I.o (zab _ _)) ?_)
    ·have:i=0:=by simpa using hi
     subst this;exact⟨by simp[go_sem],by simp[go_sem]⟩
    ·intro v' w' J R;clear M I;go_wp2
     go_roundw
     case rel=>exact⟨k+1,by omega,by go_num,by rw[E.o,List.length_append,zdp];exact J,R⟩
     case measure=>simp[intOf];omega
  ·have e:k=12:=by omega
   subst e;go_wp2;go_ret;exact⟨_,rfl,zba A.o L.o.size,zae L.o D.o⟩
