/-
  
-/
import Derived.Test.YtjnpndfpajjihacGreatGrTopOrdered27
import Derived.Test.YtjnpndfpajjihacGreatGrTopOrdered15
set_option maxRecDepth 100000
set_option maxHeartbeats 40000000
namespace Go.Proofs.YtjnpndfpajjihacGreat
open Go.RowKit
theorem zqh(b:Int)(m:List (Int×ByteArray)):zgf b m=(zai b m).map fun s=>(b,s):=by
 induction m with
 |nil=>rfl
 |cons x m ih=>
  rw[zgf,zai];by_cases e:x.1=b
  ·subst e;simp
  ·rw[if_neg e,if_neg e,ih]
theorem zqi(b:Int)(m:List (Int×ByteArray)):(zai b m).isSome=zay (blksOf m) b:=by
 induction m with
 |nil=>rfl
 |cons x m ih=>
  rw[zai];by_cases e:x.1=b
  ·subst e;simp[blksOf,zay]
  ·rw[if_neg e,ih];simp[blksOf,zay,e]
theorem zwk{l:List Tx}{L:Int→Int}{b:Int}:∀{K:Nat},(∀j,j<K→L b≠(j:Int))→zfu l L K b=none:=by
 intro K
 induction K with
 |zero=>intro _;rfl
 |succ K ih=>
  intro h;have A:=ih fun j hj=>h j (by omega);have B:=h K (by omega);rw[zfu,zg4];split
  ·rw[if_neg B];exact A
  ·exact A
theorem zs3{l:List Tx}{L L':Int→Int}{b:Int}(h:L b=L' b)(K:Nat):zfu l L K b=zfu l L' K b:=by
 induction K with
 |zero=>rfl
 |succ K ih=>rw[zfu,zfu,zg4,zg4,h,ih]
theorem zqj(l:List Tx)(b:Int):∀K,K≤l.length→zfu l (lastK l K) K b=(newestF (l.take K) b).map fun s=>(b,s):=by
 intro K
 induction K with
 |zero=>intro _;rfl
 |succ K ih=>
  intro hK;have E:l[K]?=some (l.getD K txz):=z1u (by omega);have A:lastK l (K+1) b=if zwg (l.getD K txz) b=true then(K:Int) else lastK l K b:=rfl
  rw[zkd E,zfu,zg4,zqh,zcu];generalize l.getD K txz=t at *;have B:=zqi b t.info;by_cases hn:zwg t b=true
  ·rw[if_pos hn]at A;have C:zfu l (lastK l (K+1)) K b=none:=zwk fun j hj e=>by rw[A]at e;omega
   cases hx:zai b t.info with
   |some s=>simp[A]
   |none=>
    rw[hx]at B
    have D:zay t.rev b=true:=by
     unfold zwg at hn;rw[←B]at hn
     simpa using hn
    simp[C,D]
  ·rw[if_neg hn]at A;have C:=(zs3 (l:=l) A K).trans (ih (by omega));unfold zwg at hn;simp only[Bool.or_eq_true,not_or,Bool.not_eq_true]at hn
   cases hx:zai b t.info with
   |some s=>rw[hx,hn.2]at B;cases B
   |none=>simp[C,hn.1]
theorem zlz(l:List Tx)(b:Int):zfu l (lastK l l.length) l.length b=(newestF l b).map fun s=>(b,s):=by
 have:=zqj l b l.length (Nat.le_refl _)
 rwa [List.take_length]at this
theorem zxv(a:Option Addr)(c:Nat)(l:List Tx)(w:World)(h:SegTx w a l)(hn:l.length*128≤140737488355328)(hf:∀t∈l,Few t):
  Calls Tryz.prog 78 #[.slice a l.length c] w fun e w'=>∃v',e=.returned v'∧w'.ownsRow w.heap.size 84 2 v' (newestL l).length (cellsC (newestL l))∧Below w.heap.size w w':=by
 go_enter Tryz.func78,Tryz.ntmps78;go_wp2_with fail;refine(zk3 a c l _ h hn hf).mono ?_;rintro e I ⟨B,n,rfl,Q,hB,M⟩;have U:=zab Q;have L:=zab M;clear h hf Q M;go_wp2
 go_loopw [4,10] (fun v i wr=>∃k:Nat,k≤12∧i=.int .i64 k∧Hid (wr.ownsRow I.heap.size 84 2 v (asN (newestF l) k).length (cellsC (asN (newestF l) k)))∧Hid (Below I.heap.size I wr)) (fun _ i _=>12 - (intOf i).toNat)
 case atStart=>exact⟨0,Nat.zero_le _,rfl,World.ownsRow_nil _ _ _ _,Below.refl _ _⟩
 case round=>
  obtain⟨k,hk,rfl,A,C⟩:=hrel;by_cases hlt:k<12
  ·have A0:(k:Int)<12:=by omega
   have hq:=zej (newestF l) k;have J:=zab (zee (newestF l) k);have O:=zab (U.o.below C.o);have D:(Lit.int .i64 (k:Int)).wf=true:=wfI (by omega) (by omega);generalize asN (newestF l) k=q at *
   cases ht:newestF l (k:Int) with
   |none=>
    have E:Hid (asN (newestF l) (k+1)=q):=by rw[Hid,J.o,zpw,ht];simp
    have S:=O.o.lookNone (k:Int) D (by rw[zlz,ht];rfl);clear J D;go_wp2
    go_roundw
    case rel=>exact⟨k+1,by omega,by go_num,by rw[E.o];exact zah A.o (zaa _ _),zae C.o (zaa _ _)⟩
    case measure=>simp[intOf];omega
   |some u=>
    have E:Hid (asN (newestF l) (k+1)=q++[((k:Int),u)]):=by rw[Hid,J.o,zpw,ht];rfl
    have S:=O.o.lookSome (k:Int) D (a:=(k:Int)) (s:=u) (by rw[zlz,ht];rfl);have N:=zab (zah A.o (zaa wr (.cells #[.int .i64 (k:Int),.string u] 84)));have F:=zab (zae C.o (zaa wr (.cells #[.int .i64 (k:Int),.string u] 84)));clear J D A;go_wp2_with (at_builtin;refine zif _ I I.heap.size rfl _ _ rfl _ q.length (cellsC q) rfl (zah N.o (zaa _ _)) (some ⟨wr.heap.size+1,0,none⟩) 1 [((k:Int),u)] rfl (.inr ⟨wr.heap.size+1,0,rfl,by simp,fun i hi=>?_⟩) (by simp;omega) (Nat.le_trans F.o.size (by simp)) (zae F.o (zaa _ _)) ?_)
    ·have:i=0:=by simpa using hi
     subst this;exact⟨by simp[go_sem],by simp[go_sem]⟩
    ·intro v' w' K R;clear N F;go_wp2
     go_roundw
     case rel=>exact⟨k+1,by omega,by go_num,by rw[E.o,List.length_append,zc3];exact K,R⟩
     case measure=>simp[intOf];omega
  ·have e:k=12:=by omega
   subst e;go_wp2;go_ret;exact⟨_,rfl,za6 A.o L.o.size,zae L.o C.o⟩
