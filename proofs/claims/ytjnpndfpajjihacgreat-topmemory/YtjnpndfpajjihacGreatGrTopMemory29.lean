/-
  
-/
import Derived.Test.YtjnpndfpajjihacGreatGrTopMemory28
import Derived.Test.YtjnpndfpajjihacGreatGrTopMemory16
set_option maxRecDepth 100000
set_option maxHeartbeats 40000000
namespace Go.Proofs.YtjnpndfpajjihacGreat
open Go.RowKit
theorem zpu (b:Int)(m:List (Int×ByteArray)):zft b m=(zas b m).map fun s=>(b,s):=by
 induction m with
 |nil=>rfl
 |cons x m ih=>
  rw[zft,zas];by_cases e:x.1=b
  ·subst e;simp
  ·rw[if_neg e,if_neg e,ih]
theorem zpv (b:Int)(m:List (Int×ByteArray)):(zas b m).isSome=zbm (blksOf m) b:=by
 induction m with
 |nil=>rfl
 |cons x m ih=>
  rw[zas];by_cases e:x.1=b
  ·subst e;simp[blksOf,zbm]
  ·rw[if_neg e,ih]
   simp[blksOf,zbm,e]
theorem zvq {l:List Tx}{L:Int→Int}{b:Int}:∀{K:Nat},(∀j,j<K→L b≠(j:Int))→zfe l L K b=none:=by
 intro K
 induction K with
 |zero=>intro _;rfl
 |succ K ih=>
  intro h;have h1:=ih fun j hj=>h j (by omega);have h2:=h K (by omega);rw[zfe,zgo];split
  ·rw[if_neg h2];exact h1
  ·exact h1
theorem zsg {l:List Tx}{L L':Int→Int}{b:Int}(h:L b=L' b)(K:Nat):zfe l L K b=zfe l L' K b:=by
 induction K with
 |zero=>rfl
 |succ K ih=>rw[zfe,zfe,zgo,zgo,h,ih]
theorem zpw (l:List Tx)(b:Int):∀K,K≤l.length→zfe l (lastK l K) K b=(newestF (l.take K) b).map fun s=>(b,s):=by
 intro K
 induction K with
 |zero=>intro _;rfl
 |succ K ih=>
  intro hK;have ht:l[K]?=some (l.getD K txz):=z0s (by omega);have hl:lastK l (K+1) b=if zvm (l.getD K txz) b=true then(K:Int) else lastK l K b:=rfl
  rw[zjv ht,zfe,zgo,zpu,zhr];generalize l.getD K txz=t at *;have hs:=zpv b t.info;by_cases hn:zvm t b=true
  ·rw[if_pos hn] at hl
   have h0:zfe l (lastK l (K+1)) K b=none:=zvq fun j hj e=>by rw[hl] at e;omega
   cases hx:zas b t.info with
   |some s=>simp[hl]
   |none=>
    rw[hx] at hs
    have hr:zbm t.rev b=true:=by
     unfold zvm at hn;rw[←hs] at hn
     simpa using hn
    simp[h0,hr]
  ·rw[if_neg hn] at hl
   have h0:=(zsg (l:=l) hl K).trans (ih (by omega));unfold zvm at hn;simp only[Bool.or_eq_true,not_or,Bool.not_eq_true] at hn
   cases hx:zas b t.info with
   |some s=>rw[hx,hn.2] at hs;cases hs
   |none=>simp[h0,hn.1]
theorem zlf (l:List Tx)(b:Int):zfe l (lastK l l.length) l.length b=(newestF l b).map fun s=>(b,s):=by
 have:=zpw l b l.length (Nat.le_refl _)
 rwa [List.take_length] at this
theorem zwy (a:Option Addr)(c:Nat)(l:List Tx)(w:World)(h:SegTx w a l)(hn:l.length*128≤140737488355328)(hf:∀t∈l,Few t):
  Calls Tryz.prog 78 #[.slice a l.length c] w fun e w'=>∃v',e=.returned v'∧w'.ownsRow w.heap.size 84 2 v' (newestL l).length (cellsC (newestL l))∧Below w.heap.size w w':=by
 go_enter Tryz.func78,Tryz.ntmps78;go_wp2_with fail;refine(zkl a c l _ h hn hf).mono ?_;rintro e w1 ⟨B,n,rfl,hM,hB,hb1⟩;have HM:=zaa hM;have HB1:=zaa hb1;clear h hf hM hb1;go_wp2
 go_loopw [4,10] (fun v i wr=>∃k:Nat,k≤12∧i=.int .i64 k∧Hid (wr.ownsRow w1.heap.size 84 2 v (asN (newestF l) k).length (cellsC (asN (newestF l) k)))∧Hid (Below w1.heap.size w1 wr)) (fun _ i _=>12 - (intOf i).toNat)
 case atStart=>exact⟨0,Nat.zero_le _,rfl,World.ownsRow_nil _ _ _ _,Below.refl _ _⟩
 case round=>
  obtain⟨k,hk,rfl,hown,hbr⟩:=hrel;by_cases hlt:k<12
  ·have hlt':(k:Int)<12:=by omega
   have hq:=zeb (newestF l) k;have HF:=zaa (zev (newestF l) k);have HM2:=zaa (HM.o.below hbr.o);have hwf:(Lit.int .i64 (k:Int)).wf=true:=wfI (by omega) (by omega);generalize asN (newestF l) k=q at *
   cases ht:newestF l (k:Int) with
   |none=>
    have HF2:Hid (asN (newestF l) (k+1)=q):=by rw[Hid,HF.o,zt5,ht];simp
    have hlk:=HM2.o.lookNone (k:Int) hwf (by rw[zlf,ht];rfl);clear HF hwf;go_wp2
    go_roundw
    case rel=>exact⟨k+1,by omega,by go_num,by rw[HF2.o];exact zah hown.o (zab _ _),zae hbr.o (zab _ _)⟩
    case measure=>simp[intOf];omega
   |some u=>
    have HF2:Hid (asN (newestF l) (k+1)=q++[((k:Int),u)]):=by rw[Hid,HF.o,zt5,ht];rfl
    have hlk:=HM2.o.lookSome (k:Int) hwf (a:=(k:Int)) (s:=u) (by rw[zlf,ht];rfl);have HO1:=zaa (zah hown.o (zab wr (.cells #[.int .i64 (k:Int),.string u] 84)));have HB2:=zaa (zae hbr.o (zab wr (.cells #[.int .i64 (k:Int),.string u] 84)));clear HF hwf hown;go_wp2_with (at_builtin;refine zh4 _ w1 w1.heap.size rfl _ _ rfl _ q.length (cellsC q) rfl (zah HO1.o (zab _ _)) (some ⟨wr.heap.size+1,0,none⟩) 1 [((k:Int),u)] rfl (.inr ⟨wr.heap.size+1,0,rfl,by simp,fun i hi=>?_⟩) (by simp;omega) (Nat.le_trans HB2.o.size (by simp)) (zae HB2.o (zab _ _)) ?_)
    ·have:i=0:=by simpa using hi
     subst this;exact⟨by simp[go_sem],by simp[go_sem]⟩
    ·intro v' w' hown' hB'
     clear HO1 HB2;go_wp2
     go_roundw
     case rel=>exact⟨k+1,by omega,by go_num,by rw[HF2.o,List.length_append,zdk];exact hown',hB'⟩
     case measure=>simp[intOf];omega
  ·have e:k=12:=by omega
   subst e;go_wp2;go_ret;exact⟨_,rfl,za5 hown.o HB1.o.size,zae HB1.o hbr.o⟩
end Go.Proofs.YtjnpndfpajjihacGreat

