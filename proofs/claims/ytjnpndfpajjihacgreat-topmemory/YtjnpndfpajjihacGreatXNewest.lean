/- -/
import Derived.Test.YtjnpndfpajjihacGreatGrTopMemory23
import Derived.Test.YtjnpndfpajjihacGreatGrTopMemory16
namespace Go.Proofs.YtjnpndfpajjihacGreat
set_option maxRecDepth 100000
set_option maxHeartbeats 40000000
open Go.RowKit
theorem zwq (a:Option Addr)(c:Nat)(l:List Tx)(b:Int)(w:World)(h:SegTx w a l)(hn:l.length≤maxLen):
  Calls Tryz.prog 170 #[.slice a l.length c,.int .i64 b] w fun e w'=>e=.returned (.tuple #[.string ((newestF l b).getD ⟨#[]⟩),.bool (newestF l b).isSome])∧Below w.heap.size w w':=by
 unfold maxLen at hn;have HS:=zaa h;clear h;go_enter Tryz.func170,Tryz.ntmps170;go_wp2
 go_loopw [6] (fun i wr=>∃k:Nat,k≤l.length∧i=.int .i64 ((k:Int) - 1)∧Hid (newestF (l.take k) b=newestF l b)∧Hid (Below w.heap.size w wr)) (fun i _=>(intOf i+1).toNat)
 case atStart=>exact⟨l.length,Nat.le_refl _,by go_num,by rw[List.take_length];rfl,Below.refl _ _⟩
 case round=>
  obtain⟨k,hk,rfl,hF,hbr⟩:=hrel
  cases k with
  |zero=>
   have HF:Hid (newestF l b=none):=hF.o.symm;clear hF;go_wp2;exact bodyPost_ret (v:=.tuple #[.string ⟨#[]⟩,.bool false]) (by simp[results,Tryz.results170,go_sem]) rfl ⟨by rw[HF.o];rfl,hbr.o⟩
  |succ j=>
   have ej:(((j+1:Nat):Int) - 1)=(j:Int):=by omega
   rw[ej];have hj:j<l.length:=by omega
   obtain⟨b2,off,rfl,hb,hc⟩:=HS.o.resolve_left (by intro e;rw[e] at hj;simp at hj);obtain⟨t,ht⟩:∃t,t=l.getD j txz:=⟨_,rfl⟩;have HX:Hid (l[j]?=some t):=by rw[ht];exact z0s hj
   have hcj:=(hc j hj).below hbr.o hb;rw[←ht] at hcj;obtain⟨a0,c0,a1,c1,r,d,⟨x0,x1,x2,x3,x4,x5,x6,x7,x8,x9⟩,hT⟩:=hcj;obtain⟨s1,_,s3,n1,_,n3⟩:=hT.rows;have HM:=zaa s1;have HR:=zaa s3;have N1:=zaa n1;have N3:=zaa n3;have HF:Hid (newestF l b=zhr b (newestF (l.take j) b) t):=by rw[Hid,←hF.o,zjv HX.o]
   have hlt':(j:Int)<(l.length:Int):=by omega
   have hge:(0:Int)≤(j:Int):=by omega
   clear ht hc hT s1 s3 n1 n3 hF x0 x2 x4 x5 x6 x7 x8 x9;go_wp2_with fail;refine(zkv a0 c0 t.info b _ HM.o N1.o).mono ?_;rintro e w1 ⟨rfl,hb1⟩;have k3:=zac hb1 (Nat.lt_of_lt_of_le hb hbr.o.size) x3;have HB1:=zaa (zae hbr.o hb1)
   replace HR:=zaa (HR.o.below hb1)
   clear hb1 x1 x3 HM N1
   cases hi:zas b t.info with
   |some s=>
    have HE:Hid (newestF l b=some s):=by rw[Hid,HF.o,zhr,hi];rfl
    clear HF HR N3;go_wp2;exact bodyPost_ret (v:=.tuple #[.string s,.bool true]) (by simp[results,Tryz.results170,go_sem]) rfl ⟨by rw[HE.o];rfl,HB1.o⟩
   |none=>
    go_wp2_with fail;refine(zcz r d t.rev b _ HR.o N3.o).mono ?_;rintro e w2 ⟨rfl,rfl⟩;by_cases hr:zbm t.rev b=true
    ·have HE:Hid (newestF l b=none):=by rw[Hid,HF.o,zhr,hi];simp[hr]
     clear HF HR N3;rw[hr];go_wp2;exact bodyPost_ret (v:=.tuple #[.string ⟨#[]⟩,.bool false]) (by simp[results,Tryz.results170,go_sem]) rfl ⟨by rw[HE.o];rfl,HB1.o⟩
    ·have hr':zbm t.rev b=false:=by simpa using hr
     have HE:Hid (newestF (l.take j) b=newestF l b):=by rw[Hid,HF.o,zhr,hi];simp[hr']
     clear HF HR N3 hr;rw[hr'];go_wp2
     go_roundw
     case rel=>exact⟨j,by omega,by go_num,HE,HB1⟩
     case measure=>simp[intOf]
theorem zl3 (a:Option Addr)(c:Nat)(l:List Tx)(w:World)(h:SegTx w a l)(hn:l.length≤maxLen):
  Calls Tryz.prog 126 #[.slice a l.length c] w fun e w'=>∃v',e=.returned v'∧w'.ownsRow w.heap.size 84 2 v' (newestL l).length (cellsC (newestL l))∧Below w.heap.size w w':=by
 have HS:=zaa h;have HN:=zaa hn;clear h hn;go_enter Tryz.func126,Tryz.ntmps126;go_wp2
 go_loopw [3,7] (fun v i wr=>∃k:Nat,k≤12∧i=.int .i64 k∧Hid (wr.ownsRow w.heap.size 84 2 v (asN (newestF l) k).length (cellsC (asN (newestF l) k)))∧Hid (Below w.heap.size w wr)) (fun _ i _=>12 - (intOf i).toNat)
 case atStart=>exact⟨0,Nat.zero_le _,rfl,World.ownsRow_nil _ _ _ _,Below.refl _ _⟩
 case round=>
  obtain⟨k,hk,rfl,hown,hbr⟩:=hrel;by_cases hlt:k<12
  ·have hlt':(k:Int)<12:=by omega
   have hq:=zeb (newestF l) k;have HF:=zaa (zev (newestF l) k);generalize asN (newestF l) k=q at *;go_wp2_with fail;refine(zwq a c l (k:Int) wr (HS.o.below hbr.o) HN.o).mono ?_;rintro e w1 ⟨rfl,hb1⟩;have HO1:=zaa (zah hown.o hb1);have HB1:=zaa (zae hbr.o hb1);clear hown hbr hb1
   cases ht:newestF l (k:Int) with
   |none=>
    have HF2:Hid (asN (newestF l) (k+1)=q):=by rw[Hid,HF.o,zt5,ht];simp
    clear HF;go_wp2
    go_roundw
    case rel=>exact⟨k+1,by omega,by go_num,by rw[HF2.o];exact HO1,HB1⟩
    case measure=>simp[intOf];omega
   |some u=>
    have HF2:Hid (asN (newestF l) (k+1)=q++[((k:Int),u)]):=by rw[Hid,HF.o,zt5,ht];rfl
    clear HF;go_wp2_with (at_builtin;refine zh4 _ w w.heap.size rfl _ _ rfl _ q.length (cellsC q) rfl (zah HO1.o (zab _ _)) (some ⟨w1.heap.size,0,none⟩) 1 [((k:Int),u)] rfl (.inr ⟨w1.heap.size,0,rfl,by simp,fun i hi=>?_⟩) (by simp;omega) (Nat.le_trans HB1.o.size (by simp)) (zae HB1.o (zab _ _)) ?_)
    ·have:i=0:=by simpa using hi
     subst this;exact⟨by simp[go_sem],by simp[go_sem]⟩
    ·intro v' w' hown' hB'
     clear HO1 HB1;go_wp2
     go_roundw
     case rel=>exact⟨k+1,by omega,by go_num,by rw[HF2.o,List.length_append,zdk];exact hown',hB'⟩
     case measure=>simp[intOf];omega
  ·have e:k=12:=by omega
   subst e;go_wp2;go_ret;exact⟨_,rfl,hown.o,hbr.o⟩
end Go.Proofs.YtjnpndfpajjihacGreat

