/-
  
-/
import Derived.Test.YtjnpndfpajjihacGreatGrTopMemory1
import Derived.Test.YtjnpndfpajjihacGreatGrTopMemory10
set_option maxRecDepth 100000
set_option maxHeartbeats 40000000
namespace Go.Proofs.YtjnpndfpajjihacGreat
open Go.RowKit
theorem zay (n l m:Int)(w:World):
  Calls Tryz.prog 59 #[.int .i64 n,.int .i64 l,.int .i64 m] w fun e w'=>e=.returned (.bool (zam n l m))∧w=w':=by
 by_cases h0:l≤n<;>by_cases h1:n≤m
 all_goals
  go_enter Tryz.func59,Tryz.ntmps59;go_wp2;go_ret;exact⟨by simp[zam,h0,h1],rfl⟩
def onB (t:Tx)(h:Int):Bool:=zam h 0 2&&(zei t h).on
theorem z35 (o0 o1 o2:Bool)(l0 l1 l2:Int)(w:World):(Instr.index 38 (.agg #[.bool o0,.int .i64 l0,.bool o1,.int .i64 l1,.bool o2,.int .i64 l2]) (.int .i64 0)).run Tryz.prog w=.ok (.agg #[.bool o0,.int .i64 l0]) w:=by kernel_rfl
theorem z36 (o0 o1 o2:Bool)(l0 l1 l2:Int)(w:World):(Instr.index 38 (.agg #[.bool o0,.int .i64 l0,.bool o1,.int .i64 l1,.bool o2,.int .i64 l2]) (.int .i64 1)).run Tryz.prog w=.ok (.agg #[.bool o1,.int .i64 l1]) w:=by kernel_rfl
theorem z38 (o0 o1 o2:Bool)(l0 l1 l2:Int)(w:World):(Instr.index 38 (.agg #[.bool o0,.int .i64 l0,.bool o1,.int .i64 l1,.bool o2,.int .i64 l2]) (.int .i64 2)).run Tryz.prog w=.ok (.agg #[.bool o2,.int .i64 l2]) w:=by kernel_rfl
theorem zb8 (h:Hd):hdB h=zam h.left 0 (if h.on then 24 else 0):=by
 rw[Bool.eq_iff_iff,zeh,zbd];cases h.on
 ·simp;omega
 ·simp
theorem zsd (x0 x1 x2:Hd)(w:World):
  Calls Tryz.prog 64 #[.agg #[.bool x0.on,.int .i64 x0.left,.bool x1.on,.int .i64 x1.left,.bool x2.on,.int .i64 x2.left]] w fun e w'=>e=.returned (.bool (hdB x0&&hdB x1&&hdB x2))∧Below w.heap.size w w':=by
 obtain⟨o0,l0⟩:=x0;obtain⟨o1,l1⟩:=x1;obtain⟨o2,l2⟩:=x2;go_enter Tryz.func64,Tryz.ntmps64;go_wp2
 go_loopw [7] (fun i wr=>∃k:Nat,k≤3∧i=.int .i64 k∧Hid ((1≤k→hdB ⟨o0,l0⟩=true)∧(2≤k→hdB ⟨o1,l1⟩=true)∧(3≤k→hdB ⟨o2,l2⟩=true))∧Below w.heap.size w wr) (fun i _=>3 - (intOf i).toNat)
 case atStart=>exact⟨0,by omega,rfl,⟨fun h=>by omega,fun h=>by omega,fun h=>by omega⟩,zab _ _⟩
 case round=>
  obtain⟨k,hk,rfl,hr,hbr⟩:=hrel;have hc:k=0∨k=1∨k=2∨k=3:=by omega
  have hal:=fun o=>hbr.alloc hbr.size o;clear hk;rcases hc with rfl|rfl|rfl|rfl
  ·have ik:=z35 o0 o1 o2 l0 l1 l2
   cases o0
   ·cases hw:zam l0 0 0 with
    |false=>
     have HF:Hid (hdB ⟨false,l0⟩=false):=by rw[Hid,zb8 ⟨false,l0⟩];exact hw
     go_wp2_with (go_at_call 59;refine(zay _ _ _ _).mono ?_;rintro e w' ⟨rfl,rfl⟩);go_ret;exact⟨by rw[HF.o];simp,hal _⟩
    |true=>
     have HF:Hid (hdB ⟨false,l0⟩=true):=by rw[Hid,zb8 ⟨false,l0⟩];exact hw
     go_wp2_with (go_at_call 59;refine(zay _ _ _ _).mono ?_;rintro e w' ⟨rfl,rfl⟩)
     go_roundw
     case rel=>exact⟨1,by omega,by go_num,⟨fun _=>HF.o,fun h=>by omega,fun h=>by omega⟩,hal _⟩
     case measure=>simp[intOf]
   ·cases hw:zam l0 0 24 with
    |false=>
     have HF:Hid (hdB ⟨true,l0⟩=false):=by rw[Hid,zb8 ⟨true,l0⟩];exact hw
     go_wp2_with (go_at_call 59;refine(zay _ _ _ _).mono ?_;rintro e w' ⟨rfl,rfl⟩);go_ret;exact⟨by rw[HF.o];simp,hal _⟩
    |true=>
     have HF:Hid (hdB ⟨true,l0⟩=true):=by rw[Hid,zb8 ⟨true,l0⟩];exact hw
     go_wp2_with (go_at_call 59;refine(zay _ _ _ _).mono ?_;rintro e w' ⟨rfl,rfl⟩)
     go_roundw
     case rel=>exact⟨1,by omega,by go_num,⟨fun _=>HF.o,fun h=>by omega,fun h=>by omega⟩,hal _⟩
     case measure=>simp[intOf]
  ·have ik:=z36 o0 o1 o2 l0 l1 l2
   cases o1
   ·cases hw:zam l1 0 0 with
    |false=>
     have HF:Hid (hdB ⟨false,l1⟩=false):=by rw[Hid,zb8 ⟨false,l1⟩];exact hw
     go_wp2_with (go_at_call 59;refine(zay _ _ _ _).mono ?_;rintro e w' ⟨rfl,rfl⟩);go_ret;exact⟨by rw[HF.o];simp,hal _⟩
    |true=>
     have HF:Hid (hdB ⟨false,l1⟩=true):=by rw[Hid,zb8 ⟨false,l1⟩];exact hw
     go_wp2_with (go_at_call 59;refine(zay _ _ _ _).mono ?_;rintro e w' ⟨rfl,rfl⟩)
     go_roundw
     case rel=>exact⟨2,by omega,by go_num,⟨fun _=>hr.o.1 (by omega),fun _=>HF.o,fun h=>by omega⟩,hal _⟩
     case measure=>simp[intOf]
   ·cases hw:zam l1 0 24 with
    |false=>
     have HF:Hid (hdB ⟨true,l1⟩=false):=by rw[Hid,zb8 ⟨true,l1⟩];exact hw
     go_wp2_with (go_at_call 59;refine(zay _ _ _ _).mono ?_;rintro e w' ⟨rfl,rfl⟩);go_ret;exact⟨by rw[HF.o];simp,hal _⟩
    |true=>
     have HF:Hid (hdB ⟨true,l1⟩=true):=by rw[Hid,zb8 ⟨true,l1⟩];exact hw
     go_wp2_with (go_at_call 59;refine(zay _ _ _ _).mono ?_;rintro e w' ⟨rfl,rfl⟩)
     go_roundw
     case rel=>exact⟨2,by omega,by go_num,⟨fun _=>hr.o.1 (by omega),fun _=>HF.o,fun h=>by omega⟩,hal _⟩
     case measure=>simp[intOf]
  ·have ik:=z38 o0 o1 o2 l0 l1 l2
   cases o2
   ·cases hw:zam l2 0 0 with
    |false=>
     have HF:Hid (hdB ⟨false,l2⟩=false):=by rw[Hid,zb8 ⟨false,l2⟩];exact hw
     go_wp2_with (go_at_call 59;refine(zay _ _ _ _).mono ?_;rintro e w' ⟨rfl,rfl⟩);go_ret;exact⟨by rw[HF.o];simp,hal _⟩
    |true=>
     have HF:Hid (hdB ⟨false,l2⟩=true):=by rw[Hid,zb8 ⟨false,l2⟩];exact hw
     go_wp2_with (go_at_call 59;refine(zay _ _ _ _).mono ?_;rintro e w' ⟨rfl,rfl⟩)
     go_roundw
     case rel=>exact⟨3,by omega,by go_num,⟨fun _=>hr.o.1 (by omega),fun _=>hr.o.2.1 (by omega),fun _=>HF.o⟩,hal _⟩
     case measure=>simp[intOf]
   ·cases hw:zam l2 0 24 with
    |false=>
     have HF:Hid (hdB ⟨true,l2⟩=false):=by rw[Hid,zb8 ⟨true,l2⟩];exact hw
     go_wp2_with (go_at_call 59;refine(zay _ _ _ _).mono ?_;rintro e w' ⟨rfl,rfl⟩);go_ret;exact⟨by rw[HF.o];simp,hal _⟩
    |true=>
     have HF:Hid (hdB ⟨true,l2⟩=true):=by rw[Hid,zb8 ⟨true,l2⟩];exact hw
     go_wp2_with (go_at_call 59;refine(zay _ _ _ _).mono ?_;rintro e w' ⟨rfl,rfl⟩)
     go_roundw
     case rel=>exact⟨3,by omega,by go_num,⟨fun _=>hr.o.1 (by omega),fun _=>hr.o.2.1 (by omega),fun _=>HF.o⟩,hal _⟩
     case measure=>simp[intOf]
  ·have HT:Hid ((hdB ⟨o0,l0⟩&&hdB ⟨o1,l1⟩&&hdB ⟨o2,l2⟩)=true):=by rw[Hid,hr.o.1 (by omega),hr.o.2.1 (by omega),hr.o.2.2 (by omega)];rfl
   go_wp2;go_ret;exact⟨by rw[HT.o];rfl,hbr⟩
theorem zkt (a:Option Addr)(c:Nat)(l:List Int)(w:World)(h:SegI w a l)(hn:l.length≤maxLen):
  Calls Tryz.prog 62 #[.slice a l.length c] w fun e w'=>e=.returned (.bool (zbg l))∧w=w':=by
 unfold maxLen at hn;have HS:=zaa h;clear h;go_enter Tryz.func62,Tryz.ntmps62;go_wp2
 go_loop [3,8] (fun q i=>∃k:Nat,k≤l.length∧i=.int .i64 k∧q=.int .i64 (zdu (-1) (l.take k)+1)∧ -1≤zdu (-1) (l.take k)∧Hid (zaz (-1) (l.take k)=true)) (fun _ i=>l.length - (intOf i).toNat)
 case atStart=>exact⟨0,Nat.zero_le _,rfl,rfl,by simp[zdu],by simp[Hid,zaz]⟩
 case round=>
  obtain⟨k,hk,rfl,rfl,hq1,hr⟩:=hrel;by_cases hlt:k<l.length
  ·obtain⟨b,off,rfl,hb,hc⟩:=HS.o.resolve_left (by intro e;rw[e] at hlt;simp at hlt)
   obtain⟨x,hx⟩:∃x,x=l.getD k 0:=⟨_,rfl⟩;have hck:=hc k hlt;rw[←hx] at hck;have HX:Hid (l[k]?=some x):=by rw[hx];exact zcb _ _ _ hlt
   have HT:Hid (l.take (k+1)=l.take k++[x]):=by rw[Hid,List.take_add_one,HX.o];rfl
   clear hx hc;obtain⟨q,hq⟩:∃q,q=zdu (-1) (l.take k):=⟨_,rfl⟩;have HQ:=zaa hq;rw[←hq] at hq1;rw[←hq];clear hq;have hlt':(k:Int)<(l.length:Int):=by omega
   cases hw:zam x (q+1) 11 with
   |false=>
    have HR:Hid (zbg l=false):=zt0 (-1) l (k+1) (by
     rw[HT.o,zg2,←HQ.o]
     have:x≤q∨11<x:=by
      by_cases e:x≤q∨11<x
      ·exact e
      ·rw[zbd.2 (by omega)] at hw;cases hw
     simp[this])
    clear hr;go_wp2_with (go_at_call 59;refine(zay _ _ _ _).mono ?_;rintro e w' ⟨rfl,rfl⟩);go_ret;exact⟨by rw[HR.o];rfl,rfl⟩
   |true=>
    have hin:=zbd.1 hw
    have HR:Hid (zaz (-1) (l.take (k+1))=true):=by
     have:¬(x≤q∨11<x):=by omega
     rw[Hid,HT.o,zg2,hr.o,←HQ.o];simp[this]
    clear hr;go_wp2_with (go_at_call 59;refine(zay _ _ _ _).mono ?_;rintro e w' ⟨rfl,rfl⟩)
    go_round
    case rel=>exact⟨k+1,by omega,by go_num,by rw[HT.o,zf8],by rw[HT.o,zf8];omega,HR⟩
    case measure=>simp[intOf];omega
  ·have e:k=l.length:=by omega
   have hr':zbg l=true:=by have:=hr.o;rw[e,List.take_length] at this;exact this
   have HR:=zaa hr';clear hr hr';go_wp2;go_ret;exact⟨by rw[HR.o];rfl,rfl⟩
theorem zyb {l:List (Int×ByteArray)}{k:Nat}{x:Int×ByteArray}(h:l[k]?=some x):blksOf (l.take (k+1))=blksOf (l.take k)++[x.1]:=by
 rw[List.take_add_one,h];simp[blksOf]
theorem zcq (l:List (Int×ByteArray)):(blksOf l).length=l.length:=by simp[blksOf]
theorem zna (a:Option Addr)(c:Nat)(l:List (Int×ByteArray))(w:World)(h:SegW w a l)(hn:l.length*24≤140737488355328):
  Calls Tryz.prog 61 #[.slice a l.length c] w fun e w'=>∃a2 c2,e=.returned (.slice a2 l.length c2)∧SegI w' a2 (blksOf l)∧Below w.heap.size w w':=by
 have HS:=zaa h;clear h;have hmk:=z34 l.length (by omega);go_enter Tryz.func61,Tryz.ntmps61;go_wp2;clear hmk
 go_loopw [11] (fun i wr=>∃k:Nat,k≤l.length∧i=.int .i64 k∧Hid (wr.ownsRow w.heap.size 3 1 (.slice (some ⟨w.heap.size,0,none⟩) l.length l.length) l.length (zet (blksOf (l.take k)) (l.length - k)))∧Below w.heap.size w wr) (fun i _=>l.length - (intOf i).toNat)
 case atStart=>exact⟨0,Nat.zero_le _,rfl,zm9 l.length (by omega) w w.heap.size (Nat.le_refl _),zab _ _⟩
 case round=>
  obtain⟨k,hk,rfl,hown,hbr⟩:=hrel;have hsr:=hbr.size;by_cases hlt:k<l.length
  ·obtain⟨b2,off,rfl,hb,hc⟩:=HS.o.resolve_left (by intro e;rw[e] at hlt;simp at hlt)
   obtain⟨x,hx⟩:∃x,x=l.getD k (0,ByteArray.empty):=⟨_,rfl⟩;obtain⟨hc1,hc2⟩:=hc k hlt;rw[←hx] at hc1 hc2;have HX:Hid (l[k]?=some x):=by rw[hx];exact zcb _ _ _ hlt
   have g1:=zac hbr hb hc1;have g2:=zac hbr hb hc2;clear hx hc hc1 hc2;obtain⟨n,t⟩:=x;have hlt':(k:Int)<(l.length:Int):=by omega
   have hb4:=hbr.alloc hbr.size (Obj.cells #[.int .i64 n,.string t] 84);have hown4:=zah hown.o (zab wr (Obj.cells #[.int .i64 n,.string t] 84));rw[show l.length - k=(l.length - k - 1)+1 from by omega] at hown4;have hcc:=zm8 hown4;have hst:=zm7 hown4 n;rw[zcq,List.length_take,Nat.min_eq_left (by omega)] at hcc hst;obtain⟨⟨u0,hu⟩,hfz,_,hB,_⟩:=hcc;rw[←zyb (x:=(n,t)) HX.o] at hst;have HST:=zaa hst;clear hst hown4 hown;go_wp2
   go_roundw
   case rel=>exact⟨k+1,by omega,by go_num,by rw[show l.length - (k+1)=l.length - k - 1 from by omega];exact HST,hb4.setCell (by simp) _⟩
   case measure=>simp[intOf];omega
  ·have e:k=l.length:=by omega
   subst e;have hown':=hown.o;rw[Nat.sub_self,zm6,List.take_length] at hown';obtain⟨a2,c2,hv,hS,hA⟩:=SegI.of_owns hown';rw[zcq] at hv;simp only[Value.slice.injEq] at hv;obtain⟨ha2,_,hc2⟩:=hv;subst ha2 hc2;have HS2:=zaa hS;clear hown hown' hS hA;go_wp2;go_ret;exact⟨_,_,rfl,HS2.o,hbr⟩
theorem zbi (h:Int)(w:World):
  Calls Tryz.prog 117 #[.int .i64 h] w fun e w'=>e=.returned (.bool (zam h 0 2))∧w=w':=by
 go_enter Tryz.func117,Tryz.ntmps117;go_wp2_with (go_at_call 59;refine(zay _ _ _ _).mono ?_;rintro e w' ⟨rfl,rfl⟩);go_ret;exact⟨rfl,rfl⟩
theorem zi4 (v:Value)(t:Tx)(h:Int)(w:World)(hT:IsTx w v t):
  Calls Tryz.prog 120 #[v,.int .i64 h] w fun e w'=>e=.returned (.bool (onB t h))∧Below w.heap.size w w':=by
 obtain⟨a,c,a',c',b,d,rfl,_,_,_,_,_,_⟩:=hT
 cases hw:zam h 0 2 with
 |false=>
  go_enter Tryz.func120,Tryz.ntmps120;go_wp2_with (go_at_call 117;refine(zbi _ _).mono ?_;rintro e w' ⟨rfl,rfl⟩);go_ret;exact⟨by rw[onB,hw];rfl,zab _ _⟩
 |true=>
  have hr:=zbd.1 hw;have hc:h=0∨h=1∨h=2:=by omega
  clear hr;rcases hc with rfl|rfl|rfl
  ·have HO:Hid (onB t 0=t.h0.on):=by rw[Hid,onB,hw];rfl
   generalize t.h0.on=o at HO;cases o
   all_goals
    go_enter Tryz.func120,Tryz.ntmps120;go_wp2_with (go_at_call 117;refine(zbi _ _).mono ?_;rintro e w' ⟨rfl,rfl⟩);go_ret;exact⟨by rw[HO.o];rfl,zab _ _⟩
  ·have HO:Hid (onB t 1=t.h1.on):=by rw[Hid,onB,hw];rfl
   generalize t.h1.on=o at HO;cases o
   all_goals
    go_enter Tryz.func120,Tryz.ntmps120;go_wp2_with (go_at_call 117;refine(zbi _ _).mono ?_;rintro e w' ⟨rfl,rfl⟩);go_ret;exact⟨by rw[HO.o];rfl,zab _ _⟩
  ·have HO:Hid (onB t 2=t.h2.on):=by rw[Hid,onB,hw];rfl
   generalize t.h2.on=o at HO;cases o
   all_goals
    go_enter Tryz.func120,Tryz.ntmps120;go_wp2_with (go_at_call 117;refine(zbi _ _).mono ?_;rintro e w' ⟨rfl,rfl⟩);go_ret;exact⟨by rw[HO.o];rfl,zab _ _⟩
theorem zhi (n free:Int)(w:World):
  Calls Tryz.prog 118 #[.int .i64 n,.int .i64 free] w fun e w'=>e=.returned (.bool (decide (n≤24)&&decide (zes n≤free)))∧w=w':=by
 by_cases h:n≤24
 ·obtain⟨k,hk⟩:∃k,k=zes n:=⟨_,rfl⟩
  have HK:=zaa hk;by_cases h2:k≤free
  all_goals
   rw[←hk];clear hk;go_enter Tryz.func118,Tryz.ntmps118;go_wp2_with (go_at_call 32;refine(zp5 _ _).mono ?_;rw[←HK.o];rintro e w' ⟨rfl,rfl⟩);go_ret;exact⟨by simp[h,h2],rfl⟩
 ·go_enter Tryz.func118,Tryz.ntmps118
  go_wp2;go_ret;exact⟨by rw[show decide (n≤24)=false from by simpa using h];rfl,rfl⟩
theorem zjo (v:Value)(t:Tx)(w:World)(h:IsTx w v t):
  Calls Tryz.prog 33 #[v] w fun e w'=>e=.returned (.int .i64 (zb0 t))∧Below w.heap.size w w':=by
 obtain⟨a,c,a',c',b,d,rfl,_,_,_,h1,h2,h3⟩:=h;clear h1 h2 h3;have i0:=z35 t.h0.on t.h1.on t.h2.on t.h0.left t.h1.left t.h2.left;have i1:=z36 t.h0.on t.h1.on t.h2.on t.h0.left t.h1.left t.h2.left;have i2:=z38 t.h0.on t.h1.on t.h2.on t.h0.left t.h1.left t.h2.left;go_enter Tryz.func33,Tryz.ntmps33;go_wp2;refine wp_loop_rounds 4 ?_;rw[rounds_succ];go_wp2;rw[rounds_succ];go_wp2;rw[rounds_succ];go_wp2;rw[rounds_succ];go_wp2;go_ret;refine⟨rfl,?_⟩
 repeat refine Below.alloc ?_ (by first|(simp;done)|(simp;omega)) _
 exact Below.refl _ _
end Go.Proofs.YtjnpndfpajjihacGreat

