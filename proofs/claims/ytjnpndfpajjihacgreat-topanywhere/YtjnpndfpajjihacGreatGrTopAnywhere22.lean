/-
  
-/
import Derived.Test.YtjnpndfpajjihacGreatGrTopAnywhere1
import Derived.Test.YtjnpndfpajjihacGreatGrTopAnywhere10
set_option maxRecDepth 100000
set_option maxHeartbeats 40000000
namespace Go.Proofs.YtjnpndfpajjihacGreat
open Go.Proofs.Tryz
open Go.RowKit
theorem zaz(n l m:Int)(w:World):
  Calls prog 59 #[.int .i64 n,.int .i64 l,.int .i64 m] w fun e w'=>e=.returned (.bool (zao n l m))∧w=w':=by
 by_cases h0:l≤n<;>by_cases h1:n≤m
 all_goals
  go_enter func59,ntmps59;go_wp2;go_ret;exact⟨by simp[zao,h0,h1],rfl⟩
def onB (t:Tx)(h:Int):Bool:=zao h 0 2&&(zeu t h).on
theorem z5q(o0 o1 o2:Bool)(l0 l1 l2:Int)(w:World):(Instr.index 38 (.agg #[.bool o0,.int .i64 l0,.bool o1,.int .i64 l1,.bool o2,.int .i64 l2]) (.int .i64 0)).run prog w=.ok (.agg #[.bool o0,.int .i64 l0]) w:=by kernel_rfl
theorem z5r(o0 o1 o2:Bool)(l0 l1 l2:Int)(w:World):(Instr.index 38 (.agg #[.bool o0,.int .i64 l0,.bool o1,.int .i64 l1,.bool o2,.int .i64 l2]) (.int .i64 1)).run prog w=.ok (.agg #[.bool o1,.int .i64 l1]) w:=by kernel_rfl
theorem z5s(o0 o1 o2:Bool)(l0 l1 l2:Int)(w:World):(Instr.index 38 (.agg #[.bool o0,.int .i64 l0,.bool o1,.int .i64 l1,.bool o2,.int .i64 l2]) (.int .i64 2)).run prog w=.ok (.agg #[.bool o2,.int .i64 l2]) w:=by kernel_rfl
theorem zca(h:Hd):hdB h=zao h.left 0 (if h.on then 24 else 0):=by
 rw[Bool.eq_iff_iff,zet,zbh];cases h.on
 ·simp;omega
 ·simp
theorem zsx(x0 x1 x2:Hd)(w:World):
  Calls prog 64 #[.agg #[.bool x0.on,.int .i64 x0.left,.bool x1.on,.int .i64 x1.left,.bool x2.on,.int .i64 x2.left]] w fun e w'=>e=.returned (.bool (hdB x0&&hdB x1&&hdB x2))∧Below w.heap.size w w':=by
 obtain⟨I,E⟩:=x0;obtain⟨J,C⟩:=x1;obtain⟨K,D⟩:=x2;go_enter func64,ntmps64;go_wp2
 go_loopw [7] (fun i wr=>∃k:Nat,k≤3∧i=.int .i64 k∧Hid ((1≤k→hdB ⟨I,E⟩=true)∧(2≤k→hdB ⟨J,C⟩=true)∧(3≤k→hdB ⟨K,D⟩=true))∧Below w.heap.size w wr) (fun i _=>3 - (intOf i).toNat)
 case atStart=>exact⟨0,by omega,rfl,⟨fun h=>by omega,fun h=>by omega,fun h=>by omega⟩,zab _ _⟩
 case round=>
  obtain⟨k,Q,rfl,F,L⟩:=hrel;have N:k=0∨k=1∨k=2∨k=3:=by omega
  have B:=fun o=>L.alloc L.size o;clear Q;rcases N with rfl|rfl|rfl|rfl
  ·have M:=z5q I J K E C D;cases I
   ·cases hw:zao E 0 0 with
    |false=>
     have A:Hid (hdB ⟨false,E⟩=false):=by rw[Hid,zca ⟨false,E⟩];exact hw
     go_wp2_with (go_at_call 59;refine(zaz _ _ _ _).mono ?_;rintro e w' ⟨rfl,rfl⟩);go_ret;exact⟨by rw[A.o];simp,B _⟩
    |true=>
     have A:Hid (hdB ⟨false,E⟩=true):=by rw[Hid,zca ⟨false,E⟩];exact hw
     go_wp2_with (go_at_call 59;refine(zaz _ _ _ _).mono ?_;rintro e w' ⟨rfl,rfl⟩)
     go_roundw
     case rel=>exact⟨1,by omega,by go_num,⟨fun _=>A.o,fun h=>by omega,fun h=>by omega⟩,B _⟩
     case measure=>simp[intOf]
   ·cases hw:zao E 0 24 with
    |false=>
     have A:Hid (hdB ⟨true,E⟩=false):=by rw[Hid,zca ⟨true,E⟩];exact hw
     go_wp2_with (go_at_call 59;refine(zaz _ _ _ _).mono ?_;rintro e w' ⟨rfl,rfl⟩);go_ret;exact⟨by rw[A.o];simp,B _⟩
    |true=>
     have A:Hid (hdB ⟨true,E⟩=true):=by rw[Hid,zca ⟨true,E⟩];exact hw
     go_wp2_with (go_at_call 59;refine(zaz _ _ _ _).mono ?_;rintro e w' ⟨rfl,rfl⟩)
     go_roundw
     case rel=>exact⟨1,by omega,by go_num,⟨fun _=>A.o,fun h=>by omega,fun h=>by omega⟩,B _⟩
     case measure=>simp[intOf]
  ·have M:=z5r I J K E C D;cases J
   ·cases hw:zao C 0 0 with
    |false=>
     have A:Hid (hdB ⟨false,C⟩=false):=by rw[Hid,zca ⟨false,C⟩];exact hw
     go_wp2_with (go_at_call 59;refine(zaz _ _ _ _).mono ?_;rintro e w' ⟨rfl,rfl⟩);go_ret;exact⟨by rw[A.o];simp,B _⟩
    |true=>
     have A:Hid (hdB ⟨false,C⟩=true):=by rw[Hid,zca ⟨false,C⟩];exact hw
     go_wp2_with (go_at_call 59;refine(zaz _ _ _ _).mono ?_;rintro e w' ⟨rfl,rfl⟩)
     go_roundw
     case rel=>exact⟨2,by omega,by go_num,⟨fun _=>F.o.1 (by omega),fun _=>A.o,fun h=>by omega⟩,B _⟩
     case measure=>simp[intOf]
   ·cases hw:zao C 0 24 with
    |false=>
     have A:Hid (hdB ⟨true,C⟩=false):=by rw[Hid,zca ⟨true,C⟩];exact hw
     go_wp2_with (go_at_call 59;refine(zaz _ _ _ _).mono ?_;rintro e w' ⟨rfl,rfl⟩);go_ret;exact⟨by rw[A.o];simp,B _⟩
    |true=>
     have A:Hid (hdB ⟨true,C⟩=true):=by rw[Hid,zca ⟨true,C⟩];exact hw
     go_wp2_with (go_at_call 59;refine(zaz _ _ _ _).mono ?_;rintro e w' ⟨rfl,rfl⟩)
     go_roundw
     case rel=>exact⟨2,by omega,by go_num,⟨fun _=>F.o.1 (by omega),fun _=>A.o,fun h=>by omega⟩,B _⟩
     case measure=>simp[intOf]
  ·have M:=z5s I J K E C D;cases K
   ·cases hw:zao D 0 0 with
    |false=>
     have A:Hid (hdB ⟨false,D⟩=false):=by rw[Hid,zca ⟨false,D⟩];exact hw
     go_wp2_with (go_at_call 59;refine(zaz _ _ _ _).mono ?_;rintro e w' ⟨rfl,rfl⟩);go_ret;exact⟨by rw[A.o];simp,B _⟩
    |true=>
     have A:Hid (hdB ⟨false,D⟩=true):=by rw[Hid,zca ⟨false,D⟩];exact hw
     go_wp2_with (go_at_call 59;refine(zaz _ _ _ _).mono ?_;rintro e w' ⟨rfl,rfl⟩)
     go_roundw
     case rel=>exact⟨3,by omega,by go_num,⟨fun _=>F.o.1 (by omega),fun _=>F.o.2.1 (by omega),fun _=>A.o⟩,B _⟩
     case measure=>simp[intOf]
   ·cases hw:zao D 0 24 with
    |false=>
     have A:Hid (hdB ⟨true,D⟩=false):=by rw[Hid,zca ⟨true,D⟩];exact hw
     go_wp2_with (go_at_call 59;refine(zaz _ _ _ _).mono ?_;rintro e w' ⟨rfl,rfl⟩);go_ret;exact⟨by rw[A.o];simp,B _⟩
    |true=>
     have A:Hid (hdB ⟨true,D⟩=true):=by rw[Hid,zca ⟨true,D⟩];exact hw
     go_wp2_with (go_at_call 59;refine(zaz _ _ _ _).mono ?_;rintro e w' ⟨rfl,rfl⟩)
     go_roundw
     case rel=>exact⟨3,by omega,by go_num,⟨fun _=>F.o.1 (by omega),fun _=>F.o.2.1 (by omega),fun _=>A.o⟩,B _⟩
     case measure=>simp[intOf]
  ·have O:Hid ((hdB ⟨I,E⟩&&hdB ⟨J,C⟩&&hdB ⟨K,D⟩)=true):=by rw[Hid,F.o.1 (by omega),F.o.2.1 (by omega),F.o.2.2 (by omega)];rfl
   go_wp2;go_ret;exact⟨by rw[O.o];rfl,L⟩
theorem zla(a:Option Addr)(c:Nat)(l:List Int)(w:World)(h:SegI w a l)(hn:l.length≤maxLen):
  Calls prog 62 #[.slice a l.length c] w fun e w'=>e=.returned (.bool (zbk l))∧w=w':=by
 unfold maxLen at hn;have M:=zaa h;clear h;go_enter func62,ntmps62;go_wp2
 go_loop [3,8] (fun q i=>∃k:Nat,k≤l.length∧i=.int .i64 k∧q=.int .i64 (zdy (-1) (l.take k)+1)∧ -1≤zdy (-1) (l.take k)∧Hid (za1 (-1) (l.take k)=true)) (fun _ i=>l.length - (intOf i).toNat)
 case atStart=>exact⟨0,Nat.zero_le _,rfl,rfl,by simp[zdy],by simp[Hid,za1]⟩
 case round=>
  obtain⟨k,hk,rfl,rfl,J,B⟩:=hrel;by_cases hlt:k<l.length
  ·obtain⟨b,A2,rfl,hb,I⟩:=M.o.resolve_left (by intro e;rw[e]at hlt;simp at hlt);obtain⟨x,F⟩:∃x,x=l.getD k 0:=⟨_,rfl⟩;have L:=I k hlt;rw[←F]at L;have N:Hid (l[k]?=some x):=by rw[F];exact zcf _ _ _ hlt
   have C:Hid (l.take (k+1)=l.take k++[x]):=by rw[Hid,List.take_add_one,N.o];rfl
   clear F I;obtain⟨q,D⟩:∃q,q=zdy (-1) (l.take k):=⟨_,rfl⟩;have K:=zaa D;rw[←D]at J;rw[←D];clear D;have A0:(k:Int)<(l.length:Int):=by omega
   cases hw:zao x (q+1) 11 with
   |false=>
    have A:Hid (zbk l=false):=zum (-1) l (k+1) (by
     rw[C.o,zhl,←K.o]
     have:x≤q∨11<x:=by
      by_cases e:x≤q∨11<x
      ·exact e
      ·rw[zbh.2 (by omega)]at hw;cases hw
     simp[this])
    clear B;go_wp2_with (go_at_call 59;refine(zaz _ _ _ _).mono ?_;rintro e w' ⟨rfl,rfl⟩);go_ret;exact⟨by rw[A.o];rfl,rfl⟩
   |true=>
    have A1:=zbh.1 hw
    have A:Hid (za1 (-1) (l.take (k+1))=true):=by
     have:¬(x≤q∨11<x):=by omega
     rw[Hid,C.o,zhl,B.o,←K.o];simp[this]
    clear B;go_wp2_with (go_at_call 59;refine(zaz _ _ _ _).mono ?_;rintro e w' ⟨rfl,rfl⟩)
    go_round
    case rel=>exact⟨k+1,by omega,by go_num,by rw[C.o,zgn],by rw[C.o,zgn];omega,A⟩
    case measure=>simp[intOf];omega
  ·have e:k=l.length:=by omega
   have E:zbk l=true:=by have:=B.o;rw[e,List.take_length]at this;exact this
   have A:=zaa E;clear B E;go_wp2;go_ret;exact⟨by rw[A.o];rfl,rfl⟩
theorem zy5{l:List (Int×ByteArray)}{k:Nat}{x:Int×ByteArray}(h:l[k]?=some x):blksOf (l.take (k+1))=blksOf (l.take k)++[x.1]:=by
 rw[List.take_add_one,h];simp[blksOf]
theorem zcu(l:List (Int×ByteArray)):(blksOf l).length=l.length:=by simp[blksOf]
theorem znu(a:Option Addr)(c:Nat)(l:List (Int×ByteArray))(w:World)(h:SegW w a l)(hn:l.length*24≤140737488355328):
  Calls prog 61 #[.slice a l.length c] w fun e w'=>∃a2 c2,e=.returned (.slice a2 l.length c2)∧SegI w' a2 (blksOf l)∧Below w.heap.size w w':=by
 have X:=zaa h;clear h;have R:=z5p l.length (by omega);go_enter func61,ntmps61;go_wp2;clear R
 go_loopw [11] (fun i wr=>∃k:Nat,k≤l.length∧i=.int .i64 k∧Hid (wr.ownsRow w.heap.size 3 1 (.slice (some ⟨w.heap.size,0,none⟩) l.length l.length) l.length (ze7 (blksOf (l.take k)) (l.length - k)))∧Below w.heap.size w wr) (fun i _=>l.length - (intOf i).toNat)
 case atStart=>exact⟨0,Nat.zero_le _,rfl,znt l.length (by omega) w w.heap.size (Nat.le_refl _),zab _ _⟩
 case round=>
  obtain⟨k,hk,rfl,C,B⟩:=hrel;have A1:=B.size;by_cases hlt:k<l.length
  ·obtain⟨b2,A3,rfl,hb,M⟩:=X.o.resolve_left (by intro e;rw[e]at hlt;simp at hlt);obtain⟨x,K⟩:∃x,x=l.getD k (0,ByteArray.empty):=⟨_,rfl⟩;obtain⟨I,E⟩:=M k hlt;rw[←K]at I E;have Z:Hid (l[k]?=some x):=by rw[K];exact zcf _ _ _ hlt
   have g1:=zac B hb I;have g2:=zac B hb E;clear K M I E;obtain⟨n,t⟩:=x;have A0:(k:Int)<(l.length:Int):=by omega
   have N:=B.alloc B.size (Obj.cells #[.int .i64 n,.string t] 84);have A:=zah C.o (zab wr (Obj.cells #[.int .i64 n,.string t] 84));rw[show l.length - k=(l.length - k - 1)+1 from by omega]at A;have J:=zns A;have F:=znr A n;rw[zcu,List.length_take,Nat.min_eq_left (by omega)]at J F;obtain⟨⟨u0,hu⟩,A2,_,hB,_⟩:=J;rw[←zy5 (x:=(n,t)) Z.o]at F;have O:=zaa F;clear F A C;go_wp2
   go_roundw
   case rel=>exact⟨k+1,by omega,by go_num,by rw[show l.length - (k+1)=l.length - k - 1 from by omega];exact O,N.setCell (by simp) _⟩
   case measure=>simp[intOf];omega
  ·have e:k=l.length:=by omega
   subst e;have D:=C.o;rw[Nat.sub_self,znq,List.take_length]at D;obtain⟨a2,c2,L,Q,Y⟩:=SegI.of_owns D;rw[zcu]at L;simp only[Value.slice.injEq]at L;obtain⟨S,_,E⟩:=L;subst S E;have U:=zaa Q;clear C D Q Y;go_wp2;go_ret;exact⟨_,_,rfl,U.o,B⟩
theorem zbn(h:Int)(w:World):
  Calls prog 117 #[.int .i64 h] w fun e w'=>e=.returned (.bool (zao h 0 2))∧w=w':=by
 go_enter func117,ntmps117;go_wp2_with (go_at_call 59;refine(zaz _ _ _ _).mono ?_;rintro e w' ⟨rfl,rfl⟩);go_ret;exact⟨rfl,rfl⟩
theorem zjf(v:Value)(t:Tx)(h:Int)(w:World)(hT:IsTx w v t):
  Calls prog 120 #[v,.int .i64 h] w fun e w'=>e=.returned (.bool (onB t h))∧Below w.heap.size w w':=by
 obtain⟨a,c,a',c',b,d,rfl,_,_,_,_,_,_⟩:=hT
 cases hw:zao h 0 2 with
 |false=>
  go_enter func120,ntmps120;go_wp2_with (go_at_call 117;refine(zbn _ _).mono ?_;rintro e w' ⟨rfl,rfl⟩);go_ret;exact⟨by rw[onB,hw];rfl,zab _ _⟩
 |true=>
  have C:=zbh.1 hw;have B:h=0∨h=1∨h=2:=by omega
  clear C;rcases B with rfl|rfl|rfl
  ·have A:Hid (onB t 0=t.h0.on):=by rw[Hid,onB,hw];rfl
   generalize t.h0.on=o at A;cases o
   all_goals
    go_enter func120,ntmps120;go_wp2_with (go_at_call 117;refine(zbn _ _).mono ?_;rintro e w' ⟨rfl,rfl⟩);go_ret;exact⟨by rw[A.o];rfl,zab _ _⟩
  ·have A:Hid (onB t 1=t.h1.on):=by rw[Hid,onB,hw];rfl
   generalize t.h1.on=o at A;cases o
   all_goals
    go_enter func120,ntmps120;go_wp2_with (go_at_call 117;refine(zbn _ _).mono ?_;rintro e w' ⟨rfl,rfl⟩);go_ret;exact⟨by rw[A.o];rfl,zab _ _⟩
  ·have A:Hid (onB t 2=t.h2.on):=by rw[Hid,onB,hw];rfl
   generalize t.h2.on=o at A;cases o
   all_goals
    go_enter func120,ntmps120;go_wp2_with (go_at_call 117;refine(zbn _ _).mono ?_;rintro e w' ⟨rfl,rfl⟩);go_ret;exact⟨by rw[A.o];rfl,zab _ _⟩
theorem zhz(n free:Int)(w:World):
  Calls prog 118 #[.int .i64 n,.int .i64 free] w fun e w'=>e=.returned (.bool (decide (n≤24)&&decide (ze5 n≤free)))∧w=w':=by
 by_cases h:n≤24
 ·obtain⟨k,A⟩:∃k,k=ze5 n:=⟨_,rfl⟩;have B:=zaa A;by_cases h2:k≤free
  all_goals
   rw[←A];clear A;go_enter func118,ntmps118;go_wp2_with (go_at_call 32;refine(zqu _ _).mono ?_;rw[←B.o];rintro e w' ⟨rfl,rfl⟩);go_ret;exact⟨by simp[h,h2],rfl⟩
 ·go_enter func118,ntmps118;go_wp2;go_ret;exact⟨by rw[show decide (n≤24)=false from by simpa using h];rfl,rfl⟩
theorem zj2(v:Value)(t:Tx)(w:World)(h:IsTx w v t):
  Calls prog 33 #[v] w fun e w'=>e=.returned (.int .i64 (zb2 t))∧Below w.heap.size w w':=by
 obtain⟨a,c,a',c',b,d,rfl,_,_,_,B,A,C⟩:=h;clear B A C;have i0:=z5q t.h0.on t.h1.on t.h2.on t.h0.left t.h1.left t.h2.left;have i1:=z5r t.h0.on t.h1.on t.h2.on t.h0.left t.h1.left t.h2.left;have i2:=z5s t.h0.on t.h1.on t.h2.on t.h0.left t.h1.left t.h2.left;go_enter func33,ntmps33;go_wp2;refine wp_loop_rounds 4 ?_;rw[rounds_succ];go_wp2;rw[rounds_succ];go_wp2;rw[rounds_succ];go_wp2;rw[rounds_succ];go_wp2;go_ret;refine⟨rfl,?_⟩
 repeat refine Below.alloc ?_ (by first|(simp;done)|(simp;omega)) _
 exact Below.refl _ _
