/-
  
-/
import Derived.Test.YtjnpndfpajjihacGreatGrTopSettles1
import Derived.Test.YtjnpndfpajjihacGreatGrTopSettles9
set_option maxRecDepth 100000
set_option maxHeartbeats 40000000
namespace Go.Proofs.YtjnpndfpajjihacGreat
open Go.Proofs.Tryz
open Go.RowKit
theorem zaz(n l m:Int)(w:World):
  Calls prog 59 #[.int .i64 n,.int .i64 l,.int .i64 m] w fun e w'=>e=.returned (.bool (zap n l m))∧w=w':=by
 by_cases h0:l≤n<;>by_cases h1:n≤m
 all_goals
  go_enter func59,ntmps59;go_wp2;go_ret;exact⟨by simp[zap,h0,h1],rfl⟩
def onB (t:Tx)(h:Int):Bool:=zap h 0 2&&(zel t h).on
theorem z45(o0 o1 o2:Bool)(l0 l1 l2:Int)(w:World):(Instr.index 38 (.agg #[.bool o0,.int .i64 l0,.bool o1,.int .i64 l1,.bool o2,.int .i64 l2]) (.int .i64 0)).run prog w=.ok (.agg #[.bool o0,.int .i64 l0]) w:=by kernel_rfl
theorem z47(o0 o1 o2:Bool)(l0 l1 l2:Int)(w:World):(Instr.index 38 (.agg #[.bool o0,.int .i64 l0,.bool o1,.int .i64 l1,.bool o2,.int .i64 l2]) (.int .i64 1)).run prog w=.ok (.agg #[.bool o1,.int .i64 l1]) w:=by kernel_rfl
theorem z48(o0 o1 o2:Bool)(l0 l1 l2:Int)(w:World):(Instr.index 38 (.agg #[.bool o0,.int .i64 l0,.bool o1,.int .i64 l1,.bool o2,.int .i64 l2]) (.int .i64 2)).run prog w=.ok (.agg #[.bool o2,.int .i64 l2]) w:=by kernel_rfl
theorem zb7(h:Hd):hdB h=zap h.left 0 (if h.on then 24 else 0):=by
 rw[Bool.eq_iff_iff,zdt,zbf];cases h.on
 ·simp;omega
 ·simp
theorem zsv(x0 x1 x2:Hd)(w:World):
  Calls prog 64 #[.agg #[.bool x0.on,.int .i64 x0.left,.bool x1.on,.int .i64 x1.left,.bool x2.on,.int .i64 x2.left]] w fun e w'=>e=.returned (.bool (hdB x0&&hdB x1&&hdB x2))∧Below w.heap.size w w':=by
 obtain⟨K,E⟩:=x0;obtain⟨I,D⟩:=x1;obtain⟨J,C⟩:=x2;go_enter func64,ntmps64;go_wp2
 go_loopw [7] (fun i wr=>∃k:Nat,k≤3∧i=.int .i64 k∧Hid ((1≤k→hdB ⟨K,E⟩=true)∧(2≤k→hdB ⟨I,D⟩=true)∧(3≤k→hdB ⟨J,C⟩=true))∧Below w.heap.size w wr) (fun i _=>3 - (intOf i).toNat)
 case atStart=>exact⟨0,by omega,rfl,⟨fun h=>by omega,fun h=>by omega,fun h=>by omega⟩,zab _ _⟩
 case round=>
  obtain⟨k,O,rfl,F,L⟩:=hrel;have Q:k=0∨k=1∨k=2∨k=3:=by omega
  have B:=fun o=>L.alloc L.size o;clear O;rcases Q with rfl|rfl|rfl|rfl
  ·have M:=z45 K I J E D C;cases K
   ·cases hw:zap E 0 0 with
    |false=>
     have A:Hid (hdB ⟨false,E⟩=false):=by rw[Hid,zb7 ⟨false,E⟩];exact hw
     go_wp2_with (go_at_call 59;refine(zaz _ _ _ _).mono ?_;rintro e w' ⟨rfl,rfl⟩);go_ret;exact⟨by rw[A.o];simp,B _⟩
    |true=>
     have A:Hid (hdB ⟨false,E⟩=true):=by rw[Hid,zb7 ⟨false,E⟩];exact hw
     go_wp2_with (go_at_call 59;refine(zaz _ _ _ _).mono ?_;rintro e w' ⟨rfl,rfl⟩)
     go_roundw
     case rel=>exact⟨1,by omega,by go_num,⟨fun _=>A.o,fun h=>by omega,fun h=>by omega⟩,B _⟩
     case measure=>simp[intOf]
   ·cases hw:zap E 0 24 with
    |false=>
     have A:Hid (hdB ⟨true,E⟩=false):=by rw[Hid,zb7 ⟨true,E⟩];exact hw
     go_wp2_with (go_at_call 59;refine(zaz _ _ _ _).mono ?_;rintro e w' ⟨rfl,rfl⟩);go_ret;exact⟨by rw[A.o];simp,B _⟩
    |true=>
     have A:Hid (hdB ⟨true,E⟩=true):=by rw[Hid,zb7 ⟨true,E⟩];exact hw
     go_wp2_with (go_at_call 59;refine(zaz _ _ _ _).mono ?_;rintro e w' ⟨rfl,rfl⟩)
     go_roundw
     case rel=>exact⟨1,by omega,by go_num,⟨fun _=>A.o,fun h=>by omega,fun h=>by omega⟩,B _⟩
     case measure=>simp[intOf]
  ·have M:=z47 K I J E D C;cases I
   ·cases hw:zap D 0 0 with
    |false=>
     have A:Hid (hdB ⟨false,D⟩=false):=by rw[Hid,zb7 ⟨false,D⟩];exact hw
     go_wp2_with (go_at_call 59;refine(zaz _ _ _ _).mono ?_;rintro e w' ⟨rfl,rfl⟩);go_ret;exact⟨by rw[A.o];simp,B _⟩
    |true=>
     have A:Hid (hdB ⟨false,D⟩=true):=by rw[Hid,zb7 ⟨false,D⟩];exact hw
     go_wp2_with (go_at_call 59;refine(zaz _ _ _ _).mono ?_;rintro e w' ⟨rfl,rfl⟩)
     go_roundw
     case rel=>exact⟨2,by omega,by go_num,⟨fun _=>F.o.1 (by omega),fun _=>A.o,fun h=>by omega⟩,B _⟩
     case measure=>simp[intOf]
   ·cases hw:zap D 0 24 with
    |false=>
     have A:Hid (hdB ⟨true,D⟩=false):=by rw[Hid,zb7 ⟨true,D⟩];exact hw
     go_wp2_with (go_at_call 59;refine(zaz _ _ _ _).mono ?_;rintro e w' ⟨rfl,rfl⟩);go_ret;exact⟨by rw[A.o];simp,B _⟩
    |true=>
     have A:Hid (hdB ⟨true,D⟩=true):=by rw[Hid,zb7 ⟨true,D⟩];exact hw
     go_wp2_with (go_at_call 59;refine(zaz _ _ _ _).mono ?_;rintro e w' ⟨rfl,rfl⟩)
     go_roundw
     case rel=>exact⟨2,by omega,by go_num,⟨fun _=>F.o.1 (by omega),fun _=>A.o,fun h=>by omega⟩,B _⟩
     case measure=>simp[intOf]
  ·have M:=z48 K I J E D C;cases J
   ·cases hw:zap C 0 0 with
    |false=>
     have A:Hid (hdB ⟨false,C⟩=false):=by rw[Hid,zb7 ⟨false,C⟩];exact hw
     go_wp2_with (go_at_call 59;refine(zaz _ _ _ _).mono ?_;rintro e w' ⟨rfl,rfl⟩);go_ret;exact⟨by rw[A.o];simp,B _⟩
    |true=>
     have A:Hid (hdB ⟨false,C⟩=true):=by rw[Hid,zb7 ⟨false,C⟩];exact hw
     go_wp2_with (go_at_call 59;refine(zaz _ _ _ _).mono ?_;rintro e w' ⟨rfl,rfl⟩)
     go_roundw
     case rel=>exact⟨3,by omega,by go_num,⟨fun _=>F.o.1 (by omega),fun _=>F.o.2.1 (by omega),fun _=>A.o⟩,B _⟩
     case measure=>simp[intOf]
   ·cases hw:zap C 0 24 with
    |false=>
     have A:Hid (hdB ⟨true,C⟩=false):=by rw[Hid,zb7 ⟨true,C⟩];exact hw
     go_wp2_with (go_at_call 59;refine(zaz _ _ _ _).mono ?_;rintro e w' ⟨rfl,rfl⟩);go_ret;exact⟨by rw[A.o];simp,B _⟩
    |true=>
     have A:Hid (hdB ⟨true,C⟩=true):=by rw[Hid,zb7 ⟨true,C⟩];exact hw
     go_wp2_with (go_at_call 59;refine(zaz _ _ _ _).mono ?_;rintro e w' ⟨rfl,rfl⟩)
     go_roundw
     case rel=>exact⟨3,by omega,by go_num,⟨fun _=>F.o.1 (by omega),fun _=>F.o.2.1 (by omega),fun _=>A.o⟩,B _⟩
     case measure=>simp[intOf]
  ·have N:Hid ((hdB ⟨K,E⟩&&hdB ⟨I,D⟩&&hdB ⟨J,C⟩)=true):=by rw[Hid,F.o.1 (by omega),F.o.2.1 (by omega),F.o.2.2 (by omega)];rfl
   go_wp2;go_ret;exact⟨by rw[N.o];rfl,L⟩
theorem zk5(a:Option Addr)(c:Nat)(l:List Int)(w:World)(h:SegI w a l)(hn:l.length≤maxLen):
  Calls prog 62 #[.slice a l.length c] w fun e w'=>e=.returned (.bool (zbl l))∧w=w':=by
 unfold maxLen at hn;have M:=zaa h;clear h;go_enter func62,ntmps62;go_wp2
 go_loop [3,8] (fun q i=>∃k:Nat,k≤l.length∧i=.int .i64 k∧q=.int .i64 (zd1 (-1) (l.take k)+1)∧ -1≤zd1 (-1) (l.take k)∧Hid (za1 (-1) (l.take k)=true)) (fun _ i=>l.length - (intOf i).toNat)
 case atStart=>exact⟨0,Nat.zero_le _,rfl,rfl,by simp[zd1],by simp[Hid,za1]⟩
 case round=>
  obtain⟨k,hk,rfl,rfl,J,B⟩:=hrel;by_cases hlt:k<l.length
  ·obtain⟨b,off,rfl,hb,L⟩:=M.o.resolve_left (by intro e;rw[e]at hlt;simp at hlt);obtain⟨x,F⟩:∃x,x=l.getD k 0:=⟨_,rfl⟩;have K:=L k hlt;rw[←F]at K;have N:Hid (l[k]?=some x):=by rw[F];exact zce _ _ _ hlt
   have C:Hid (l.take (k+1)=l.take k++[x]):=by rw[Hid,List.take_add_one,N.o];rfl
   clear F L;obtain⟨q,D⟩:∃q,q=zd1 (-1) (l.take k):=⟨_,rfl⟩;have I:=zaa D;rw[←D]at J;rw[←D];clear D;have A0:(k:Int)<(l.length:Int):=by omega
   cases hw:zap x (q+1) 11 with
   |false=>
    have A:Hid (zbl l=false):=zul (-1) l (k+1) (by
     rw[C.o,zhk,←I.o]
     have:x≤q∨11<x:=by
      by_cases e:x≤q∨11<x
      ·exact e
      ·rw[zbf.2 (by omega)]at hw;cases hw
     simp[this])
    clear B;go_wp2_with (go_at_call 59;refine(zaz _ _ _ _).mono ?_;rintro e w' ⟨rfl,rfl⟩);go_ret;exact⟨by rw[A.o];rfl,rfl⟩
   |true=>
    have A1:=zbf.1 hw
    have A:Hid (za1 (-1) (l.take (k+1))=true):=by
     have:¬(x≤q∨11<x):=by omega
     rw[Hid,C.o,zhk,B.o,←I.o];simp[this]
    clear B;go_wp2_with (go_at_call 59;refine(zaz _ _ _ _).mono ?_;rintro e w' ⟨rfl,rfl⟩)
    go_round
    case rel=>exact⟨k+1,by omega,by go_num,by rw[C.o,zgq],by rw[C.o,zgq];omega,A⟩
    case measure=>simp[intOf];omega
  ·have e:k=l.length:=by omega
   have E:zbl l=true:=by have:=B.o;rw[e,List.take_length]at this;exact this
   have A:=zaa E;clear B E;go_wp2;go_ret;exact⟨by rw[A.o];rfl,rfl⟩
theorem zy0{l:List (Int×ByteArray)}{k:Nat}{x:Int×ByteArray}(h:l[k]?=some x):blksOf (l.take (k+1))=blksOf (l.take k)++[x.1]:=by
 rw[List.take_add_one,h];simp[blksOf]
theorem zcz(l:List (Int×ByteArray)):(blksOf l).length=l.length:=by simp[blksOf]
theorem zng(a:Option Addr)(c:Nat)(l:List (Int×ByteArray))(w:World)(h:SegW w a l)(hn:l.length*24≤140737488355328):
  Calls prog 61 #[.slice a l.length c] w fun e w'=>∃a2 c2,e=.returned (.slice a2 l.length c2)∧SegI w' a2 (blksOf l)∧Below w.heap.size w w':=by
 have X:=zaa h;clear h;have Q:=z44 l.length (by omega);go_enter func61,ntmps61;go_wp2;clear Q
 go_loopw [11] (fun i wr=>∃k:Nat,k≤l.length∧i=.int .i64 k∧Hid (wr.ownsRow w.heap.size 3 1 (.slice (some ⟨w.heap.size,0,none⟩) l.length l.length) l.length (zfd (blksOf (l.take k)) (l.length - k)))∧Below w.heap.size w wr) (fun i _=>l.length - (intOf i).toNat)
 case atStart=>exact⟨0,Nat.zero_le _,rfl,znf l.length (by omega) w w.heap.size (Nat.le_refl _),zab _ _⟩
 case round=>
  obtain⟨k,hk,rfl,D,B⟩:=hrel;have A1:=B.size;by_cases hlt:k<l.length
  ·obtain⟨b2,off,rfl,hb,U⟩:=X.o.resolve_left (by intro e;rw[e]at hlt;simp at hlt);obtain⟨x,K⟩:∃x,x=l.getD k (0,ByteArray.empty):=⟨_,rfl⟩;obtain⟨I,E⟩:=U k hlt;rw[←K]at I E;have Z:Hid (l[k]?=some x):=by rw[K];exact zce _ _ _ hlt
   have g1:=zac B hb I;have g2:=zac B hb E;clear K U I E;obtain⟨n,t⟩:=x;have A0:(k:Int)<(l.length:Int):=by omega
   have S:=B.alloc B.size (Obj.cells #[.int .i64 n,.string t] 84);have A:=zah D.o (zab wr (Obj.cells #[.int .i64 n,.string t] 84));rw[show l.length - k=(l.length - k - 1)+1 from by omega]at A;have J:=zne A;have F:=znd A n;rw[zcz,List.length_take,Nat.min_eq_left (by omega)]at J F;obtain⟨⟨u0,hu⟩,A2,_,hB,_⟩:=J;rw[←zy0 (x:=(n,t)) Z.o]at F;have O:=zaa F;clear F A D;go_wp2
   go_roundw
   case rel=>exact⟨k+1,by omega,by go_num,by rw[show l.length - (k+1)=l.length - k - 1 from by omega];exact O,S.setCell (by simp) _⟩
   case measure=>simp[intOf];omega
  ·have e:k=l.length:=by omega
   subst e;have C:=D.o;rw[Nat.sub_self,znc,List.take_length]at C;obtain⟨a2,c2,L,N,Y⟩:=SegI.of_owns C;rw[zcz]at L;simp only[Value.slice.injEq]at L;obtain⟨M,_,E⟩:=L;subst M E;have R:=zaa N;clear D C N Y;go_wp2;go_ret;exact⟨_,_,rfl,R.o,B⟩
theorem zbn(h:Int)(w:World):
  Calls prog 117 #[.int .i64 h] w fun e w'=>e=.returned (.bool (zap h 0 2))∧w=w':=by
 go_enter func117,ntmps117;go_wp2_with (go_at_call 59;refine(zaz _ _ _ _).mono ?_;rintro e w' ⟨rfl,rfl⟩);go_ret;exact⟨rfl,rfl⟩
theorem zje(v:Value)(t:Tx)(h:Int)(w:World)(hT:IsTx w v t):
  Calls prog 120 #[v,.int .i64 h] w fun e w'=>e=.returned (.bool (onB t h))∧Below w.heap.size w w':=by
 obtain⟨a,c,a',c',b,d,rfl,_,_,_,_,_,_⟩:=hT
 cases hw:zap h 0 2 with
 |false=>
  go_enter func120,ntmps120;go_wp2_with (go_at_call 117;refine(zbn _ _).mono ?_;rintro e w' ⟨rfl,rfl⟩);go_ret;exact⟨by rw[onB,hw];rfl,zab _ _⟩
 |true=>
  have B:=zbf.1 hw;have C:h=0∨h=1∨h=2:=by omega
  clear B;rcases C with rfl|rfl|rfl
  ·have A:Hid (onB t 0=t.h0.on):=by rw[Hid,onB,hw];rfl
   generalize t.h0.on=o at A;cases o
   all_goals
    go_enter func120,ntmps120;go_wp2_with (go_at_call 117;refine(zbn _ _).mono ?_;rintro e w' ⟨rfl,rfl⟩);go_ret;exact⟨by rw[A.o];rfl,zab _ _⟩
  ·have A:Hid (onB t 1=t.h1.on):=by rw[Hid,onB,hw];rfl
   generalize t.h1.on=o at A;cases o
   all_goals
    go_enter func120,ntmps120;go_wp2_with (go_at_call 117;refine(zbn _ _).mono ?_;rintro e w' ⟨rfl,rfl⟩);go_ret;exact⟨by rw[A.o];rfl,zab _ _⟩
  ·have A:Hid (onB t 2=t.h2.on):=by rw[Hid,onB,hw];rfl
   generalize t.h2.on=o at A;cases o
   all_goals
    go_enter func120,ntmps120;go_wp2_with (go_at_call 117;refine(zbn _ _).mono ?_;rintro e w' ⟨rfl,rfl⟩);go_ret;exact⟨by rw[A.o];rfl,zab _ _⟩
theorem zhy(n free:Int)(w:World):
  Calls prog 118 #[.int .i64 n,.int .i64 free] w fun e w'=>e=.returned (.bool (decide (n≤24)&&decide (zd4 n≤free)))∧w=w':=by
 by_cases h:n≤24
 ·obtain⟨k,A⟩:∃k,k=zd4 n:=⟨_,rfl⟩;have B:=zaa A;by_cases h2:k≤free
  all_goals
   rw[←A];clear A;go_enter func118,ntmps118;go_wp2_with (go_at_call 32;refine(zqk _ _).mono ?_;rw[←B.o];rintro e w' ⟨rfl,rfl⟩);go_ret;exact⟨by simp[h,h2],rfl⟩
 ·go_enter func118,ntmps118;go_wp2;go_ret;exact⟨by rw[show decide (n≤24)=false from by simpa using h];rfl,rfl⟩
theorem zjz(v:Value)(t:Tx)(w:World)(h:IsTx w v t):
  Calls prog 33 #[v] w fun e w'=>e=.returned (.int .i64 (zb0 t))∧Below w.heap.size w w':=by
 obtain⟨a,c,a',c',b,d,rfl,_,_,_,C,A,B⟩:=h;clear C A B;have i0:=z45 t.h0.on t.h1.on t.h2.on t.h0.left t.h1.left t.h2.left;have i1:=z47 t.h0.on t.h1.on t.h2.on t.h0.left t.h1.left t.h2.left;have i2:=z48 t.h0.on t.h1.on t.h2.on t.h0.left t.h1.left t.h2.left;go_enter func33,ntmps33;go_wp2;refine wp_loop_rounds 4 ?_;rw[rounds_succ];go_wp2;rw[rounds_succ];go_wp2;rw[rounds_succ];go_wp2;rw[rounds_succ];go_wp2;go_ret;refine⟨rfl,?_⟩
 repeat refine Below.alloc ?_ (by first|(simp;done)|(simp;omega)) _
 exact Below.refl _ _
