/-
  
-/
import Derived.Test.YtjnpndfpajjihacGreatGrTopOrdered1
import Derived.Test.YtjnpndfpajjihacGreatGrTopOrdered9
set_option maxRecDepth 100000
set_option maxHeartbeats 40000000
namespace Go.Proofs.YtjnpndfpajjihacGreat
open Go.Proofs.Tryz
open Go.RowKit
theorem za0(n l m:Int)(w:World):
  Calls prog 59 #[.int .i64 n,.int .i64 l,.int .i64 m] w fun e w'=>e=.returned (.bool (zap n l m))∧w=w':=by
 by_cases h0:l≤n<;>by_cases h1:n≤m
 all_goals
  go_enter func59,ntmps59;go_wp2;go_ret;exact⟨by simp[zap,h0,h1],rfl⟩
def onB (t:Tx)(h:Int):Bool:=zap h 0 2&&(zes t h).on
theorem z5c(o0 o1 o2:Bool)(l0 l1 l2:Int)(w:World):(Instr.index 38 (.agg #[.bool o0,.int .i64 l0,.bool o1,.int .i64 l1,.bool o2,.int .i64 l2]) (.int .i64 0)).run prog w=.ok (.agg #[.bool o0,.int .i64 l0]) w:=by kernel_rfl
theorem z5d(o0 o1 o2:Bool)(l0 l1 l2:Int)(w:World):(Instr.index 38 (.agg #[.bool o0,.int .i64 l0,.bool o1,.int .i64 l1,.bool o2,.int .i64 l2]) (.int .i64 1)).run prog w=.ok (.agg #[.bool o1,.int .i64 l1]) w:=by kernel_rfl
theorem z5e(o0 o1 o2:Bool)(l0 l1 l2:Int)(w:World):(Instr.index 38 (.agg #[.bool o0,.int .i64 l0,.bool o1,.int .i64 l1,.bool o2,.int .i64 l2]) (.int .i64 2)).run prog w=.ok (.agg #[.bool o2,.int .i64 l2]) w:=by kernel_rfl
theorem zb9(h:Hd):hdB h=zap h.left 0 (if h.on then 24 else 0):=by
 rw[Bool.eq_iff_iff,zer,zbe];cases h.on
 ·simp;omega
 ·simp
theorem zs0(x0 x1 x2:Hd)(w:World):
  Calls prog 64 #[.agg #[.bool x0.on,.int .i64 x0.left,.bool x1.on,.int .i64 x1.left,.bool x2.on,.int .i64 x2.left]] w fun e w'=>e=.returned (.bool (hdB x0&&hdB x1&&hdB x2))∧Below w.heap.size w w':=by
 obtain⟨I,E⟩:=x0;obtain⟨K,D⟩:=x1;obtain⟨J,C⟩:=x2;go_enter func64,ntmps64;go_wp2
 go_loopw [7] (fun i wr=>∃k:Nat,k≤3∧i=.int .i64 k∧Hid ((1≤k→hdB ⟨I,E⟩=true)∧(2≤k→hdB ⟨K,D⟩=true)∧(3≤k→hdB ⟨J,C⟩=true))∧Below w.heap.size w wr) (fun i _=>3 - (intOf i).toNat)
 case atStart=>exact⟨0,by omega,rfl,⟨fun h=>by omega,fun h=>by omega,fun h=>by omega⟩,zaa _ _⟩
 case round=>
  obtain⟨k,N,rfl,F,L⟩:=hrel;have O:k=0∨k=1∨k=2∨k=3:=by omega
  have B:=fun o=>L.alloc L.size o;clear N;rcases O with rfl|rfl|rfl|rfl
  ·have M:=z5c I K J E D C;cases I
   ·cases hw:zap E 0 0 with
    |false=>
     have A:Hid (hdB ⟨false,E⟩=false):=by rw[Hid,zb9 ⟨false,E⟩];exact hw
     go_wp2_with (go_at_call 59;refine(za0 _ _ _ _).mono ?_;rintro e w' ⟨rfl,rfl⟩);go_ret;exact⟨by rw[A.o];simp,B _⟩
    |true=>
     have A:Hid (hdB ⟨false,E⟩=true):=by rw[Hid,zb9 ⟨false,E⟩];exact hw
     go_wp2_with (go_at_call 59;refine(za0 _ _ _ _).mono ?_;rintro e w' ⟨rfl,rfl⟩)
     go_roundw
     case rel=>exact⟨1,by omega,by go_num,⟨fun _=>A.o,fun h=>by omega,fun h=>by omega⟩,B _⟩
     case measure=>simp[intOf]
   ·cases hw:zap E 0 24 with
    |false=>
     have A:Hid (hdB ⟨true,E⟩=false):=by rw[Hid,zb9 ⟨true,E⟩];exact hw
     go_wp2_with (go_at_call 59;refine(za0 _ _ _ _).mono ?_;rintro e w' ⟨rfl,rfl⟩);go_ret;exact⟨by rw[A.o];simp,B _⟩
    |true=>
     have A:Hid (hdB ⟨true,E⟩=true):=by rw[Hid,zb9 ⟨true,E⟩];exact hw
     go_wp2_with (go_at_call 59;refine(za0 _ _ _ _).mono ?_;rintro e w' ⟨rfl,rfl⟩)
     go_roundw
     case rel=>exact⟨1,by omega,by go_num,⟨fun _=>A.o,fun h=>by omega,fun h=>by omega⟩,B _⟩
     case measure=>simp[intOf]
  ·have M:=z5d I K J E D C;cases K
   ·cases hw:zap D 0 0 with
    |false=>
     have A:Hid (hdB ⟨false,D⟩=false):=by rw[Hid,zb9 ⟨false,D⟩];exact hw
     go_wp2_with (go_at_call 59;refine(za0 _ _ _ _).mono ?_;rintro e w' ⟨rfl,rfl⟩);go_ret;exact⟨by rw[A.o];simp,B _⟩
    |true=>
     have A:Hid (hdB ⟨false,D⟩=true):=by rw[Hid,zb9 ⟨false,D⟩];exact hw
     go_wp2_with (go_at_call 59;refine(za0 _ _ _ _).mono ?_;rintro e w' ⟨rfl,rfl⟩)
     go_roundw
     case rel=>exact⟨2,by omega,by go_num,⟨fun _=>F.o.1 (by omega),fun _=>A.o,fun h=>by omega⟩,B _⟩
     case measure=>simp[intOf]
   ·cases hw:zap D 0 24 with
    |false=>
     have A:Hid (hdB ⟨true,D⟩=false):=by rw[Hid,zb9 ⟨true,D⟩];exact hw
     go_wp2_with (go_at_call 59;refine(za0 _ _ _ _).mono ?_;rintro e w' ⟨rfl,rfl⟩);go_ret;exact⟨by rw[A.o];simp,B _⟩
    |true=>
     have A:Hid (hdB ⟨true,D⟩=true):=by rw[Hid,zb9 ⟨true,D⟩];exact hw
     go_wp2_with (go_at_call 59;refine(za0 _ _ _ _).mono ?_;rintro e w' ⟨rfl,rfl⟩)
     go_roundw
     case rel=>exact⟨2,by omega,by go_num,⟨fun _=>F.o.1 (by omega),fun _=>A.o,fun h=>by omega⟩,B _⟩
     case measure=>simp[intOf]
  ·have M:=z5e I K J E D C;cases J
   ·cases hw:zap C 0 0 with
    |false=>
     have A:Hid (hdB ⟨false,C⟩=false):=by rw[Hid,zb9 ⟨false,C⟩];exact hw
     go_wp2_with (go_at_call 59;refine(za0 _ _ _ _).mono ?_;rintro e w' ⟨rfl,rfl⟩);go_ret;exact⟨by rw[A.o];simp,B _⟩
    |true=>
     have A:Hid (hdB ⟨false,C⟩=true):=by rw[Hid,zb9 ⟨false,C⟩];exact hw
     go_wp2_with (go_at_call 59;refine(za0 _ _ _ _).mono ?_;rintro e w' ⟨rfl,rfl⟩)
     go_roundw
     case rel=>exact⟨3,by omega,by go_num,⟨fun _=>F.o.1 (by omega),fun _=>F.o.2.1 (by omega),fun _=>A.o⟩,B _⟩
     case measure=>simp[intOf]
   ·cases hw:zap C 0 24 with
    |false=>
     have A:Hid (hdB ⟨true,C⟩=false):=by rw[Hid,zb9 ⟨true,C⟩];exact hw
     go_wp2_with (go_at_call 59;refine(za0 _ _ _ _).mono ?_;rintro e w' ⟨rfl,rfl⟩);go_ret;exact⟨by rw[A.o];simp,B _⟩
    |true=>
     have A:Hid (hdB ⟨true,C⟩=true):=by rw[Hid,zb9 ⟨true,C⟩];exact hw
     go_wp2_with (go_at_call 59;refine(za0 _ _ _ _).mono ?_;rintro e w' ⟨rfl,rfl⟩)
     go_roundw
     case rel=>exact⟨3,by omega,by go_num,⟨fun _=>F.o.1 (by omega),fun _=>F.o.2.1 (by omega),fun _=>A.o⟩,B _⟩
     case measure=>simp[intOf]
  ·have Q:Hid ((hdB ⟨I,E⟩&&hdB ⟨K,D⟩&&hdB ⟨J,C⟩)=true):=by rw[Hid,F.o.1 (by omega),F.o.2.1 (by omega),F.o.2.2 (by omega)];rfl
   go_wp2;go_ret;exact⟨by rw[Q.o];rfl,L⟩
theorem zlc(a:Option Addr)(c:Nat)(l:List Int)(w:World)(h:SegI w a l)(hn:l.length≤maxLen):
  Calls prog 62 #[.slice a l.length c] w fun e w'=>e=.returned (.bool (zbk l))∧w=w':=by
 unfold maxLen at hn;have N:=zab h;clear h;go_enter func62,ntmps62;go_wp2
 go_loop [3,8] (fun q i=>∃k:Nat,k≤l.length∧i=.int .i64 k∧q=.int .i64 (zdz (-1) (l.take k)+1)∧ -1≤zdz (-1) (l.take k)∧Hid (za1 (-1) (l.take k)=true)) (fun _ i=>l.length - (intOf i).toNat)
 case atStart=>exact⟨0,Nat.zero_le _,rfl,rfl,by simp[zdz],by simp[Hid,za1]⟩
 case round=>
  obtain⟨k,hk,rfl,rfl,L,A⟩:=hrel;by_cases hlt:k<l.length
  ·obtain⟨b,A1,rfl,hb,I⟩:=N.o.resolve_left (by intro e;rw[e]at hlt;simp at hlt);obtain⟨x,F⟩:∃x,x=l.getD k 0:=⟨_,rfl⟩;have J:=I k hlt;rw[←F]at J;have M:Hid (l[k]?=some x):=by rw[F];exact zcd _ _ _ hlt
   have D:Hid (l.take (k+1)=l.take k++[x]):=by rw[Hid,List.take_add_one,M.o];rfl
   clear F I;obtain⟨q,C⟩:∃q,q=zdz (-1) (l.take k):=⟨_,rfl⟩;have K:=zab C;rw[←C]at L;rw[←C];clear C;have A0:(k:Int)<(l.length:Int):=by omega
   cases hw:zap x (q+1) 11 with
   |false=>
    have B:Hid (zbk l=false):=zup (-1) l (k+1) (by
     rw[D.o,zhk,←K.o]
     have:x≤q∨11<x:=by
      by_cases e:x≤q∨11<x
      ·exact e
      ·rw[zbe.2 (by omega)]at hw;cases hw
     simp[this])
    clear A;go_wp2_with (go_at_call 59;refine(za0 _ _ _ _).mono ?_;rintro e w' ⟨rfl,rfl⟩);go_ret;exact⟨by rw[B.o];rfl,rfl⟩
   |true=>
    have A2:=zbe.1 hw
    have B:Hid (za1 (-1) (l.take (k+1))=true):=by
     have:¬(x≤q∨11<x):=by omega
     rw[Hid,D.o,zhk,A.o,←K.o];simp[this]
    clear A;go_wp2_with (go_at_call 59;refine(za0 _ _ _ _).mono ?_;rintro e w' ⟨rfl,rfl⟩)
    go_round
    case rel=>exact⟨k+1,by omega,by go_num,by rw[D.o,zgp],by rw[D.o,zgp];omega,B⟩
    case measure=>simp[intOf];omega
  ·have e:k=l.length:=by omega
   have E:zbk l=true:=by have:=A.o;rw[e,List.take_length]at this;exact this
   have B:=zab E;clear A E;go_wp2;go_ret;exact⟨by rw[B.o];rfl,rfl⟩
theorem zy5{l:List (Int×ByteArray)}{k:Nat}{x:Int×ByteArray}(h:l[k]?=some x):blksOf (l.take (k+1))=blksOf (l.take k)++[x.1]:=by
 rw[List.take_add_one,h];simp[blksOf]
theorem zcw(l:List (Int×ByteArray)):(blksOf l).length=l.length:=by simp[blksOf]
theorem znu(a:Option Addr)(c:Nat)(l:List (Int×ByteArray))(w:World)(h:SegW w a l)(hn:l.length*24≤140737488355328):
  Calls prog 61 #[.slice a l.length c] w fun e w'=>∃a2 c2,e=.returned (.slice a2 l.length c2)∧SegI w' a2 (blksOf l)∧Below w.heap.size w w':=by
 have Y:=zab h;clear h;have S:=z5b l.length (by omega);go_enter func61,ntmps61;go_wp2;clear S
 go_loopw [11] (fun i wr=>∃k:Nat,k≤l.length∧i=.int .i64 k∧Hid (wr.ownsRow w.heap.size 3 1 (.slice (some ⟨w.heap.size,0,none⟩) l.length l.length) l.length (ze7 (blksOf (l.take k)) (l.length - k)))∧Below w.heap.size w wr) (fun i _=>l.length - (intOf i).toNat)
 case atStart=>exact⟨0,Nat.zero_le _,rfl,znt l.length (by omega) w w.heap.size (Nat.le_refl _),zaa _ _⟩
 case round=>
  obtain⟨k,hk,rfl,C,B⟩:=hrel;have A2:=B.size;by_cases hlt:k<l.length
  ·obtain⟨b2,A1,rfl,hb,Q⟩:=Y.o.resolve_left (by intro e;rw[e]at hlt;simp at hlt);obtain⟨x,K⟩:∃x,x=l.getD k (0,ByteArray.empty):=⟨_,rfl⟩;obtain⟨I,E⟩:=Q k hlt;rw[←K]at I E;have Z:Hid (l[k]?=some x):=by rw[K];exact zcd _ _ _ hlt
   have g1:=zac B hb I;have g2:=zac B hb E;clear K Q I E;obtain⟨n,t⟩:=x;have A0:(k:Int)<(l.length:Int):=by omega
   have U:=B.alloc B.size (Obj.cells #[.int .i64 n,.string t] 84);have A:=zah C.o (zaa wr (Obj.cells #[.int .i64 n,.string t] 84));rw[show l.length - k=(l.length - k - 1)+1 from by omega]at A;have J:=zns A;have F:=znr A n;rw[zcw,List.length_take,Nat.min_eq_left (by omega)]at J F;obtain⟨⟨u0,hu⟩,A3,_,hB,_⟩:=J;rw[←zy5 (x:=(n,t)) Z.o]at F;have R:=zab F;clear F A C;go_wp2
   go_roundw
   case rel=>exact⟨k+1,by omega,by go_num,by rw[show l.length - (k+1)=l.length - k - 1 from by omega];exact R,U.setCell (by simp) _⟩
   case measure=>simp[intOf];omega
  ·have e:k=l.length:=by omega
   subst e;have D:=C.o;rw[Nat.sub_self,znq,List.take_length]at D;obtain⟨a2,c2,L,M,X⟩:=SegI.of_owns D;rw[zcw]at L;simp only[Value.slice.injEq]at L;obtain⟨N,_,E⟩:=L;subst N E;have O:=zab M;clear C D M X;go_wp2;go_ret;exact⟨_,_,rfl,O.o,B⟩
theorem zbm(h:Int)(w:World):
  Calls prog 117 #[.int .i64 h] w fun e w'=>e=.returned (.bool (zap h 0 2))∧w=w':=by
 go_enter func117,ntmps117;go_wp2_with (go_at_call 59;refine(za0 _ _ _ _).mono ?_;rintro e w' ⟨rfl,rfl⟩);go_ret;exact⟨rfl,rfl⟩
theorem zjh(v:Value)(t:Tx)(h:Int)(w:World)(hT:IsTx w v t):
  Calls prog 120 #[v,.int .i64 h] w fun e w'=>e=.returned (.bool (onB t h))∧Below w.heap.size w w':=by
 obtain⟨a,c,a',c',b,d,rfl,_,_,_,_,_,_⟩:=hT
 cases hw:zap h 0 2 with
 |false=>
  go_enter func120,ntmps120;go_wp2_with (go_at_call 117;refine(zbm _ _).mono ?_;rintro e w' ⟨rfl,rfl⟩);go_ret;exact⟨by rw[onB,hw];rfl,zaa _ _⟩
 |true=>
  have C:=zbe.1 hw;have B:h=0∨h=1∨h=2:=by omega
  clear C;rcases B with rfl|rfl|rfl
  ·have A:Hid (onB t 0=t.h0.on):=by rw[Hid,onB,hw];rfl
   generalize t.h0.on=o at A;cases o
   all_goals
    go_enter func120,ntmps120;go_wp2_with (go_at_call 117;refine(zbm _ _).mono ?_;rintro e w' ⟨rfl,rfl⟩);go_ret;exact⟨by rw[A.o];rfl,zaa _ _⟩
  ·have A:Hid (onB t 1=t.h1.on):=by rw[Hid,onB,hw];rfl
   generalize t.h1.on=o at A;cases o
   all_goals
    go_enter func120,ntmps120;go_wp2_with (go_at_call 117;refine(zbm _ _).mono ?_;rintro e w' ⟨rfl,rfl⟩);go_ret;exact⟨by rw[A.o];rfl,zaa _ _⟩
  ·have A:Hid (onB t 2=t.h2.on):=by rw[Hid,onB,hw];rfl
   generalize t.h2.on=o at A;cases o
   all_goals
    go_enter func120,ntmps120;go_wp2_with (go_at_call 117;refine(zbm _ _).mono ?_;rintro e w' ⟨rfl,rfl⟩);go_ret;exact⟨by rw[A.o];rfl,zaa _ _⟩
theorem zhx(n free:Int)(w:World):
  Calls prog 118 #[.int .i64 n,.int .i64 free] w fun e w'=>e=.returned (.bool (decide (n≤24)&&decide (ze5 n≤free)))∧w=w':=by
 by_cases h:n≤24
 ·obtain⟨k,A⟩:∃k,k=ze5 n:=⟨_,rfl⟩;have B:=zab A;by_cases h2:k≤free
  all_goals
   rw[←A];clear A;go_enter func118,ntmps118;go_wp2_with (go_at_call 32;refine(zqs _ _).mono ?_;rw[←B.o];rintro e w' ⟨rfl,rfl⟩);go_ret;exact⟨by simp[h,h2],rfl⟩
 ·go_enter func118,ntmps118;go_wp2;go_ret;exact⟨by rw[show decide (n≤24)=false from by simpa using h];rfl,rfl⟩
theorem zj3(v:Value)(t:Tx)(w:World)(h:IsTx w v t):
  Calls prog 33 #[v] w fun e w'=>e=.returned (.int .i64 (zb2 t))∧Below w.heap.size w w':=by
 obtain⟨a,c,a',c',b,d,rfl,_,_,_,C,A,B⟩:=h;clear C A B;have i0:=z5c t.h0.on t.h1.on t.h2.on t.h0.left t.h1.left t.h2.left;have i1:=z5d t.h0.on t.h1.on t.h2.on t.h0.left t.h1.left t.h2.left;have i2:=z5e t.h0.on t.h1.on t.h2.on t.h0.left t.h1.left t.h2.left;go_enter func33,ntmps33;go_wp2;refine wp_loop_rounds 4 ?_;rw[rounds_succ];go_wp2;rw[rounds_succ];go_wp2;rw[rounds_succ];go_wp2;rw[rounds_succ];go_wp2;go_ret;refine⟨rfl,?_⟩
 repeat refine Below.alloc ?_ (by first|(simp;done)|(simp;omega)) _
 exact Below.refl _ _
