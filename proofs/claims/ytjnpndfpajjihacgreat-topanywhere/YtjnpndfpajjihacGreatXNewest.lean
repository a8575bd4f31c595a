/- -/
import Derived.Test.YtjnpndfpajjihacGreatGrTopAnywhere23
import Derived.Test.YtjnpndfpajjihacGreatGrTopAnywhere16
namespace Go.Proofs.YtjnpndfpajjihacGreat
open Go.Proofs.Tryz
set_option maxRecDepth 100000
set_option maxHeartbeats 40000000
open Go.RowKit
theorem zxl(a:Option Addr)(c:Nat)(l:List Tx)(b:Int)(w:World)(h:SegTx w a l)(hn:l.length≤maxLen):
  Calls prog 170 #[.slice a l.length c,.int .i64 b] w fun e w'=>e=.returned (.tuple #[.string ((newestF l b).getD ⟨#[]⟩),.bool (newestF l b).isSome])∧Below w.heap.size w w':=by
 unfold maxLen at hn;have u:=zaa h;clear h;go_enter func170,ntmps170;go_wp2
 go_loopw [6] (fun i wr=>∃k:Nat,k≤l.length∧i=.int .i64 ((k:Int) - 1)∧Hid (newestF (l.take k) b=newestF l b)∧Hid (Below w.heap.size w wr)) (fun i _=>(intOf i+1).toNat)
 case atStart=>exact⟨l.length,Nat.le_refl _,by go_num,by rw[List.take_length];rfl,Below.refl _ _⟩
 case round=>
  obtain⟨k,hk,rfl,J,C⟩:=hrel
  cases k with
  |zero=>
   have A:Hid (newestF l b=none):=J.o.symm;clear J;go_wp2;exact bodyPost_ret (v:=.tuple #[.string ⟨#[]⟩,.bool false]) (by simp[results,results170,go_sem]) rfl ⟨by rw[A.o];rfl,C.o⟩
  |succ j=>
   have ej:(((j+1:Nat):Int) - 1)=(j:Int):=by omega
   rw[ej];have I:j<l.length:=by omega
   obtain⟨b2,A2,rfl,hb,O⟩:=u.o.resolve_left (by intro e;rw[e]at I;simp at I);obtain⟨t,N⟩:∃t,t=l.getD j txz:=⟨_,rfl⟩;have HX:Hid (l[j]?=some t):=by rw[N];exact z1y I
   have M:=(O j I).below C.o hb;rw[←N]at M;obtain⟨n,c0,a1,c1,r,d,⟨z,p,x2,R,x4,x5,q,x7,x,y⟩,S⟩:=M;obtain⟨U,_,X,Z,_,Y⟩:=S.rows;have m:=zaa U;have D:=zaa X;have Q:=zaa Z;have K:=zaa Y;have A:Hid (newestF l b=zcg b (newestF (l.take j) b) t):=by rw[Hid,←J.o,zkc HX.o]
   have A0:(j:Int)<(l.length:Int):=by omega
   have A1:(0:Int)≤(j:Int):=by omega
   clear N O S U X Z Y J z x2 x4 x5 q x7 x y;go_wp2_with fail;refine(zlc n c0 t.info b _ m.o Q.o).mono ?_;rintro e w1 ⟨rfl,B⟩;have k3:=zac B (Nat.lt_of_lt_of_le hb C.o.size) R;have F:=zaa (zae C.o B)
   replace D:=zaa (D.o.below B)
   clear B p R m Q
   cases hi:zai b t.info with
   |some s=>
    have E:Hid (newestF l b=some s):=by rw[Hid,A.o,zcg,hi];rfl
    clear A D K;go_wp2;exact bodyPost_ret (v:=.tuple #[.string s,.bool true]) (by simp[results,results170,go_sem]) rfl ⟨by rw[E.o];rfl,F.o⟩
   |none=>
    go_wp2_with fail;refine(zc4 r d t.rev b _ D.o K.o).mono ?_;rintro e w2 ⟨rfl,rfl⟩;by_cases hr:zaw t.rev b=true
    ·have E:Hid (newestF l b=none):=by rw[Hid,A.o,zcg,hi];simp[hr]
     clear A D K;rw[hr];go_wp2;exact bodyPost_ret (v:=.tuple #[.string ⟨#[]⟩,.bool false]) (by simp[results,results170,go_sem]) rfl ⟨by rw[E.o];rfl,F.o⟩
    ·have L:zaw t.rev b=false:=by simpa using hr
     have E:Hid (newestF (l.take j) b=newestF l b):=by rw[Hid,A.o,zcg,hi];simp[L]
     clear A D K hr;rw[L];go_wp2
     go_roundw
     case rel=>exact⟨j,by omega,by go_num,E,F⟩
     case measure=>simp[intOf]
theorem zmj(a:Option Addr)(c:Nat)(l:List Tx)(w:World)(h:SegTx w a l)(hn:l.length≤maxLen):
  Calls prog 126 #[.slice a l.length c] w fun e w'=>∃v',e=.returned v'∧w'.ownsRow w.heap.size 84 2 v' (newestL l).length (cellsC (newestL l))∧Below w.heap.size w w':=by
 have M:=zaa h;have N:=zaa hn;clear h hn;go_enter func126,ntmps126;go_wp2
 go_loopw [3,7] (fun v i wr=>∃k:Nat,k≤12∧i=.int .i64 k∧Hid (wr.ownsRow w.heap.size 84 2 v (asN (newestF l) k).length (cellsC (asN (newestF l) k)))∧Hid (Below w.heap.size w wr)) (fun _ i _=>12 - (intOf i).toNat)
 case atStart=>exact⟨0,Nat.zero_le _,rfl,World.ownsRow_nil _ _ _ _,Below.refl _ _⟩
 case round=>
  obtain⟨k,hk,rfl,A,C⟩:=hrel;by_cases hlt:k<12
  ·have A0:(k:Int)<12:=by omega
   have hq:=zem (newestF l) k;have J:=zaa (ze9 (newestF l) k);generalize asN (newestF l) k=q at *;go_wp2_with fail;refine(zxl a c l (k:Int) wr (M.o.below C.o) N.o).mono ?_;rintro e K ⟨rfl,F⟩;have E:=zaa (zah A.o F);have B:=zaa (zae C.o F);clear A C F
   cases ht:newestF l (k:Int) with
   |none=>
    have D:Hid (asN (newestF l) (k+1)=q):=by rw[Hid,J.o,zus,ht];simp
    clear J;go_wp2
    go_roundw
    case rel=>exact⟨k+1,by omega,by go_num,by rw[D.o];exact E,B⟩
    case measure=>simp[intOf];omega
   |some u=>
    have D:Hid (asN (newestF l) (k+1)=q++[((k:Int),u)]):=by rw[Hid,J.o,zus,ht];rfl
    clear J;go_wp2_with (at_builtin;refine zih _ w w.heap.size rfl _ _ rfl _ q.length (cellsC q) rfl (zah E.o (zab _ _)) (some ⟨K.heap.size,0,none⟩) 1 [((k:Int),u)] rfl (.inr ⟨K.heap.size,0,rfl,by simp,fun i hi=>?_⟩) (by simp;omega) (Nat.le_trans B.o.size (by simp)) (zae B.o (zab _ _)) ?_)
    ·have:i=0:=by simpa using hi
     subst this;exact⟨by simp[go_sem],by simp[go_sem]⟩
    ·intro v' w' I L;clear E B;go_wp2
     go_roundw
     case rel=>exact⟨k+1,by omega,by go_num,by rw[D.o,List.length_append,zdp];exact I,L⟩
     case measure=>simp[intOf];omega
  ·have e:k=12:=by omega
   subst e;go_wp2;go_ret;exact⟨_,rfl,A.o,C.o⟩
