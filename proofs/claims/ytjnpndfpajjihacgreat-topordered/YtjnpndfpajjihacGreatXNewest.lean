/- -/
import Derived.Test.YtjnpndfpajjihacGreatGrTopOrdered22
import Derived.Test.YtjnpndfpajjihacGreatGrTopOrdered15
namespace Go.Proofs.YtjnpndfpajjihacGreat
open Go.Proofs.Tryz
set_option maxRecDepth 100000
set_option maxHeartbeats 40000000
open Go.RowKit
theorem zxn(a:Option Addr)(c:Nat)(l:List Tx)(b:Int)(w:World)(h:SegTx w a l)(hn:l.length≤maxLen):
  Calls prog 170 #[.slice a l.length c,.int .i64 b] w fun e w'=>e=.returned (.tuple #[.string ((newestF l b).getD ⟨#[]⟩),.bool (newestF l b).isSome])∧Below w.heap.size w w':=by
 unfold maxLen at hn;have z:=zab h;clear h;go_enter func170,ntmps170;go_wp2
 go_loopw [6] (fun i wr=>∃k:Nat,k≤l.length∧i=.int .i64 ((k:Int) - 1)∧Hid (newestF (l.take k) b=newestF l b)∧Hid (Below w.heap.size w wr)) (fun i _=>(intOf i+1).toNat)
 case atStart=>exact⟨l.length,Nat.le_refl _,by go_num,by rw[List.take_length];rfl,Below.refl _ _⟩
 case round=>
  obtain⟨k,hk,rfl,I,B⟩:=hrel
  cases k with
  |zero=>
   have A:Hid (newestF l b=none):=I.o.symm;clear I;go_wp2;exact bodyPost_ret (v:=.tuple #[.string ⟨#[]⟩,.bool false]) (by simp[results,results170,go_sem]) rfl ⟨by rw[A.o];rfl,B.o⟩
  |succ j=>
   have n:(((j+1:Nat):Int) - 1)=(j:Int):=by omega
   rw[n];have K:j<l.length:=by omega
   obtain⟨b2,A1,rfl,hb,X⟩:=z.o.resolve_left (by intro e;rw[e]at K;simp at K);obtain⟨t,N⟩:∃t,t=l.getD j txz:=⟨_,rfl⟩;have HX:Hid (l[j]?=some t):=by rw[N];exact z1u K
   have M:=(X j K).below B.o hb;rw[←N]at M;obtain⟨a0,c0,a1,c1,r,d,⟨u,y,x2,m,x4,p,q,x7,x8,x⟩,Q⟩:=M;obtain⟨O,_,U,S,_,Z⟩:=Q.rows;have Y:=zab O;have D:=zab U;have R:=zab S;have J:=zab Z;have A:Hid (newestF l b=zcu b (newestF (l.take j) b) t):=by rw[Hid,←I.o,zkd HX.o]
   have A0:(j:Int)<(l.length:Int):=by omega
   have A2:(0:Int)≤(j:Int):=by omega
   clear N X Q O U S Z I u x2 x4 p q x7 x8 x;go_wp2_with fail;refine(zle a0 c0 t.info b _ Y.o R.o).mono ?_;rintro e w1 ⟨rfl,C⟩;have k3:=zac C (Nat.lt_of_lt_of_le hb B.o.size) m;have E:=zab (zae B.o C)
   replace D:=zab (D.o.below C)
   clear C y m Y R
   cases hi:zai b t.info with
   |some s=>
    have F:Hid (newestF l b=some s):=by rw[Hid,A.o,zcu,hi];rfl
    clear A D J;go_wp2;exact bodyPost_ret (v:=.tuple #[.string s,.bool true]) (by simp[results,results170,go_sem]) rfl ⟨by rw[F.o];rfl,E.o⟩
   |none=>
    go_wp2_with fail;refine(zc7 r d t.rev b _ D.o J.o).mono ?_;rintro e w2 ⟨rfl,rfl⟩;by_cases hr:zay t.rev b=true
    ·have F:Hid (newestF l b=none):=by rw[Hid,A.o,zcu,hi];simp[hr]
     clear A D J;rw[hr];go_wp2;exact bodyPost_ret (v:=.tuple #[.string ⟨#[]⟩,.bool false]) (by simp[results,results170,go_sem]) rfl ⟨by rw[F.o];rfl,E.o⟩
    ·have L:zay t.rev b=false:=by simpa using hr
     have F:Hid (newestF (l.take j) b=newestF l b):=by rw[Hid,A.o,zcu,hi];simp[L]
     clear A D J hr;rw[L];go_wp2
     go_roundw
     case rel=>exact⟨j,by omega,by go_num,F,E⟩
     case measure=>simp[intOf]
theorem zml(a:Option Addr)(c:Nat)(l:List Tx)(w:World)(h:SegTx w a l)(hn:l.length≤maxLen):
  Calls prog 126 #[.slice a l.length c] w fun e w'=>∃v',e=.returned v'∧w'.ownsRow w.heap.size 84 2 v' (newestL l).length (cellsC (newestL l))∧Below w.heap.size w w':=by
 have N:=zab h;have M:=zab hn;clear h hn;go_enter func126,ntmps126;go_wp2
 go_loopw [3,7] (fun v i wr=>∃k:Nat,k≤12∧i=.int .i64 k∧Hid (wr.ownsRow w.heap.size 84 2 v (asN (newestF l) k).length (cellsC (asN (newestF l) k)))∧Hid (Below w.heap.size w wr)) (fun _ i _=>12 - (intOf i).toNat)
 case atStart=>exact⟨0,Nat.zero_le _,rfl,World.ownsRow_nil _ _ _ _,Below.refl _ _⟩
 case round=>
  obtain⟨k,hk,rfl,A,C⟩:=hrel;by_cases hlt:k<12
  ·have A0:(k:Int)<12:=by omega
   have hq:=zej (newestF l) k;have I:=zab (zee (newestF l) k);generalize asN (newestF l) k=q at *;go_wp2_with fail;refine(zxn a c l (k:Int) wr (N.o.below C.o) M.o).mono ?_;rintro e L ⟨rfl,E⟩;have F:=zab (zah A.o E);have B:=zab (zae C.o E);clear A C E
   cases ht:newestF l (k:Int) with
   |none=>
    have D:Hid (asN (newestF l) (k+1)=q):=by rw[Hid,I.o,zpw,ht];simp
    clear I;go_wp2
    go_roundw
    case rel=>exact⟨k+1,by omega,by go_num,by rw[D.o];exact F,B⟩
    case measure=>simp[intOf];omega
   |some u=>
    have D:Hid (asN (newestF l) (k+1)=q++[((k:Int),u)]):=by rw[Hid,I.o,zpw,ht];rfl
    clear I;go_wp2_with (at_builtin;refine zif _ w w.heap.size rfl _ _ rfl _ q.length (cellsC q) rfl (zah F.o (zaa _ _)) (some ⟨L.heap.size,0,none⟩) 1 [((k:Int),u)] rfl (.inr ⟨L.heap.size,0,rfl,by simp,fun i hi=>?_⟩) (by simp;omega) (Nat.le_trans B.o.size (by simp)) (zae B.o (zaa _ _)) ?_)
    ·have:i=0:=by simpa using hi
     subst this;exact⟨by simp[go_sem],by simp[go_sem]⟩
    ·intro v' w' J K;clear F B;go_wp2
     go_roundw
     case rel=>exact⟨k+1,by omega,by go_num,by rw[D.o,List.length_append,zc3];exact J,K⟩
     case measure=>simp[intOf];omega
  ·have e:k=12:=by omega
   subst e;go_wp2;go_ret;exact⟨_,rfl,A.o,C.o⟩
