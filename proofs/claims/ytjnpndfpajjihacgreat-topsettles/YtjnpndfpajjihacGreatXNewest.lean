/- -/
import Derived.Test.YtjnpndfpajjihacGreatGrTopSettles22
import Derived.Test.YtjnpndfpajjihacGreatGrTopSettles15
namespace Go.Proofs.YtjnpndfpajjihacGreat
open Go.Proofs.Tryz
set_option maxRecDepth 100000
set_option maxHeartbeats 40000000
open Go.RowKit
theorem zxk(a:Option Addr)(c:Nat)(l:List Tx)(b:Int)(w:World)(h:SegTx w a l)(hn:l.length≤maxLen):
  Calls prog 170 #[.slice a l.length c,.int .i64 b] w fun e w'=>e=.returned (.tuple #[.string ((newestF l b).getD ⟨#[]⟩),.bool (newestF l b).isSome])∧Below w.heap.size w w':=by
 unfold maxLen at hn;have u:=zaa h;clear h;go_enter func170,ntmps170;go_wp2
 go_loopw [6] (fun i wr=>∃k:Nat,k≤l.length∧i=.int .i64 ((k:Int) - 1)∧Hid (newestF (l.take k) b=newestF l b)∧Hid (Below w.heap.size w wr)) (fun i _=>(intOf i+1).toNat)
 case atStart=>exact⟨l.length,Nat.le_refl _,by go_num,by rw[List.take_length];rfl,Below.refl _ _⟩
 case round=>
  obtain⟨k,hk,rfl,K,B⟩:=hrel
  cases k with
  |zero=>
   have A:Hid (newestF l b=none):=K.o.symm;clear K;go_wp2;exact bodyPost_ret (v:=.tuple #[.string ⟨#[]⟩,.bool false]) (by simp[results,results170,go_sem]) rfl ⟨by rw[A.o];rfl,B.o⟩
  |succ j=>
   have x:(((j+1:Nat):Int) - 1)=(j:Int):=by omega
   rw[x];have J:j<l.length:=by omega
   obtain⟨b2,off,rfl,hb,m⟩:=u.o.resolve_left (by intro e;rw[e]at J;simp at J);obtain⟨t,N⟩:∃t,t=l.getD j txz:=⟨_,rfl⟩;have HX:Hid (l[j]?=some t):=by rw[N];exact z1l J
   have M:=(m j J).below B.o hb;rw[←N]at M;obtain⟨a0,c0,a1,c1,r,d,⟨q,x1,x2,Z,x4,p,y,n,z,x9⟩,X⟩:=M;obtain⟨S,_,U,R,_,Y⟩:=X.rows;have O:=zaa S;have D:=zaa U;have Q:=zaa R;have I:=zaa Y;have A:Hid (newestF l b=zgn b (newestF (l.take j) b) t):=by rw[Hid,←K.o,zj7 HX.o]
   have A0:(j:Int)<(l.length:Int):=by omega
   have A1:(0:Int)≤(j:Int):=by omega
   clear N m X S U R Y K q x2 x4 p y n z x9;go_wp2_with fail;refine(zk7 a0 c0 t.info b _ O.o Q.o).mono ?_;rintro e w1 ⟨rfl,C⟩;have k3:=zac C (Nat.lt_of_lt_of_le hb B.o.size) Z;have E:=zaa (zae B.o C)
   replace D:=zaa (D.o.below C)
   clear C x1 Z O Q
   cases hi:zai b t.info with
   |some s=>
    have F:Hid (newestF l b=some s):=by rw[Hid,A.o,zgn,hi];rfl
    clear A D I;go_wp2;exact bodyPost_ret (v:=.tuple #[.string s,.bool true]) (by simp[results,results170,go_sem]) rfl ⟨by rw[F.o];rfl,E.o⟩
   |none=>
    go_wp2_with fail;refine(zc8 r d t.rev b _ D.o I.o).mono ?_;rintro e w2 ⟨rfl,rfl⟩;by_cases hr:za7 t.rev b=true
    ·have F:Hid (newestF l b=none):=by rw[Hid,A.o,zgn,hi];simp[hr]
     clear A D I;rw[hr];go_wp2;exact bodyPost_ret (v:=.tuple #[.string ⟨#[]⟩,.bool false]) (by simp[results,results170,go_sem]) rfl ⟨by rw[F.o];rfl,E.o⟩
    ·have L:za7 t.rev b=false:=by simpa using hr
     have F:Hid (newestF (l.take j) b=newestF l b):=by rw[Hid,A.o,zgn,hi];simp[L]
     clear A D I hr;rw[L];go_wp2
     go_roundw
     case rel=>exact⟨j,by omega,by go_num,F,E⟩
     case measure=>simp[intOf]
theorem zmc(a:Option Addr)(c:Nat)(l:List Tx)(w:World)(h:SegTx w a l)(hn:l.length≤maxLen):
  Calls prog 126 #[.slice a l.length c] w fun e w'=>∃v',e=.returned v'∧w'.ownsRow w.heap.size 84 2 v' (newestL l).length (cellsC (newestL l))∧Below w.heap.size w w':=by
 have M:=zaa h;have N:=zaa hn;clear h hn;go_enter func126,ntmps126;go_wp2
 go_loopw [3,7] (fun v i wr=>∃k:Nat,k≤12∧i=.int .i64 k∧Hid (wr.ownsRow w.heap.size 84 2 v (asN (newestF l) k).length (cellsC (asN (newestF l) k)))∧Hid (Below w.heap.size w wr)) (fun _ i _=>12 - (intOf i).toNat)
 case atStart=>exact⟨0,Nat.zero_le _,rfl,World.ownsRow_nil _ _ _ _,Below.refl _ _⟩
 case round=>
  obtain⟨k,hk,rfl,A,C⟩:=hrel;by_cases hlt:k<12
  ·have A0:(k:Int)<12:=by omega
   have hq:=zeu (newestF l) k;have I:=zaa (zep (newestF l) k);generalize asN (newestF l) k=q at *;go_wp2_with fail;refine(zxk a c l (k:Int) wr (M.o.below C.o) N.o).mono ?_;rintro e K ⟨rfl,E⟩;have F:=zaa (zah A.o E);have B:=zaa (zae C.o E);clear A C E
   cases ht:newestF l (k:Int) with
   |none=>
    have D:Hid (asN (newestF l) (k+1)=q):=by rw[Hid,I.o,zpm,ht];simp
    clear I;go_wp2
    go_roundw
    case rel=>exact⟨k+1,by omega,by go_num,by rw[D.o];exact F,B⟩
    case measure=>simp[intOf];omega
   |some u=>
    have D:Hid (asN (newestF l) (k+1)=q++[((k:Int),u)]):=by rw[Hid,I.o,zpm,ht];rfl
    clear I;go_wp2_with (at_builtin;refine zig _ w w.heap.size rfl _ _ rfl _ q.length (cellsC q) rfl (zah F.o (zab _ _)) (some ⟨K.heap.size,0,none⟩) 1 [((k:Int),u)] rfl (.inr ⟨K.heap.size,0,rfl,by simp,fun i hi=>?_⟩) (by simp;omega) (Nat.le_trans B.o.size (by simp)) (zae B.o (zab _ _)) ?_)
    ·have:i=0:=by simpa using hi
     subst this;exact⟨by simp[go_sem],by simp[go_sem]⟩
    ·intro v' w' J L;clear F B;go_wp2
     go_roundw
     case rel=>exact⟨k+1,by omega,by go_num,by rw[D.o,List.length_append,zdr];exact J,L⟩
     case measure=>simp[intOf];omega
  ·have e:k=12:=by omega
   subst e;go_wp2;go_ret;exact⟨_,rfl,A.o,C.o⟩
