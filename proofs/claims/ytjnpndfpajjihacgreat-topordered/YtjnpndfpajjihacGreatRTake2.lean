/- -/
import Derived.Test.YtjnpndfpajjihacGreatGrTopOrdered9
import Derived.Deep.RegionWith
namespace Go.Proofs.YtjnpndfpajjihacGreat
open Go.Proofs.Tryz
set_option maxRecDepth 100000
set_option maxHeartbeats 40000000
open Go.RowKit
theorem zqq(h u n:Int)(w:World):
  Calls prog 199 #[.agg #[.int .i64 h,.int .i64 u],.int .i64 n] w fun e w'=>∃a2 c2,e=.returned (.tuple #[.agg #[.int .i64 (takeH h u n),.int .i64 (takeU h u n)],.slice a2 (takeL h u n).length c2,.int .i64 (takeE h u n)])∧(SegI w' a2 (takeL h u n)∧(∀b off,a2=some ⟨b,off,none⟩→w.heap.size≤b)∧(takeL h u n).length≤c2)∧Below w.heap.size w w':=by
 go_enter func199,ntmps199;go_wp2_with fail;refine(zki h u _).mono ?_;rintro e Y ⟨rfl,N⟩;have s:w.heap.size+1<Y.heap.size:=by have:=N.size;simp at this;omega
 have Z:w.heap.size<Y.heap.size:=by omega
 obtain⟨⟨S,U⟩,_⟩:=zgq (zgr N);obtain⟨⟨K,M⟩,R,f1⟩:=zgq (zhl N);have Q:=zab (zae (zae (zaa _ _) (zaa _ _)) N);clear N;by_cases hE:zii h u=false∨n<0
 ·have I:Hid (takeE h u n=2):=by rw[Hid,takeE,if_pos hE]
  have A:Hid (takeH h u n=h∧takeU h u n=u∧takeL h u n=[]):=by simp[Hid,takeH,takeU,takeL,I.o]
  cases L:zii h u with
  |false=>
   clear L hE;go_wp2;refine bodyPost_ret (v:=.tuple #[.agg #[.int .i64 h,.int .i64 u],.slice none 0 0,.int .i64 2]) (by simp[results,results199,go_sem,K,M]) rfl ⟨none,0,by rw[I.o,A.o.1,A.o.2.1,A.o.2.2];rfl,⟨.inl A.o.2.2,fun _ _ e=>(by cases e),(by rw[A.o.2.2];exact Nat.le_refl _)⟩,?_⟩
   repeat refine Below.setCell ?_ (by simp) _
   exact Q.o
  |true=>
   have y:n<0:=by rw[L]at hE;rcases hE with e|e;cases e;exact e
   clear L hE;go_wp2;refine bodyPost_ret (v:=.tuple #[.agg #[.int .i64 h,.int .i64 u],.slice none 0 0,.int .i64 2]) (by simp[results,results199,go_sem,K,M]) rfl ⟨none,0,by rw[I.o,A.o.1,A.o.2.1,A.o.2.2];rfl,⟨.inl A.o.2.2,fun _ _ e=>(by cases e),(by rw[A.o.2.2];exact Nat.le_refl _)⟩,?_⟩
   repeat refine Below.setCell ?_ (by simp) _
   exact Q.o
 ·have L:zii h u=true:=by cases e:zii h u;exact absurd (.inl e) hE;rfl
  have hb:=zqn L;have y:¬n<0:=fun e=>hE (.inr e);rw[L];go_wp2_with fail;refine(zkj h u _ hb.2.2.1 hb.2.2.2).mono ?_;rintro e E ⟨rfl,C⟩;have A3:Y.heap.size≤E.heap.size:=C.size
  replace S:=zac C (by omega) S
  replace U:=zac C (by omega) U
  replace K:=zac C (by omega) K
  replace M:=zac C (by omega) M
  replace R:=za4 C (by omega) R
  replace f1:=za4 C (by omega) f1
  replace Q:=zab (zae Q.o C)
  replace s:w.heap.size+1<E.heap.size:=by omega
  replace Z:w.heap.size<E.heap.size:=by omega
  clear C;by_cases hs:24 - u<n
  ·have I:Hid (takeE h u n=6):=by rw[Hid,takeE,if_neg hE,if_pos hs]
   have A:Hid (takeH h u n=h∧takeU h u n=u∧takeL h u n=[]):=by simp[Hid,takeH,takeU,takeL,I.o]
   clear L hE;go_wp2;refine bodyPost_ret (v:=.tuple #[.agg #[.int .i64 h,.int .i64 u],.slice none 0 0,.int .i64 6]) (by simp[results,results199,go_sem,K,M]) rfl ⟨none,0,by rw[I.o,A.o.1,A.o.2.1,A.o.2.2];rfl,⟨.inl A.o.2.2,fun _ _ e=>(by cases e),(by rw[A.o.2.2];exact Nat.le_refl _)⟩,?_⟩
   repeat refine Below.setCell ?_ (by simp) _
   exact Q.o
  ·have I:Hid (takeE h u n=0):=by rw[Hid,takeE,if_neg hE,if_neg hs]
   obtain⟨m,rfl⟩:=Int.eq_ofNat_of_zero_le (show 0≤n by omega);have A:Hid (takeH h u m=(h+m)%24∧takeU h u m=u+m∧takeL h u m=zbu h m):=by simp[Hid,takeH,takeU,takeL,I.o]
   have A1:m≤24:=by omega
   clear L hE;have x:=z5b m (by omega);go_wp2;clear x
   go_loopw [28] (fun i wr=>∃k:Nat,k≤m∧i=.int .i64 k∧Hid (wr.ownsRow E.heap.size 3 1 (.slice (some ⟨E.heap.size,0,none⟩) m m) m (ze7 (zbu h k) (m - k)))∧Below E.heap.size E wr) (fun i _=>m - (intOf i).toNat)
   case atStart=>exact⟨0,Nat.zero_le _,rfl,znt m (by omega) E E.heap.size (Nat.le_refl _),zaa _ _⟩
   case round=>
    obtain⟨k,hk,rfl,F,B⟩:=hrel;have A4:=B.size;have A0:w.heap.size<wr.heap.size:=by omega
    have z0:=zac B (by omega) S;have z1:=zac B (by omega) U;by_cases hlt:k<m
    ·have A2:(k:Int)<(m:Int):=by omega
     have D:=F.o;rw[show m - k=(m - k - 1)+1 from by omega]at D;have X:=zns D;have O:=znr D ((h+(k:Int))%24);rw[zbo]at X O;obtain⟨⟨u0,hu⟩,A7,_,_,_⟩:=X;rw[←zs8]at O;have r:=zab O;clear O D F;go_wp2_with (go_at_call 215;refine(zqo _ _ (by omega) (by omega)).mono ?_;rintro e w' ⟨rfl,rfl⟩)
     go_roundw
     case rel=>exact⟨k+1,by omega,by go_num,by rw[show m - (k+1)=m - k - 1 from by omega];exact r,B.setCell (by simp) _⟩
     case measure=>simp[intOf];omega
    ·have e:m=k:=by omega
     subst e;have J:=F.o;rw[Nat.sub_self,znq]at J;obtain⟨a2,c2,a,c,j⟩:=SegI.of_owns J;rw[zbo]at a;simp only[Value.slice.injEq]at a;obtain⟨p,_,q⟩:=a;subst p q;have z:=zab c;have l:=zab j;have d:=zab (zae Q.o B)
     replace K:=zac B (by omega) K
     replace M:=zac B (by omega) M
     replace R:=za4 B (by omega) R
     replace f1:=za4 B (by omega) f1
     clear F J c j B S U;have A5:IntKind.i64.wrap (h+(m:Int))=h+(m:Int):=by rw[IntKind.wrap_i64];omega
     have A6:IntKind.i64.wrap (u+(m:Int))=u+(m:Int):=by rw[IntKind.wrap_i64];omega
     go_wp2
     go_region_with (go_at_call 215;refine(zqo (h+(m:Int)) _ (by omega) (by omega)).mono ?_;rintro e w' ⟨rfl,rfl⟩)
     all_goals
      go_wp2;refine bodyPost_ret (v:=.tuple #[.agg #[.int .i64 ((h+(m:Int))%24),.int .i64 (u+m)],.slice (some ⟨E.heap.size,0,none⟩) m m,.int .i64 0]) (by simp[results,results199,go_sem,K,M]) rfl ⟨_,m,by rw[I.o,A.o.1,A.o.2.1,A.o.2.2,zbo],⟨?_,fun b off e=>(by have:=l.o b off e;omega),(by rw[A.o.2.2,zbo];exact Nat.le_refl _)⟩,?_⟩
      ·rw[A.o.2.2];rcases z.o with h|⟨b,off,e,hlt,hc⟩
       ·exact .inl h
       ·have:=l.o b off e;exact .inr ⟨b,off,e,by simpa[World.setCell] using hlt,fun i hi=>zeo (zeo (hc i hi) (by simp;omega)) (by simp;omega)⟩
      ·exact((d.o.setCell (by simp) _).setCell (by simp) _).drew
