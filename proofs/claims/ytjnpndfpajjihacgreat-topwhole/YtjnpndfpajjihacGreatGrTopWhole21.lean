/-
  
-/
import Derived.Test.YtjnpndfpajjihacGreatGrTopWhole9
import Derived.Test.YtjnpndfpajjihacGreatGrTopWhole4
import Derived.Test.YtjnpndfpajjihacGreatGrTopWhole20
set_option maxRecDepth 100000
set_option maxHeartbeats 40000000
namespace Go.Proofs.YtjnpndfpajjihacGreat
open Go.RowKit
def zbi (d:Dk)(s:St):Dk:=if s.1=2 then zcp d else zhh d s.2.1 s.2.2
def runK (d:Dk)(l:List St):Dk:=l.foldl zbi d
theorem zix {l:List St}{k:Nat}{s:St}(h:l[k]?=some s)(d:Dk):runK d (l.take (k+1))=zbi (runK d (l.take k)) s:=by
 rw[List.take_add_one,h,runK,List.foldl_append];rfl
theorem IsDk.setBox {w:World}{v:Value}{d:Dk}{B:Nat}{a1 a2:Option Addr}{n1 c1 n2 c2:Nat}{t:TypeId}(h:IsDk w v d)(hB:w.heap[B]?=some (.cells #[.slice a1 n1 c1,.slice a2 n2 c2] t (0,0)))(k:Nat)(u:Value):IsDk (w.setCell ⟨B,k,none⟩ u) v d:=by
 obtain⟨a,c,I,J,rfl,F,E,L,K⟩:=h
 have C:∀o x,w.cell? ⟨B,o,none⟩=some x→x=.slice a1 n1 c1∨x=.slice a2 n2 c2:=by
  intro o x A;rw[cell_of_row w _ _ _ _ _ hB] at A
  match o,A with
  |0,A=>simp at A;exact .inl A.symm
  |1,A=>simp at A;exact .inr A.symm
  |o+2,A=>simp at A
 refine⟨a,c,I,J,rfl,?_,?_,L,K⟩
 ·rcases F with e|⟨b,off,rfl,hlt,hc⟩
  ·exact .inl e
  ·by_cases h0:d.safe.length=0
   ·exact .inl (List.eq_nil_of_length_eq_zero h0)
   ·have D:b≠B:=by
     intro e;subst e;rcases C _ _ (hc 0 (by omega)) with h|h<;>cases h
    exact .inr ⟨b,off,rfl,by simpa[World.setCell] using hlt,fun i hi=>zff (hc i hi) (by simp;exact D)⟩
 ·rcases E with e|⟨b,off,rfl,hlt,hc⟩
  ·exact .inl e
  ·by_cases h0:d.wr.length=0
   ·exact .inl (List.eq_nil_of_length_eq_zero h0)
   ·have D:b≠B:=by
     intro e;subst e;rcases C _ _ (hc 0 (by omega)).1 with h|h<;>cases h
    exact .inr ⟨b,off,rfl,by simpa[World.setCell] using hlt,fun i hi=>⟨zff (hc i hi).1 (by simp;exact D),zff (hc i hi).2 (by simp;exact D)⟩⟩
theorem zyv {w:World}{B:Nat}{z0 z1:Value}{t:TypeId}(h:w.heap[B]?=some (.cells #[z0,z1] t (0,0)))(v0 v1:Value):
  ((w.setCell ⟨B,0,none⟩ v0).setCell ⟨B,1,none⟩ v1).heap[B]?=some (.cells #[v0,v1] t (0,0)):=by
 have A:=heap_setCell_same w B 0 _ _ v0 h;exact heap_setCell_same _ B 1 _ _ v1 A
end Go.Proofs.YtjnpndfpajjihacGreat


namespace Go.Proofs.YtjnpndfpajjihacGreat
open Tryz
open Go.RowKit
def doneE (d:Dk)(s:St):Int:=if s.1=2 then zin d else zh9 d s.2.1 s.2.2
theorem z2c (v:Value)(d:Dk)(s:St)(w:World)(h:IsDk w v d):
  Calls prog 73 #[v,.agg #[.int .i64 s.1,.int .i64 s.2.1,.string s.2.2]] w fun e w'=>∃v2,e=.returned (.tuple #[v2,.int .i64 (doneE d s)])∧IsDk w' v2 (zbi d s)∧Below w.heap.size w w'∧(v2=v∨DkFrom w.heap.size v2):=by
 have i:=zab h;obtain⟨a,c,S,U,rfl,_,_,_,_⟩:=h;obtain⟨k,p,t⟩:=s;by_cases hk:k=2
 ·subst hk;have K:Hid (doneE d (2,p,t)=zin d∧zbi d (2,p,t)=zcp d):=⟨rfl,rfl⟩;go_enter func73,ntmps73;go_wp2_with fail;refine(zvm _ d _ (i.o.below (zae (zae (zaa _ _) (zaa _ _)) (zaa _ _)))).mono ?_;rintro e Y ⟨R,rfl,C,_,hb,Q⟩;obtain⟨Z,X,D,n⟩:=zjz hb;have N:=zab (zae (zae (zae (zaa _ _) (zaa _ _)) (zaa _ _)) hb);have L:Hid (R=_∨DkFrom w.heap.size R):=Q.imp id (fun⟨a,l,c,S,l',U,h1,h2,h3⟩=>⟨a,l,c,S,l',U,h1,fun b o e=>by have:=h2 b o e;simp at this;omega,fun b o e=>by have:=h3 b o e;simp at this;omega⟩);have M:=zab C;have I:=zab D;obtain⟨B,A,J,E,rfl,_,_,_,_⟩:=C;clear hb Z X Q;obtain⟨⟨j,m⟩,q⟩:=zgk D;clear D;go_wp2;obtain⟨W,F⟩:∃W,W=((Y.setCell ⟨w.heap.size+1+1,0,none⟩ (.slice B (zcp d).safe.length A)).setCell ⟨w.heap.size+1+1,1,none⟩ (.slice J (zcp d).wr.length E)):=⟨_,rfl⟩;have O:=zyv I.o (.slice B (zcp d).safe.length A) (.slice J (zcp d).wr.length E);rw[←F] at O⊢;obtain⟨⟨u0,u1⟩,_⟩:=zgk O;refine bodyPost_ret (v:=.tuple #[.agg #[.slice B (zcp d).safe.length A,.slice J (zcp d).wr.length E],.int .i64 (zin d)]) (by simp[results,results73,go_sem,u0,u1]) rfl ⟨_,by rw[K.o.1],?_,?_,L.o⟩
  ·rw[K.o.2,F];exact(M.o.setBox I.o 0 _).setBox (heap_setCell_same _ _ 0 _ _ (.slice B (zcp d).safe.length A) I.o) 1 _
  ·rw[F];exact(N.o.setCell (by simp;omega) _).setCell (by simp;omega) _
 ·have A0:(k==2)=false:=by simpa using hk
  have K:Hid (doneE d (k,p,t)=zh9 d p t∧zbi d (k,p,t)=zhh d p t):=⟨if_neg hk,if_neg hk⟩;clear hk;go_enter func73,ntmps73;go_wp2_with fail;refine(z1x _ d p t _ (i.o.below (zae (zae (zaa _ _) (zaa _ _)) (zaa _ _)))).mono ?_;rintro e Y ⟨R,rfl,C,_,hb,Q⟩;obtain⟨Z,X,D,n⟩:=zjz hb;have N:=zab (zae (zae (zae (zaa _ _) (zaa _ _)) (zaa _ _)) hb);have L:Hid (R=_∨DkFrom w.heap.size R):=Q.imp id (fun⟨a,l,c,S,l',U,h1,h2,h3⟩=>⟨a,l,c,S,l',U,h1,fun b o e=>by have:=h2 b o e;simp at this;omega,fun b o e=>by have:=h3 b o e;simp at this;omega⟩);have M:=zab C;have I:=zab D;obtain⟨B,A,J,E,rfl,_,_,_,_⟩:=C;clear hb Z X Q;obtain⟨⟨j,m⟩,q⟩:=zgk D;clear D;go_wp2;obtain⟨W,F⟩:∃W,W=((Y.setCell ⟨w.heap.size+1+1,0,none⟩ (.slice B (zhh d p t).safe.length A)).setCell ⟨w.heap.size+1+1,1,none⟩ (.slice J (zhh d p t).wr.length E)):=⟨_,rfl⟩;have O:=zyv I.o (.slice B (zhh d p t).safe.length A) (.slice J (zhh d p t).wr.length E);rw[←F] at O⊢;obtain⟨⟨u0,u1⟩,_⟩:=zgk O;refine bodyPost_ret (v:=.tuple #[.agg #[.slice B (zhh d p t).safe.length A,.slice J (zhh d p t).wr.length E],.int .i64 (zh9 d p t)]) (by simp[results,results73,go_sem,u0,u1]) rfl ⟨_,by rw[K.o.1],?_,?_,L.o⟩
  ·rw[K.o.2,F];exact(M.o.setBox I.o 0 _).setBox (heap_setCell_same _ _ 0 _ _ (.slice B (zhh d p t).safe.length A) I.o) 1 _
  ·rw[F];exact(N.o.setCell (by simp;omega) _).setCell (by simp;omega) _
end Go.Proofs.YtjnpndfpajjihacGreat

