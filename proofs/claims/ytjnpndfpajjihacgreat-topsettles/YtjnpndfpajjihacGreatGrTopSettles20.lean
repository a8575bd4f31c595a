/-
  
-/
import Derived.Test.YtjnpndfpajjihacGreatGrTopSettles8
import Derived.Test.YtjnpndfpajjihacGreatGrTopSettles4
import Derived.Test.YtjnpndfpajjihacGreatGrTopSettles19
set_option maxRecDepth 100000
set_option maxHeartbeats 40000000
namespace Go.Proofs.YtjnpndfpajjihacGreat
open Go.RowKit
def zbc (d:Dk)(s:St):Dk:=if s.1=2 then zcp d else zho d s.2.1 s.2.2
def runK (d:Dk)(l:List St):Dk:=l.foldl zbc d
theorem zi2{l:List St}{k:Nat}{s:St}(h:l[k]?=some s)(d:Dk):runK d (l.take (k+1))=zbc (runK d (l.take k)) s:=by
 rw[List.take_add_one,h,runK,List.foldl_append];rfl
theorem IsDk.setBox{w:World}{v:Value}{d:Dk}{B:Nat}{a1 a2:Option Addr}{n1 c1 n2 c2:Nat}{t:TypeId}(h:IsDk w v d)(hB:w.heap[B]?=some (.cells #[.slice a1 n1 c1,.slice a2 n2 c2] t (0,0)))(k:Nat)(u:Value):IsDk (w.setCell ⟨B,k,none⟩ u) v d:=by
 obtain⟨a,c,K,J,rfl,E,F,L,I⟩:=h
 have D:∀o x,w.cell? ⟨B,o,none⟩=some x→x=.slice a1 n1 c1∨x=.slice a2 n2 c2:=by
  intro o x A;rw[cell_of_row w _ _ _ _ _ hB]at A
  match o,A with
  |0,A=>simp at A;exact .inl A.symm
  |1,A=>simp at A;exact .inr A.symm
  |o+2,A=>simp at A
 refine⟨a,c,K,J,rfl,?_,?_,L,I⟩
 ·rcases E with e|⟨b,off,rfl,hlt,hc⟩
  ·exact .inl e
  ·by_cases h0:d.safe.length=0
   ·exact .inl (List.eq_nil_of_length_eq_zero h0)
   ·have C:b≠B:=by
     intro e;subst e;rcases D _ _ (hc 0 (by omega)) with h|h<;>cases h
    exact .inr ⟨b,off,rfl,by simpa[World.setCell] using hlt,fun i hi=>zfl (hc i hi) (by simp;exact C)⟩
 ·rcases F with e|⟨b,off,rfl,hlt,hc⟩
  ·exact .inl e
  ·by_cases h0:d.wr.length=0
   ·exact .inl (List.eq_nil_of_length_eq_zero h0)
   ·have C:b≠B:=by
     intro e;subst e;rcases D _ _ (hc 0 (by omega)).1 with h|h<;>cases h
    exact .inr ⟨b,off,rfl,by simpa[World.setCell] using hlt,fun i hi=>⟨zfl (hc i hi).1 (by simp;exact C),zfl (hc i hi).2 (by simp;exact C)⟩⟩
theorem zyv{w:World}{B:Nat}{z0 z1:Value}{t:TypeId}(h:w.heap[B]?=some (.cells #[z0,z1] t (0,0)))(v0 v1:Value):
  ((w.setCell ⟨B,0,none⟩ v0).setCell ⟨B,1,none⟩ v1).heap[B]?=some (.cells #[v0,v1] t (0,0)):=by
 have A:=heap_setCell_same w B 0 _ _ v0 h;exact heap_setCell_same _ B 1 _ _ v1 A
open Go.Proofs.Tryz
def doneE (d:Dk)(s:St):Int:=if s.1=2 then zh7 d else zie d s.2.1 s.2.2
theorem z14(v:Value)(d:Dk)(s:St)(w:World)(h:IsDk w v d):
  Calls prog 73 #[v,.agg #[.int .i64 s.1,.int .i64 s.2.1,.string s.2.2]] w fun e w'=>∃v2,e=.returned (.tuple #[v2,.int .i64 (doneE d s)])∧IsDk w' v2 (zbc d s)∧Below w.heap.size w w'∧(v2=v∨DkFrom w.heap.size v2):=by
 have i:=zaa h;obtain⟨a,c,U,S,rfl,_,_,_,_⟩:=h;obtain⟨k,p,t⟩:=s;by_cases hk:k=2
 ·subst hk;have R:Hid (doneE d (2,p,t)=zh7 d∧zbc d (2,p,t)=zcp d):=⟨rfl,rfl⟩;go_enter func73,ntmps73;go_wp2_with fail;refine(zvp _ d _ (i.o.below (zae (zae (zab _ _) (zab _ _)) (zab _ _)))).mono ?_;rintro e X ⟨O,rfl,C,_,hb,Q⟩;obtain⟨Z,Y,I,n⟩:=zj5 hb;have L:=zaa (zae (zae (zae (zab _ _) (zab _ _)) (zab _ _)) hb);have M:Hid (O=_∨DkFrom w.heap.size O):=Q.imp id (fun⟨a,l,c,U,l',S,h1,h2,h3⟩=>⟨a,l,c,U,l',S,h1,fun b o e=>by have:=h2 b o e;simp at this;omega,fun b o e=>by have:=h3 b o e;simp at this;omega⟩);have K:=zaa C;have J:=zaa I;obtain⟨B,A,D,F,rfl,_,_,_,_⟩:=C;clear hb Z Y Q;obtain⟨⟨q,m⟩,j⟩:=zgr I;clear I;go_wp2;obtain⟨W,E⟩:∃W,W=((X.setCell ⟨w.heap.size+1+1,0,none⟩ (.slice B (zcp d).safe.length A)).setCell ⟨w.heap.size+1+1,1,none⟩ (.slice D (zcp d).wr.length F)):=⟨_,rfl⟩;have N:=zyv J.o (.slice B (zcp d).safe.length A) (.slice D (zcp d).wr.length F);rw[←E]at N⊢;obtain⟨⟨u0,u1⟩,_⟩:=zgr N;refine bodyPost_ret (v:=.tuple #[.agg #[.slice B (zcp d).safe.length A,.slice D (zcp d).wr.length F],.int .i64 (zh7 d)]) (by simp[results,results73,go_sem,u0,u1]) rfl ⟨_,by rw[R.o.1],?_,?_,M.o⟩
  ·rw[R.o.2,E];exact(K.o.setBox J.o 0 _).setBox (heap_setCell_same _ _ 0 _ _ (.slice B (zcp d).safe.length A) J.o) 1 _
  ·rw[E];exact(L.o.setCell (by simp;omega) _).setCell (by simp;omega) _
 ·have A0:(k==2)=false:=by simpa using hk
  have R:Hid (doneE d (k,p,t)=zie d p t∧zbc d (k,p,t)=zho d p t):=⟨if_neg hk,if_neg hk⟩;clear hk;go_enter func73,ntmps73;go_wp2_with fail;refine(z1p _ d p t _ (i.o.below (zae (zae (zab _ _) (zab _ _)) (zab _ _)))).mono ?_;rintro e X ⟨O,rfl,C,_,hb,Q⟩;obtain⟨Z,Y,I,n⟩:=zj5 hb;have L:=zaa (zae (zae (zae (zab _ _) (zab _ _)) (zab _ _)) hb);have M:Hid (O=_∨DkFrom w.heap.size O):=Q.imp id (fun⟨a,l,c,U,l',S,h1,h2,h3⟩=>⟨a,l,c,U,l',S,h1,fun b o e=>by have:=h2 b o e;simp at this;omega,fun b o e=>by have:=h3 b o e;simp at this;omega⟩);have K:=zaa C;have J:=zaa I;obtain⟨B,A,D,F,rfl,_,_,_,_⟩:=C;clear hb Z Y Q;obtain⟨⟨q,m⟩,j⟩:=zgr I;clear I;go_wp2;obtain⟨W,E⟩:∃W,W=((X.setCell ⟨w.heap.size+1+1,0,none⟩ (.slice B (zho d p t).safe.length A)).setCell ⟨w.heap.size+1+1,1,none⟩ (.slice D (zho d p t).wr.length F)):=⟨_,rfl⟩;have N:=zyv J.o (.slice B (zho d p t).safe.length A) (.slice D (zho d p t).wr.length F);rw[←E]at N⊢;obtain⟨⟨u0,u1⟩,_⟩:=zgr N;refine bodyPost_ret (v:=.tuple #[.agg #[.slice B (zho d p t).safe.length A,.slice D (zho d p t).wr.length F],.int .i64 (zie d p t)]) (by simp[results,results73,go_sem,u0,u1]) rfl ⟨_,by rw[R.o.1],?_,?_,M.o⟩
  ·rw[R.o.2,E];exact(K.o.setBox J.o 0 _).setBox (heap_setCell_same _ _ 0 _ _ (.slice B (zho d p t).safe.length A) J.o) 1 _
  ·rw[E];exact(L.o.setCell (by simp;omega) _).setCell (by simp;omega) _
