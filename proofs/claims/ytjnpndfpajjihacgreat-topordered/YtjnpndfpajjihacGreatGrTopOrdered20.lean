/-
  
-/
import Derived.Test.YtjnpndfpajjihacGreatGrTopOrdered8
import Derived.Test.YtjnpndfpajjihacGreatGrTopOrdered4
import Derived.Test.YtjnpndfpajjihacGreatGrTopOrdered19
set_option maxRecDepth 100000
set_option maxHeartbeats 40000000
namespace Go.Proofs.YtjnpndfpajjihacGreat
open Go.RowKit
def zbh (d:Dk)(s:St):Dk:=if s.1=2 then zcp d else zhn d s.2.1 s.2.2
def runK (d:Dk)(l:List St):Dk:=l.foldl zbh d
theorem zi4{l:List St}{k:Nat}{s:St}(h:l[k]?=some s)(d:Dk):runK d (l.take (k+1))=zbh (runK d (l.take k)) s:=by
 rw[List.take_add_one,h,runK,List.foldl_append];rfl
theorem IsDk.setBox{w:World}{v:Value}{d:Dk}{B:Nat}{a1 a2:Option Addr}{n1 c1 n2 c2:Nat}{t:TypeId}(h:IsDk w v d)(hB:w.heap[B]?=some (.cells #[.slice a1 n1 c1,.slice a2 n2 c2] t (0,0)))(k:Nat)(u:Value):IsDk (w.setCell ⟨B,k,none⟩ u) v d:=by
 obtain⟨a,c,E,L,rfl,I,J,K,F⟩:=h
 have C:∀o x,w.cell? ⟨B,o,none⟩=some x→x=.slice a1 n1 c1∨x=.slice a2 n2 c2:=by
  intro o x A;rw[cell_of_row w _ _ _ _ _ hB]at A
  match o,A with
  |0,A=>simp at A;exact .inl A.symm
  |1,A=>simp at A;exact .inr A.symm
  |o+2,A=>simp at A
 refine⟨a,c,E,L,rfl,?_,?_,K,F⟩
 ·rcases I with e|⟨b,off,rfl,hlt,hc⟩
  ·exact .inl e
  ·by_cases h0:d.safe.length=0
   ·exact .inl (List.eq_nil_of_length_eq_zero h0)
   ·have D:b≠B:=by
     intro e;subst e;rcases C _ _ (hc 0 (by omega)) with h|h<;>cases h
    exact .inr ⟨b,off,rfl,by simpa[World.setCell] using hlt,fun i hi=>zeo (hc i hi) (by simp;exact D)⟩
 ·rcases J with e|⟨b,off,rfl,hlt,hc⟩
  ·exact .inl e
  ·by_cases h0:d.wr.length=0
   ·exact .inl (List.eq_nil_of_length_eq_zero h0)
   ·have D:b≠B:=by
     intro e;subst e;rcases C _ _ (hc 0 (by omega)).1 with h|h<;>cases h
    exact .inr ⟨b,off,rfl,by simpa[World.setCell] using hlt,fun i hi=>⟨zeo (hc i hi).1 (by simp;exact D),zeo (hc i hi).2 (by simp;exact D)⟩⟩
theorem zy0{w:World}{B:Nat}{z0 z1:Value}{t:TypeId}(h:w.heap[B]?=some (.cells #[z0,z1] t (0,0)))(v0 v1:Value):
  ((w.setCell ⟨B,0,none⟩ v0).setCell ⟨B,1,none⟩ v1).heap[B]?=some (.cells #[v0,v1] t (0,0)):=by
 have A:=heap_setCell_same w B 0 _ _ v0 h;exact heap_setCell_same _ B 1 _ _ v1 A
open Go.Proofs.Tryz
def doneE (d:Dk)(s:St):Int:=if s.1=2 then ziv d else zid d s.2.1 s.2.2
theorem z2d(v:Value)(d:Dk)(s:St)(w:World)(h:IsDk w v d):
  Calls prog 73 #[v,.agg #[.int .i64 s.1,.int .i64 s.2.1,.string s.2.2]] w fun e w'=>∃v2,e=.returned (.tuple #[v2,.int .i64 (doneE d s)])∧IsDk w' v2 (zbh d s)∧Below w.heap.size w w'∧(v2=v∨DkFrom w.heap.size v2):=by
 have i:=zab h;obtain⟨a,c,U,S,rfl,_,_,_,_⟩:=h;obtain⟨k,p,t⟩:=s;by_cases hk:k=2
 ·subst hk;have O:Hid (doneE d (2,p,t)=ziv d∧zbh d (2,p,t)=zcp d):=⟨rfl,rfl⟩;go_enter func73,ntmps73;go_wp2_with fail;refine(zvs _ d _ (i.o.below (zae (zae (zaa _ _) (zaa _ _)) (zaa _ _)))).mono ?_;rintro e X ⟨Q,rfl,C,_,hb,L⟩;obtain⟨Y,Z,E,j⟩:=zkb hb;have N:=zab (zae (zae (zae (zaa _ _) (zaa _ _)) (zaa _ _)) hb);have K:Hid (Q=_∨DkFrom w.heap.size Q):=L.imp id (fun⟨a,l,c,U,l',S,h1,h2,h3⟩=>⟨a,l,c,U,l',S,h1,fun b o e=>by have:=h2 b o e;simp at this;omega,fun b o e=>by have:=h3 b o e;simp at this;omega⟩);have R:=zab C;have I:=zab E;obtain⟨A,B,F,D,rfl,_,_,_,_⟩:=C;clear hb Y Z L;obtain⟨⟨m,q⟩,n⟩:=zgq E;clear E;go_wp2;obtain⟨W,J⟩:∃W,W=((X.setCell ⟨w.heap.size+1+1,0,none⟩ (.slice A (zcp d).safe.length B)).setCell ⟨w.heap.size+1+1,1,none⟩ (.slice F (zcp d).wr.length D)):=⟨_,rfl⟩;have M:=zy0 I.o (.slice A (zcp d).safe.length B) (.slice F (zcp d).wr.length D);rw[←J]at M⊢;obtain⟨⟨u0,u1⟩,_⟩:=zgq M;refine bodyPost_ret (v:=.tuple #[.agg #[.slice A (zcp d).safe.length B,.slice F (zcp d).wr.length D],.int .i64 (ziv d)]) (by simp[results,results73,go_sem,u0,u1]) rfl ⟨_,by rw[O.o.1],?_,?_,K.o⟩
  ·rw[O.o.2,J];exact(R.o.setBox I.o 0 _).setBox (heap_setCell_same _ _ 0 _ _ (.slice A (zcp d).safe.length B) I.o) 1 _
  ·rw[J];exact(N.o.setCell (by simp;omega) _).setCell (by simp;omega) _
 ·have A0:(k==2)=false:=by simpa using hk
  have O:Hid (doneE d (k,p,t)=zid d p t∧zbh d (k,p,t)=zhn d p t):=⟨if_neg hk,if_neg hk⟩;clear hk;go_enter func73,ntmps73;go_wp2_with fail;refine(z1y _ d p t _ (i.o.below (zae (zae (zaa _ _) (zaa _ _)) (zaa _ _)))).mono ?_;rintro e X ⟨Q,rfl,C,_,hb,L⟩;obtain⟨Y,Z,E,j⟩:=zkb hb;have N:=zab (zae (zae (zae (zaa _ _) (zaa _ _)) (zaa _ _)) hb);have K:Hid (Q=_∨DkFrom w.heap.size Q):=L.imp id (fun⟨a,l,c,U,l',S,h1,h2,h3⟩=>⟨a,l,c,U,l',S,h1,fun b o e=>by have:=h2 b o e;simp at this;omega,fun b o e=>by have:=h3 b o e;simp at this;omega⟩);have R:=zab C;have I:=zab E;obtain⟨A,B,F,D,rfl,_,_,_,_⟩:=C;clear hb Y Z L;obtain⟨⟨m,q⟩,n⟩:=zgq E;clear E;go_wp2;obtain⟨W,J⟩:∃W,W=((X.setCell ⟨w.heap.size+1+1,0,none⟩ (.slice A (zhn d p t).safe.length B)).setCell ⟨w.heap.size+1+1,1,none⟩ (.slice F (zhn d p t).wr.length D)):=⟨_,rfl⟩;have M:=zy0 I.o (.slice A (zhn d p t).safe.length B) (.slice F (zhn d p t).wr.length D);rw[←J]at M⊢;obtain⟨⟨u0,u1⟩,_⟩:=zgq M;refine bodyPost_ret (v:=.tuple #[.agg #[.slice A (zhn d p t).safe.length B,.slice F (zhn d p t).wr.length D],.int .i64 (zid d p t)]) (by simp[results,results73,go_sem,u0,u1]) rfl ⟨_,by rw[O.o.1],?_,?_,K.o⟩
  ·rw[O.o.2,J];exact(R.o.setBox I.o 0 _).setBox (heap_setCell_same _ _ 0 _ _ (.slice A (zhn d p t).safe.length B) I.o) 1 _
  ·rw[J];exact(N.o.setCell (by simp;omega) _).setCell (by simp;omega) _
