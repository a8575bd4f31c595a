/-
  
-/
import Derived.Test.YtjnpndfpajjihacGreatGrTopAnywhere9
import Derived.Test.YtjnpndfpajjihacGreatGrTopAnywhere4
import Derived.Test.YtjnpndfpajjihacGreatGrTopAnywhere20
set_option maxRecDepth 100000
set_option maxHeartbeats 40000000
namespace Go.Proofs.YtjnpndfpajjihacGreat
open Go.RowKit
def zbf (d:Dk)(s:St):Dk:=if s.1=2 then zcp d else zhq d s.2.1 s.2.2
def runK (d:Dk)(l:List St):Dk:=l.foldl zbf d
theorem zi3{l:List St}{k:Nat}{s:St}(h:l[k]?=some s)(d:Dk):runK d (l.take (k+1))=zbf (runK d (l.take k)) s:=by
 rw[List.take_add_one,h,runK,List.foldl_append];rfl
theorem IsDk.setBox{w:World}{v:Value}{d:Dk}{B:Nat}{a1 a2:Option Addr}{n1 c1 n2 c2:Nat}{t:TypeId}(h:IsDk w v d)(hB:w.heap[B]?=some (.cells #[.slice a1 n1 c1,.slice a2 n2 c2] t (0,0)))(k:Nat)(u:Value):IsDk (w.setCell ⟨B,k,none⟩ u) v d:=by
 obtain⟨a,c,L,J,rfl,F,E,K,I⟩:=h
 have D:∀o x,w.cell? ⟨B,o,none⟩=some x→x=.slice a1 n1 c1∨x=.slice a2 n2 c2:=by
  intro o x A;rw[cell_of_row w _ _ _ _ _ hB]at A
  match o,A with
  |0,A=>simp at A;exact .inl A.symm
  |1,A=>simp at A;exact .inr A.symm
  |o+2,A=>simp at A
 refine⟨a,c,L,J,rfl,?_,?_,K,I⟩
 ·rcases F with e|⟨b,off,rfl,hlt,hc⟩
  ·exact .inl e
  ·by_cases h0:d.safe.length=0
   ·exact .inl (List.eq_nil_of_length_eq_zero h0)
   ·have C:b≠B:=by
     intro e;subst e;rcases D _ _ (hc 0 (by omega)) with h|h<;>cases h
    exact .inr ⟨b,off,rfl,by simpa[World.setCell] using hlt,fun i hi=>zff (hc i hi) (by simp;exact C)⟩
 ·rcases E with e|⟨b,off,rfl,hlt,hc⟩
  ·exact .inl e
  ·by_cases h0:d.wr.length=0
   ·exact .inl (List.eq_nil_of_length_eq_zero h0)
   ·have C:b≠B:=by
     intro e;subst e;rcases D _ _ (hc 0 (by omega)).1 with h|h<;>cases h
    exact .inr ⟨b,off,rfl,by simpa[World.setCell] using hlt,fun i hi=>⟨zff (hc i hi).1 (by simp;exact C),zff (hc i hi).2 (by simp;exact C)⟩⟩
theorem zy0{w:World}{B:Nat}{z0 z1:Value}{t:TypeId}(h:w.heap[B]?=some (.cells #[z0,z1] t (0,0)))(v0 v1:Value):
  ((w.setCell ⟨B,0,none⟩ v0).setCell ⟨B,1,none⟩ v1).heap[B]?=some (.cells #[v0,v1] t (0,0)):=by
 have A:=heap_setCell_same w B 0 _ _ v0 h;exact heap_setCell_same _ B 1 _ _ v1 A
open Go.Proofs.Tryz
def doneE (d:Dk)(s:St):Int:=if s.1=2 then zh7 d else zif d s.2.1 s.2.2
theorem z2k(v:Value)(d:Dk)(s:St)(w:World)(h:IsDk w v d):
  Calls prog 73 #[v,.agg #[.int .i64 s.1,.int .i64 s.2.1,.string s.2.2]] w fun e w'=>∃v2,e=.returned (.tuple #[v2,.int .i64 (doneE d s)])∧IsDk w' v2 (zbf d s)∧Below w.heap.size w w'∧(v2=v∨DkFrom w.heap.size v2):=by
 have i:=zaa h;obtain⟨a,c,U,S,rfl,_,_,_,_⟩:=h;obtain⟨k,p,t⟩:=s;by_cases hk:k=2
 ·subst hk;have K:Hid (doneE d (2,p,t)=zh7 d∧zbf d (2,p,t)=zcp d):=⟨rfl,rfl⟩;go_enter func73,ntmps73;go_wp2_with fail;refine(zvs _ d _ (i.o.below (zae (zae (zab _ _) (zab _ _)) (zab _ _)))).mono ?_;rintro e Y ⟨M,rfl,C,_,hb,L⟩;obtain⟨X,Z,F,j⟩:=zj9 hb;have N:=zaa (zae (zae (zae (zab _ _) (zab _ _)) (zab _ _)) hb);have O:Hid (M=_∨DkFrom w.heap.size M):=L.imp id (fun⟨a,l,c,U,l',S,h1,h2,h3⟩=>⟨a,l,c,U,l',S,h1,fun b o e=>by have:=h2 b o e;simp at this;omega,fun b o e=>by have:=h3 b o e;simp at this;omega⟩);have Q:=zaa C;have J:=zaa F;obtain⟨A,B,I,E,rfl,_,_,_,_⟩:=C;clear hb X Z L;obtain⟨⟨q,n⟩,m⟩:=zgo F;clear F;go_wp2;obtain⟨W,D⟩:∃W,W=((Y.setCell ⟨w.heap.size+1+1,0,none⟩ (.slice A (zcp d).safe.length B)).setCell ⟨w.heap.size+1+1,1,none⟩ (.slice I (zcp d).wr.length E)):=⟨_,rfl⟩;have R:=zy0 J.o (.slice A (zcp d).safe.length B) (.slice I (zcp d).wr.length E);rw[←D]at R⊢;obtain⟨⟨u0,u1⟩,_⟩:=zgo R;refine bodyPost_ret (v:=.tuple #[.agg #[.slice A (zcp d).safe.length B,.slice I (zcp d).wr.length E],.int .i64 (zh7 d)]) (by simp[results,results73,go_sem,u0,u1]) rfl ⟨_,by rw[K.o.1],?_,?_,O.o⟩
  ·rw[K.o.2,D];exact(Q.o.setBox J.o 0 _).setBox (heap_setCell_same _ _ 0 _ _ (.slice A (zcp d).safe.length B) J.o) 1 _
  ·rw[D];exact(N.o.setCell (by simp;omega) _).setCell (by simp;omega) _
 ·have A0:(k==2)=false:=by simpa using hk
  have K:Hid (doneE d (k,p,t)=zif d p t∧zbf d (k,p,t)=zhq d p t):=⟨if_neg hk,if_neg hk⟩;clear hk;go_enter func73,ntmps73;go_wp2_with fail;refine(z15 _ d p t _ (i.o.below (zae (zae (zab _ _) (zab _ _)) (zab _ _)))).mono ?_;rintro e Y ⟨M,rfl,C,_,hb,L⟩;obtain⟨X,Z,F,j⟩:=zj9 hb;have N:=zaa (zae (zae (zae (zab _ _) (zab _ _)) (zab _ _)) hb);have O:Hid (M=_∨DkFrom w.heap.size M):=L.imp id (fun⟨a,l,c,U,l',S,h1,h2,h3⟩=>⟨a,l,c,U,l',S,h1,fun b o e=>by have:=h2 b o e;simp at this;omega,fun b o e=>by have:=h3 b o e;simp at this;omega⟩);have Q:=zaa C;have J:=zaa F;obtain⟨A,B,I,E,rfl,_,_,_,_⟩:=C;clear hb X Z L;obtain⟨⟨q,n⟩,m⟩:=zgo F;clear F;go_wp2;obtain⟨W,D⟩:∃W,W=((Y.setCell ⟨w.heap.size+1+1,0,none⟩ (.slice A (zhq d p t).safe.length B)).setCell ⟨w.heap.size+1+1,1,none⟩ (.slice I (zhq d p t).wr.length E)):=⟨_,rfl⟩;have R:=zy0 J.o (.slice A (zhq d p t).safe.length B) (.slice I (zhq d p t).wr.length E);rw[←D]at R⊢;obtain⟨⟨u0,u1⟩,_⟩:=zgo R;refine bodyPost_ret (v:=.tuple #[.agg #[.slice A (zhq d p t).safe.length B,.slice I (zhq d p t).wr.length E],.int .i64 (zif d p t)]) (by simp[results,results73,go_sem,u0,u1]) rfl ⟨_,by rw[K.o.1],?_,?_,O.o⟩
  ·rw[K.o.2,D];exact(Q.o.setBox J.o 0 _).setBox (heap_setCell_same _ _ 0 _ _ (.slice A (zhq d p t).safe.length B) J.o) 1 _
  ·rw[D];exact(N.o.setCell (by simp;omega) _).setCell (by simp;omega) _
