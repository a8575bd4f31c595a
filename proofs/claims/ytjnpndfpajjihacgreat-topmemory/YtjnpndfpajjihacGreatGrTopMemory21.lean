/-
  
-/
import Derived.Test.YtjnpndfpajjihacGreatGrTopMemory9
import Derived.Test.YtjnpndfpajjihacGreatGrTopMemory4
import Derived.Test.YtjnpndfpajjihacGreatGrTopMemory20
set_option maxRecDepth 100000
set_option maxHeartbeats 40000000
namespace Go.Proofs.YtjnpndfpajjihacGreat
open Go.RowKit
def zbf (d:Dk)(s:St):Dk:=if s.1=2 then zck d else zg6 d s.2.1 s.2.2
def runK (d:Dk)(l:List St):Dk:=l.foldl zbf d
theorem zir {l:List St}{k:Nat}{s:St}(h:l[k]?=some s)(d:Dk):runK d (l.take (k+1))=zbf (runK d (l.take k)) s:=by
 rw[List.take_add_one,h,runK,List.foldl_append];rfl
theorem IsDk.setBox {w:World}{v:Value}{d:Dk}{B:Nat}{a1 a2:Option Addr}{n1 c1 n2 c2:Nat}{t:TypeId}(h:IsDk w v d)(hB:w.heap[B]?=some (.cells #[.slice a1 n1 c1,.slice a2 n2 c2] t (0,0)))(k:Nat)(u:Value):IsDk (w.setCell ⟨B,k,none⟩ u) v d:=by
 obtain⟨a,c,a',c',rfl,hS,hW,l1,l2⟩:=h
 have hcell:∀o x,w.cell? ⟨B,o,none⟩=some x→x=.slice a1 n1 c1∨x=.slice a2 n2 c2:=by
  intro o x hx;rw[cell_of_row w _ _ _ _ _ hB] at hx
  match o,hx with
  |0,hx=>simp at hx;exact .inl hx.symm
  |1,hx=>simp at hx;exact .inr hx.symm
  |o+2,hx=>simp at hx
 refine⟨a,c,a',c',rfl,?_,?_,l1,l2⟩
 ·rcases hS with e|⟨b,off,rfl,hlt,hc⟩
  ·exact .inl e
  ·by_cases h0:d.safe.length=0
   ·exact .inl (List.eq_nil_of_length_eq_zero h0)
   ·have hne:b≠B:=by
     intro e;subst e;rcases hcell _ _ (hc 0 (by omega)) with h|h<;>cases h
    exact .inr ⟨b,off,rfl,by simpa[World.setCell] using hlt,fun i hi=>ze4 (hc i hi) (by simp;exact hne)⟩
 ·rcases hW with e|⟨b,off,rfl,hlt,hc⟩
  ·exact .inl e
  ·by_cases h0:d.wr.length=0
   ·exact .inl (List.eq_nil_of_length_eq_zero h0)
   ·have hne:b≠B:=by
     intro e;subst e;rcases hcell _ _ (hc 0 (by omega)).1 with h|h<;>cases h
    exact .inr ⟨b,off,rfl,by simpa[World.setCell] using hlt,fun i hi=>⟨ze4 (hc i hi).1 (by simp;exact hne),ze4 (hc i hi).2 (by simp;exact hne)⟩⟩
theorem zx6 {w:World}{B:Nat}{z0 z1:Value}{t:TypeId}(h:w.heap[B]?=some (.cells #[z0,z1] t (0,0)))(v0 v1:Value):
  ((w.setCell ⟨B,0,none⟩ v0).setCell ⟨B,1,none⟩ v1).heap[B]?=some (.cells #[v0,v1] t (0,0)):=by
 have h0:=heap_setCell_same w B 0 _ _ v0 h;exact heap_setCell_same _ B 1 _ _ v1 h0
def doneE (d:Dk)(s:St):Int:=if s.1=2 then zih d else zh0 d s.2.1 s.2.2
theorem z1a (v:Value)(d:Dk)(s:St)(w:World)(h:IsDk w v d):
  Calls Tryz.prog 73 #[v,.agg #[.int .i64 s.1,.int .i64 s.2.1,.string s.2.2]] w fun e w'=>∃v2,e=.returned (.tuple #[v2,.int .i64 (doneE d s)])∧IsDk w' v2 (zbf d s)∧Below w.heap.size w w'∧(v2=v∨DkFrom w.heap.size v2):=by
 have HD:=zaa h;obtain⟨a,c,a',c',rfl,_,_,_,_⟩:=h;obtain⟨k,p,t⟩:=s;by_cases hk:k=2
 ·subst hk
  have HE:Hid (doneE d (2,p,t)=zih d∧zbf d (2,p,t)=zck d):=⟨rfl,rfl⟩;go_enter Tryz.func73,Tryz.ntmps73;go_wp2_with fail;refine(zuz _ d _ (HD.o.below (zae (zae (zab _ _) (zab _ _)) (zab _ _)))).mono ?_;rintro e w1 ⟨v1,rfl,hD1,_,hb,hF⟩;obtain⟨k1,k2,k3,hz⟩:=zjt hb;have HB1:=zaa (zae (zae (zae (zab _ _) (zab _ _)) (zab _ _)) hb);have HF1:Hid (v1=_∨DkFrom w.heap.size v1):=hF.imp id (fun⟨a,l,c,a',l',c',h1,h2,h3⟩=>⟨a,l,c,a',l',c',h1,fun b o e=>by have:=h2 b o e;simp at this;omega,fun b o e=>by have:=h3 b o e;simp at this;omega⟩);have HD1:=zaa hD1;have K3:=zaa k3;obtain⟨e1,e2,e3,e4,rfl,_,_,_,_⟩:=hD1;clear hb k1 k2 hF;obtain⟨⟨y0,y1⟩,yf⟩:=zfl k3;clear k3;go_wp2;obtain⟨W,hW⟩:∃W,W=((w1.setCell ⟨w.heap.size+1+1,0,none⟩ (.slice e1 (zck d).safe.length e2)).setCell ⟨w.heap.size+1+1,1,none⟩ (.slice e3 (zck d).wr.length e4)):=⟨_,rfl⟩;have hX:=zx6 K3.o (.slice e1 (zck d).safe.length e2) (.slice e3 (zck d).wr.length e4);rw[←hW] at hX⊢;obtain⟨⟨u0,u1⟩,_⟩:=zfl hX;refine bodyPost_ret (v:=.tuple #[.agg #[.slice e1 (zck d).safe.length e2,.slice e3 (zck d).wr.length e4],.int .i64 (zih d)]) (by simp[results,Tryz.results73,go_sem,u0,u1]) rfl ⟨_,by rw[HE.o.1],?_,?_,HF1.o⟩
  ·rw[HE.o.2,hW]
   exact(HD1.o.setBox K3.o 0 _).setBox (heap_setCell_same _ _ 0 _ _ (.slice e1 (zck d).safe.length e2) K3.o) 1 _
  ·rw[hW]
   exact(HB1.o.setCell (by simp;omega) _).setCell (by simp;omega) _
 ·have hk':(k==2)=false:=by simpa using hk
  have HE:Hid (doneE d (k,p,t)=zh0 d p t∧zbf d (k,p,t)=zg6 d p t):=⟨if_neg hk,if_neg hk⟩;clear hk;go_enter Tryz.func73,Tryz.ntmps73;go_wp2_with fail;refine(z0w _ d p t _ (HD.o.below (zae (zae (zab _ _) (zab _ _)) (zab _ _)))).mono ?_;rintro e w1 ⟨v1,rfl,hD1,_,hb,hF⟩;obtain⟨k1,k2,k3,hz⟩:=zjt hb;have HB1:=zaa (zae (zae (zae (zab _ _) (zab _ _)) (zab _ _)) hb);have HF1:Hid (v1=_∨DkFrom w.heap.size v1):=hF.imp id (fun⟨a,l,c,a',l',c',h1,h2,h3⟩=>⟨a,l,c,a',l',c',h1,fun b o e=>by have:=h2 b o e;simp at this;omega,fun b o e=>by have:=h3 b o e;simp at this;omega⟩);have HD1:=zaa hD1;have K3:=zaa k3;obtain⟨e1,e2,e3,e4,rfl,_,_,_,_⟩:=hD1;clear hb k1 k2 hF;obtain⟨⟨y0,y1⟩,yf⟩:=zfl k3;clear k3;go_wp2;obtain⟨W,hW⟩:∃W,W=((w1.setCell ⟨w.heap.size+1+1,0,none⟩ (.slice e1 (zg6 d p t).safe.length e2)).setCell ⟨w.heap.size+1+1,1,none⟩ (.slice e3 (zg6 d p t).wr.length e4)):=⟨_,rfl⟩;have hX:=zx6 K3.o (.slice e1 (zg6 d p t).safe.length e2) (.slice e3 (zg6 d p t).wr.length e4);rw[←hW] at hX⊢;obtain⟨⟨u0,u1⟩,_⟩:=zfl hX;refine bodyPost_ret (v:=.tuple #[.agg #[.slice e1 (zg6 d p t).safe.length e2,.slice e3 (zg6 d p t).wr.length e4],.int .i64 (zh0 d p t)]) (by simp[results,Tryz.results73,go_sem,u0,u1]) rfl ⟨_,by rw[HE.o.1],?_,?_,HF1.o⟩
  ·rw[HE.o.2,hW]
   exact(HD1.o.setBox K3.o 0 _).setBox (heap_setCell_same _ _ 0 _ _ (.slice e1 (zg6 d p t).safe.length e2) K3.o) 1 _
  ·rw[hW]
   exact(HB1.o.setCell (by simp;omega) _).setCell (by simp;omega) _
end Go.Proofs.YtjnpndfpajjihacGreat

