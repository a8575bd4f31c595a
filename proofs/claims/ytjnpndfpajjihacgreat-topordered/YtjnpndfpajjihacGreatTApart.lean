/- -/
import Derived.Test.YtjnpndfpajjihacGreatGrTopOrdered21
import Derived.Test.YtjnpndfpajjihacGreatTConcatI
import Derived.Test.YtjnpndfpajjihacGreatShelf
import Derived.Sort.OwnSortedInts
namespace Go.Proofs.YtjnpndfpajjihacGreat
set_option maxRecDepth 100000
set_option maxHeartbeats 40000000
open Go.RowKit
def zh3 (l:List Int):List Int:=l.mergeSort fun x y=>decide (x≤y)
theorem zg5(l:List Int):(zh3 l).length=l.length:=by simp[zh3]
theorem zzc(l:List Int)(x:Int):x∈zh3 l↔x∈l:=by simp[zh3]
theorem z2l(l:List Int):Up id (zh3 l)↔l.Nodup:=by
 have D:(zh3 l).Perm l:=List.mergeSort_perm l _;have C:(zh3 l).Pairwise (fun a b=>decide (a≤b)=true):=List.pairwise_mergeSort (fun a b c A B=>by simp at A B⊢;omega) (fun a b=>by simp;omega) l;rw[←D.nodup_iff];constructor
 ·intro h;exact List.Pairwise.imp (fun h=>by simp at h;omega) h
 ·intro h;refine(C.and h).imp ?_;rintro a b ⟨A,B⟩;simp at A;simp only[id];omega
theorem zs4(l:List Int)(h:∀x∈l,0≤x∧x≤11):zbk (zh3 l)=decide l.Nodup:=by
 rw[Bool.eq_iff_iff,za8,decide_eq_true_iff,z2l];exact⟨fun h=>h.2,fun e=>⟨fun x hx=>h x ((zzc l x).1 hx),e⟩⟩
theorem zzd(t:Tx)(h1:zbk (blksOf t.info)=true)(h2:zbk (blksOf t.data)=true)(h3:zbk t.rev=true):zbk (zh3 (zky t))=decide (zky t).Nodup:=by
 refine zs4 _ fun x hx=>?_;rw[za8]at h1 h2 h3;simp only[zky,List.mem_append]at hx;rcases hx with hx|hx|hx
 ·exact h1.1 x hx
 ·exact h2.1 x hx
 ·exact h3.1 x hx
theorem zze(l:List Int)(a:Int)(n:Nat)(h:∀x∈l,a≤x∧x<a+n)(hu:Up id l):l.length≤n:=by
 induction n generalizing a l with
 |zero=>
  cases l with
  |nil=>simp
  |cons x r=>have:=h x (by simp);omega
 |succ n ih=>
  cases l with
  |nil=>simp
  |cons x r=>
   have A:=List.pairwise_cons.1 hu;have hx:=h x (by simp);have:=ih r (a+1) (fun y hy=>by have B:=A.1 y hy;have h2:=h y (by simp[hy]);simp only[id]at B;omega) A.2;simp;omega
theorem zdm{l:List Int}(h:zbk l=true):l.length≤12:=by
 rw[za8]at h;exact zze l 0 12 (fun x hx=>by have:=h.1 x hx;omega) h.2
theorem zzf(base:Nat)(v:Value)(l:List Int)(w:World)(hown:w.ownsRow base 3 1 v l.length (cellsI l))(hn:l.length≤1000):
  Calls Tryz.prog 101 #[v] w fun e w'=>e=.returned (.tuple #[])∧w'.ownsRow base 3 1 v l.length (cellsI (zh3 l))∧∀W,Below base W w→base≤w.heap.size→Below base W w':=by
 rcases hown.2 with⟨rfl,h0⟩|⟨g,cap,cur,rfl,hb,hg,hnc,hcm,hcs,hct⟩
 ·have e:l=[]:=List.eq_nil_of_length_eq_zero h0;subst e;refine(Tryz.slices_Sort_int_none none 0 w).mono ?_;rintro e w' ⟨rfl,rfl⟩;exact⟨rfl,by rw[show zh3 []=[] from by simp[zh3]];exact World.ownsRow_nil _ _ _ _,fun W h _=>h⟩
 ·have A:g<w.heap.size:=(Array.getElem?_eq_some_iff.1 hg).1;refine(Tryz.slices_Sort_int g 0 cap l w (holds_of_blockI hg (by rw[Nat.mul_one]at hct;exact hct)) A (by omega)).mono ?_;rintro e w' ⟨rfl,n,os,rfl⟩;refine⟨rfl,ownsRow_sortedI (ts:=zh3 l) (ss:=l) (zg5 l) hb hg hnc hcm hcs,fun W h hbw=>?_⟩;exact h.grown (grownBy_sortedI _) hbw (fun k hk=>by cases hk;exact hb)
theorem zzg(B m c:Nat)(L:List (Option Addr×Nat×List Int))(w:World)(hm:L.length=m)(hm2:m≤1000)(h:zyt w B L)(hn:(flatI L).length≤1000):
  Calls Tryz.prog 63 #[.slice (some ⟨B,0,none⟩) m c] w fun e w'=>e=.returned (.bool (zbk (zh3 (flatI L))))∧Below w.heap.size w w':=by
 go_enter Tryz.func63,Tryz.ntmps63;go_wp2_with fail;refine(zig B m c L w hm hm2 h hn).mono ?_;rintro e Q ⟨N,rfl,C,F⟩;have I:=zab C;have D:=zab F;clear C F h;go_wp2_with fail;refine(zzf w.heap.size N (flatI L) Q I.o hn).mono ?_;rintro e M ⟨rfl,A,E⟩;have K:=zab (E w D.o D.o.size);obtain⟨O,c2,rfl,J,_⟩:=SegI.of_owns (l:=zh3 (flatI L)) (by rw[←zg5]at A;exact A);have R:=zab J;clear J A E I D;go_wp2_with fail;refine(zlc O c2 (zh3 (flatI L)) M R.o (by rw[zg5];unfold maxLen;omega)).mono ?_;rintro e w3 ⟨rfl,rfl⟩;go_wp2;go_ret;exact⟨rfl,K.o⟩
