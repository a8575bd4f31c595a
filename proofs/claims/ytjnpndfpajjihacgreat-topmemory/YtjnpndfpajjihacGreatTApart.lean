/- -/
import Derived.Test.YtjnpndfpajjihacGreatGrTopMemory22
import Derived.Test.YtjnpndfpajjihacGreatTConcatI
import Derived.Test.YtjnpndfpajjihacGreatShelf
import Derived.Sort.OwnSortedInts
namespace Go.Proofs.YtjnpndfpajjihacGreat
set_option maxRecDepth 100000
set_option maxHeartbeats 40000000
open Go.RowKit
def zhp (l:List Int):List Int:=l.mergeSort fun x y=>decide (x≤y)
theorem zgp (l:List Int):(zhp l).length=l.length:=by simp[zhp]
theorem zyi (l:List Int)(x:Int):x∈zhp l↔x∈l:=by simp[zhp]
theorem z1i (l:List Int):Up id (zhp l)↔l.Nodup:=by
 have hp:(zhp l).Perm l:=List.mergeSort_perm l _;have hs:(zhp l).Pairwise (fun a b=>decide (a≤b)=true):=List.pairwise_mergeSort (fun a b c h1 h2=>by simp at h1 h2⊢;omega) (fun a b=>by simp;omega) l;rw[←hp.nodup_iff];constructor
 ·intro h
  exact List.Pairwise.imp (fun h=>by simp at h;omega) h
 ·intro h
  refine(hs.and h).imp ?_;rintro a b ⟨h1,h2⟩;simp at h1;simp only[id];omega
theorem zsh (l:List Int)(h:∀x∈l,0≤x∧x≤11):zbg (zhp l)=decide l.Nodup:=by
 rw[Bool.eq_iff_iff,za8,decide_eq_true_iff,z1i];exact⟨fun h=>h.2,fun e=>⟨fun x hx=>h x ((zyi l x).1 hx),e⟩⟩
theorem zyj (t:Tx)(h1:zbg (blksOf t.info)=true)(h2:zbg (blksOf t.data)=true)(h3:zbg t.rev=true):zbg (zhp (zkg t))=decide (zkg t).Nodup:=by
 refine zsh _ fun x hx=>?_;rw[za8] at h1 h2 h3;simp only[zkg,List.mem_append] at hx;rcases hx with hx|hx|hx
 ·exact h1.1 x hx
 ·exact h2.1 x hx
 ·exact h3.1 x hx
theorem zyk (l:List Int)(a:Int)(n:Nat)(h:∀x∈l,a≤x∧x<a+n)(hu:Up id l):l.length≤n:=by
 induction n generalizing a l with
 |zero=>
  cases l with
  |nil=>simp
  |cons x r=>have:=h x (by simp);omega
 |succ n ih=>
  cases l with
  |nil=>simp
  |cons x r=>
   have hr:=List.pairwise_cons.1 hu;have hx:=h x (by simp);have:=ih r (a+1) (fun y hy=>by have h1:=hr.1 y hy;have h2:=h y (by simp[hy]);simp only[id] at h1;omega) hr.2;simp;omega
theorem zdf {l:List Int}(h:zbg l=true):l.length≤12:=by
 rw[za8] at h;exact zyk l 0 12 (fun x hx=>by have:=h.1 x hx;omega) h.2
theorem zyl (base:Nat)(v:Value)(l:List Int)(w:World)(hown:w.ownsRow base 3 1 v l.length (cellsI l))(hn:l.length≤1000):
  Calls Tryz.prog 101 #[v] w fun e w'=>e=.returned (.tuple #[])∧w'.ownsRow base 3 1 v l.length (cellsI (zhp l))∧∀W,Below base W w→base≤w.heap.size→Below base W w':=by
 rcases hown.2 with⟨rfl,h0⟩|⟨g,cap,cur,rfl,hb,hg,hnc,hcm,hcs,hct⟩
 ·have e:l=[]:=List.eq_nil_of_length_eq_zero h0
  subst e;refine(Tryz.slices_Sort_int_none none 0 w).mono ?_;rintro e w' ⟨rfl,rfl⟩;exact⟨rfl,by rw[show zhp []=[] from by simp[zhp]];exact World.ownsRow_nil _ _ _ _,fun W h _=>h⟩
 ·have hlt:g<w.heap.size:=(Array.getElem?_eq_some_iff.1 hg).1
  refine(Tryz.slices_Sort_int g 0 cap l w (holds_of_blockI hg (by rw[Nat.mul_one] at hct;exact hct)) hlt (by omega)).mono ?_;rintro e w' ⟨rfl,n,os,rfl⟩;refine⟨rfl,ownsRow_sortedI (ts:=zhp l) (ss:=l) (zgp l) hb hg hnc hcm hcs,fun W h hbw=>?_⟩;exact h.grown (grownBy_sortedI _) hbw (fun k hk=>by cases hk;exact hb)
theorem zym (B m c:Nat)(L:List (Option Addr×Nat×List Int))(w:World)(hm:L.length=m)(hm2:m≤1000)(h:zxz w B L)(hn:(flatI L).length≤1000):
  Calls Tryz.prog 63 #[.slice (some ⟨B,0,none⟩) m c] w fun e w'=>e=.returned (.bool (zbg (zhp (flatI L))))∧Below w.heap.size w w':=by
 go_enter Tryz.func63,Tryz.ntmps63;go_wp2_with fail;refine(zh5 B m c L w hm hm2 h hn).mono ?_;rintro e w1 ⟨v1,rfl,hown1,hb1⟩;have HO1:=zaa hown1;have HB1:=zaa hb1;clear hown1 hb1 h;go_wp2_with fail;refine(zyl w.heap.size v1 (flatI L) w1 HO1.o hn).mono ?_;rintro e w2 ⟨rfl,hown2,hb2⟩;have HB2:=zaa (hb2 w HB1.o HB1.o.size);obtain⟨a2,c2,rfl,hS,_⟩:=SegI.of_owns (l:=zhp (flatI L)) (by rw[←zgp] at hown2;exact hown2);have HS:=zaa hS;clear hS hown2 hb2 HO1 HB1;go_wp2_with fail;refine(zkt a2 c2 (zhp (flatI L)) w2 HS.o (by rw[zgp];unfold maxLen;omega)).mono ?_;rintro e w3 ⟨rfl,rfl⟩;go_wp2;go_ret;exact⟨rfl,HB2.o⟩
end Go.Proofs.YtjnpndfpajjihacGreat

