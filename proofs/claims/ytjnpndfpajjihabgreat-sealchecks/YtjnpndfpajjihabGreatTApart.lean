/-
  The walk of slices.Sort at a row of numbers of the call's own, and of package txn's apart.
-/
import Derived.Test.YtjnpndfpajjihabGreatTRise
import Derived.Test.YtjnpndfpajjihabGreatTConcatI
import Derived.Test.YtjnpndfpajjihabGreatShelf
import Derived.Sort.OwnSortedInts
namespace Go.Proofs.YtjnpndfpajjihabGreat
open Go.RowKit

/-- Numbers in their order. -/
def sortN (l : List Int) : List Int := l.mergeSort fun x y => decide (x ≤ y)
theorem sortN_length (l : List Int) : (sortN l).length = l.length := by simp [sortN]
theorem sortN_mem (l : List Int) (x : Int) : x ∈ sortN l ↔ x ∈ l := by simp [sortN]
theorem sortN_up (l : List Int) : Up id (sortN l) ↔ l.Nodup := by
  have hp : (sortN l).Perm l := List.mergeSort_perm l _
  have hs : (sortN l).Pairwise (fun a b => decide (a ≤ b) = true) := List.pairwise_mergeSort (fun a b c h1 h2 => by simp at h1 h2 ⊢; omega) (fun a b => by simp; omega) l
  rw [← hp.nodup_iff]
  constructor
  · intro h
    exact List.Pairwise.imp (fun h => by simp at h; omega) h
  · intro h
    refine (hs.and h).imp ?_
    rintro a b ⟨h1, h2⟩
    simp at h1
    simp only [id]
    omega
theorem sortN_rises (l : List Int) (h : ∀ x ∈ l, 0 ≤ x ∧ x ≤ 11) : rises (sortN l) = decide l.Nodup := by
  rw [Bool.eq_iff_iff, rises_iff, decide_eq_true_iff, sortN_up]
  exact ⟨fun h => h.2, fun e => ⟨fun x hx => h x ((sortN_mem l x).1 hx), e⟩⟩
theorem all_rises (t : Tx) (h1 : rises (blksOf t.info) = true) (h2 : rises (blksOf t.data) = true) (h3 : rises t.rev = true) : rises (sortN (allOf t)) = decide (allOf t).Nodup := by
  refine sortN_rises _ fun x hx => ?_
  rw [rises_iff] at h1 h2 h3
  simp only [allOf, List.mem_append] at hx
  rcases hx with hx | hx | hx
  · exact h1.1 x hx
  · exact h2.1 x hx
  · exact h3.1 x hx
theorem up_length (l : List Int) (a : Int) (n : Nat) (h : ∀ x ∈ l, a ≤ x ∧ x < a + n) (hu : Up id l) : l.length ≤ n := by
  induction n generalizing a l with
  | zero =>
    cases l with
    | nil => simp
    | cons x r => have := h x (by simp); omega
  | succ n ih =>
    cases l with
    | nil => simp
    | cons x r =>
      have hr := List.pairwise_cons.1 hu
      have hx := h x (by simp)
      have := ih r (a + 1) (fun y hy => by have h1 := hr.1 y hy; have h2 := h y (by simp [hy]); simp only [id] at h1; omega) hr.2
      simp; omega
theorem rises_length {l : List Int} (h : rises l = true) : l.length ≤ 12 := by
  rw [rises_iff] at h
  exact up_length l 0 12 (fun x hx => by have := h.1 x hx; omega) h.2

theorem sortI_any (base : Nat) (v : Value) (l : List Int) (w : World) (hown : w.ownsRow base 3 1 v l.length (cellsI l)) (hn : l.length ≤ 1000) :
    Calls Tryz.prog 156 #[v] w fun e w' => e = .returned (.tuple #[]) ∧ w'.ownsRow base 3 1 v l.length (cellsI (sortN l)) ∧ ∀ W, Below base W w → base ≤ w.heap.size → Below base W w' := by
  rcases hown.2 with ⟨rfl, h0⟩ | ⟨g, cap, cur, rfl, hb, hg, hnc, hcm, hcs, hct⟩
  · have e : l = [] := List.eq_nil_of_length_eq_zero h0
    subst e
    refine (Tryz.slices_Sort_int_none none 0 w).mono ?_
    rintro e w' ⟨rfl, rfl⟩
    exact ⟨rfl, by rw [show sortN [] = [] from by simp [sortN]]; exact World.ownsRow_nil _ _ _ _, fun W h _ => h⟩
  · have hlt : g < w.heap.size := (Array.getElem?_eq_some_iff.1 hg).1
    refine (Tryz.slices_Sort_int g 0 cap l w (holds_of_blockI hg (by rw [Nat.mul_one] at hct; exact hct)) hlt (by omega)).mono ?_
    rintro e w' ⟨rfl, n, os, rfl⟩
    refine ⟨rfl, ownsRow_sortedI (ts := sortN l) (ss := l) (sortN_length l) hb hg hnc hcm hcs, fun W h hbw => ?_⟩
    exact h.grown (grownBy_sortedI _) hbw (fun k hk => by cases hk; exact hb)

set_option maxHeartbeats 1000000 in
theorem apart_any (B m c : Nat) (L : List (Option Addr × Nat × List Int)) (w : World) (hm : L.length = m) (hm2 : m ≤ 1000) (h : SegLI w B L) (hn : (flatI L).length ≤ 1000) :
    Calls Tryz.prog 128 #[.slice (some ⟨B, 0, none⟩) m c] w fun e w' => e = .returned (.bool (rises (sortN (flatI L)))) ∧ Below w.heap.size w w' := by
  go_enter Tryz.func128, Tryz.ntmps128
  go_wp2_with fail
  refine (concatI_any B m c L w hm hm2 h hn).mono ?_
  rintro e w1 ⟨v1, rfl, hown1, hb1⟩
  have HO1 := hide hown1
  have HB1 := hide hb1
  clear hown1 hb1 h
  go_wp2_with fail
  refine (sortI_any w.heap.size v1 (flatI L) w1 HO1.out hn).mono ?_
  rintro e w2 ⟨rfl, hown2, hb2⟩
  have HB2 := hide (hb2 w HB1.out HB1.out.size)
  obtain ⟨a2, c2, rfl, hS, _⟩ := SegI.of_owns (l := sortN (flatI L)) (by rw [← sortN_length] at hown2; exact hown2)
  have HS := hide hS
  clear hS hown2 hb2 HO1 HB1
  go_wp2_with fail
  refine (rise_any a2 c2 (sortN (flatI L)) w2 HS.out (by rw [sortN_length]; unfold maxLen; omega)).mono ?_
  rintro e w3 ⟨rfl, rfl⟩
  go_wp2
  go_ret
  exact ⟨rfl, HB2.out⟩

end Go.Proofs.YtjnpndfpajjihabGreat
