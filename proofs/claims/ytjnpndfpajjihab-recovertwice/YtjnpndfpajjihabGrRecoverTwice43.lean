/-
  The walk of package scan's Replay: what it answers is the newest copies.
  The walk of slices.Sort at a row of numbers of the call's own, and of package txn's apart.
-/
import Derived.Test.YtjnpndfpajjihabXNewC
import Derived.Test.YtjnpndfpajjihabGrRecoverTwice20
import Derived.Test.YtjnpndfpajjihabGrRecoverTwice35
import Derived.Test.YtjnpndfpajjihabGrRecoverTwice22
import Derived.Test.YtjnpndfpajjihabShelf
import Derived.Sort.OwnSortedInts
namespace Go.Proofs.Ytjnpndfpajjihab
open Go.RowKit

theorem firstIn_text (b : Int) (m : List (Int × ByteArray)) : firstIn b m = (textIn b m).map fun s => (b, s) := by
  induction m with
  | nil => rfl
  | cons x m ih =>
    rw [firstIn, textIn]
    by_cases e : x.1 = b
    · subst e; simp
    · rw [if_neg e, if_neg e, ih]
theorem textIn_among (b : Int) (m : List (Int × ByteArray)) : (textIn b m).isSome = amongB (blksOf m) b := by
  induction m with
  | nil => rfl
  | cons x m ih =>
    rw [textIn]
    by_cases e : x.1 = b
    · subst e; simp [blksOf, amongB]
    · rw [if_neg e, ih]
      simp [blksOf, amongB, e]
theorem newCK_none {l : List Tx} {L : Int → Int} {b : Int} : ∀ {K : Nat}, (∀ j, j < K → L b ≠ (j : Int)) → newCK l L K b = none := by
  intro K
  induction K with
  | zero => intro _; rfl
  | succ K ih =>
    intro h
    have h1 := ih fun j hj => h j (by omega)
    have h2 := h K (by omega)
    rw [newCK, backF]
    split
    · rw [if_neg h2]; exact h1
    · exact h1
theorem newCK_congr {l : List Tx} {L L' : Int → Int} {b : Int} (h : L b = L' b) (K : Nat) : newCK l L K b = newCK l L' K b := by
  induction K with
  | zero => rfl
  | succ K ih => rw [newCK, newCK, backF, backF, h, ih]
theorem newCK_newest (l : List Tx) (b : Int) : ∀ K, K ≤ l.length → newCK l (lastK l K) K b = (newestF (l.take K) b).map fun s => (b, s) := by
  intro K
  induction K with
  | zero => intro _; rfl
  | succ K ih =>
    intro hK
    have ht : l[K]? = some (l.getD K txz) := tx_at (by omega)
    have hl : lastK l (K + 1) b = if nameB (l.getD K txz) b = true then (K : Int) else lastK l K b := rfl
    rw [newestF_take ht, newCK, backF, firstIn_text, nwStep]
    generalize l.getD K txz = t at *
    have hs := textIn_among b t.info
    by_cases hn : nameB t b = true
    · rw [if_pos hn] at hl
      have h0 : newCK l (lastK l (K + 1)) K b = none := newCK_none fun j hj e => by rw [hl] at e; omega
      cases hx : textIn b t.info with
      | some s => simp [hl]
      | none =>
        rw [hx] at hs
        have hr : amongB t.rev b = true := by
          unfold nameB at hn
          rw [← hs] at hn
          simpa using hn
        simp [h0, hr]
    · rw [if_neg hn] at hl
      have h0 := (newCK_congr (l := l) hl K).trans (ih (by omega))
      unfold nameB at hn
      simp only [Bool.or_eq_true, not_or, Bool.not_eq_true] at hn
      cases hx : textIn b t.info with
      | some s => rw [hx, hn.2] at hs; cases hs
      | none => simp [h0, hn.1]
theorem newC_newest (l : List Tx) (b : Int) : newCK l (lastK l l.length) l.length b = (newestF l b).map fun s => (b, s) := by
  have := newCK_newest l b l.length (Nat.le_refl _)
  rwa [List.take_length] at this

set_option maxHeartbeats 4000000 in
set_option maxRecDepth 100000 in
theorem replay_any (a : Option Addr) (c : Nat) (l : List Tx) (w : World) (h : SegTx w a l) (hn : l.length * 128 ≤ 140737488355328) (hf : ∀ t ∈ l, Few t) :
    Calls Try.prog 48 #[.slice a l.length c] w fun e w' => ∃ v', e = .returned v' ∧ w'.ownsRow w.heap.size 91 2 v' (newestL l).length (cellsC (newestL l)) ∧ Below w.heap.size w w' := by
  go_enter Try.func48, Try.ntmps48
  go_wp2_with fail
  refine (newestCopies_any a c l _ h hn hf).mono ?_
  rintro e w1 ⟨B, n, rfl, hM, hB, hb1⟩
  have HM := hide hM
  have HB1 := hide hb1
  clear h hf hM hb1
  go_wp2
  go_loopw [4, 10] (fun v i wr => ∃ k : Nat, k ≤ 12 ∧ i = .int .i64 k ∧ Hid (wr.ownsRow w1.heap.size 91 2 v (asN (newestF l) k).length (cellsC (asN (newestF l) k))) ∧ Hid (Below w1.heap.size w1 wr)) (fun _ i _ => 12 - (intOf i).toNat)
  case atStart => exact ⟨0, Nat.zero_le _, rfl, World.ownsRow_nil _ _ _ _, Below.refl _ _⟩
  case round =>
    obtain ⟨k, hk, rfl, hown, hbr⟩ := hrel
    by_cases hlt : k < 12
    · have hlt' : (k : Int) < 12 := by omega
      have hq := asN_length (newestF l) k
      have HF := hide (asN_snoc (newestF l) k)
      have HM2 := hide (HM.out.below hbr.out)
      have hwf : (Lit.int .i64 (k : Int)).wf = true := wfI (by omega) (by omega)
      generalize asN (newestF l) k = q at *
      cases ht : newestF l (k : Int) with
      | none =>
        have HF2 : Hid (asN (newestF l) (k + 1) = q) := by rw [Hid, HF.out, oneC, ht]; simp
        have hlk := HM2.out.lookNone (k : Int) hwf (by rw [newC_newest, ht]; rfl)
        clear HF hwf
        go_wp2
        go_roundw
        case rel => exact ⟨k + 1, by omega, by go_num, by rw [HF2.out]; exact owns_keep hown.out (below1 _ _), bthen hbr.out (below1 _ _)⟩
        case measure => simp [intOf]; omega
      | some u =>
        have HF2 : Hid (asN (newestF l) (k + 1) = q ++ [((k : Int), u)]) := by rw [Hid, HF.out, oneC, ht]; rfl
        have hlk := HM2.out.lookSome (k : Int) hwf (a := (k : Int)) (s := u) (by rw [newC_newest, ht]; rfl)
        have HO1 := hide (owns_keep hown.out (below1 wr (.cells #[.int .i64 (k : Int), .string u] 91)))
        have HB2 := hide (bthen hbr.out (below1 wr (.cells #[.int .i64 (k : Int), .string u] 91)))
        clear HF hwf hown
        go_wp2_with (at_builtin; refine wpList_appC _ w1 w1.heap.size rfl _ _ rfl _ q.length (cellsC q) rfl (owns_keep HO1.out (below1 _ _)) (some ⟨wr.heap.size + 1, 0, none⟩) 1 [((k : Int), u)] rfl (.inr ⟨wr.heap.size + 1, 0, rfl, by simp, fun i hi => ?_⟩) (by simp; omega) (Nat.le_trans HB2.out.size (by simp)) (bthen HB2.out (below1 _ _)) ?_)
        · have : i = 0 := by simpa using hi
          subst this
          exact ⟨by simp [go_sem], by simp [go_sem]⟩
        · intro v' w' hown' hB'
          clear HO1 HB2
          go_wp2
          go_roundw
          case rel => exact ⟨k + 1, by omega, by go_num, by rw [HF2.out, List.length_append, cellsC_append]; exact hown', hB'⟩
          case measure => simp [intOf]; omega
    · have e : k = 12 := by omega
      subst e
      go_wp2
      go_ret
      exact ⟨_, rfl, owns_base hown.out HB1.out.size, bthen HB1.out hbr.out⟩

end Go.Proofs.Ytjnpndfpajjihab

namespace Go.Proofs.Ytjnpndfpajjihab
open Go.RowKit

/-- Numbers in their order. -/
def sortN (l : List Int) : List Int := l.mergeSort fun x y => decide (x ≤ y)
theorem sortN_length (l : List Int) : (sortN l).length = l.length := by simp [sortN]
theorem sortN_mem (l : List Int) (x : Int) : x ∈ sortN l ↔ x ∈ l := by simp [sortN]
theorem sortN_up (l : List Int) : Up id (sortN l) ↔ l.Nodup := by
  have hp : (sortN l).Perm l := List.mergeSort_perm l _
  have hs : (sortN l).Pairwise (fun a b => decide (a ≤ b) = true) := List.pairwise_mergeSort (fun a b c h1 h2 => by simp at h1 h2 ⊢; omega) (fun a b => by simp; omega) l
  rw [← hp.nodup_iff]
  constructor
  · intro h
    exact List.Pairwise.imp (fun h => by simp at h; omega) h
  · intro h
    refine (hs.and h).imp ?_
    rintro a b ⟨h1, h2⟩
    simp at h1
    simp only [id]
    omega
theorem sortN_rises (l : List Int) (h : ∀ x ∈ l, 0 ≤ x ∧ x ≤ 11) : rises (sortN l) = decide l.Nodup := by
  rw [Bool.eq_iff_iff, rises_iff, decide_eq_true_iff, sortN_up]
  exact ⟨fun h => h.2, fun e => ⟨fun x hx => h x ((sortN_mem l x).1 hx), e⟩⟩
theorem all_rises (t : Tx) (h1 : rises (blksOf t.info) = true) (h2 : rises (blksOf t.data) = true) (h3 : rises t.rev = true) : rises (sortN (allOf t)) = decide (allOf t).Nodup := by
  refine sortN_rises _ fun x hx => ?_
  rw [rises_iff] at h1 h2 h3
  simp only [allOf, List.mem_append] at hx
  rcases hx with hx | hx | hx
  · exact h1.1 x hx
  · exact h2.1 x hx
  · exact h3.1 x hx
theorem up_length (l : List Int) (a : Int) (n : Nat) (h : ∀ x ∈ l, a ≤ x ∧ x < a + n) (hu : Up id l) : l.length ≤ n := by
  induction n generalizing a l with
  | zero =>
    cases l with
    | nil => simp
    | cons x r => have := h x (by simp); omega
  | succ n ih =>
    cases l with
    | nil => simp
    | cons x r =>
      have hr := List.pairwise_cons.1 hu
      have hx := h x (by simp)
      have := ih r (a + 1) (fun y hy => by have h1 := hr.1 y hy; have h2 := h y (by simp [hy]); simp only [id] at h1; omega) hr.2
      simp; omega
theorem rises_length {l : List Int} (h : rises l = true) : l.length ≤ 12 := by
  rw [rises_iff] at h
  exact up_length l 0 12 (fun x hx => by have := h.1 x hx; omega) h.2

theorem sortI_any (base : Nat) (v : Value) (l : List Int) (w : World) (hown : w.ownsRow base 3 1 v l.length (cellsI l)) (hn : l.length ≤ 1000) :
    Calls Try.prog 122 #[v] w fun e w' => e = .returned (.tuple #[]) ∧ w'.ownsRow base 3 1 v l.length (cellsI (sortN l)) ∧ ∀ W, Below base W w → base ≤ w.heap.size → Below base W w' := by
  rcases hown.2 with ⟨rfl, h0⟩ | ⟨g, cap, cur, rfl, hb, hg, hnc, hcm, hcs, hct⟩
  · have e : l = [] := List.eq_nil_of_length_eq_zero h0
    subst e
    refine (Try.slices_Sort_int_none none 0 w).mono ?_
    rintro e w' ⟨rfl, rfl⟩
    exact ⟨rfl, by rw [show sortN [] = [] from by simp [sortN]]; exact World.ownsRow_nil _ _ _ _, fun W h _ => h⟩
  · have hlt : g < w.heap.size := (Array.getElem?_eq_some_iff.1 hg).1
    refine (Try.slices_Sort_int g 0 cap l w (holds_of_blockI hg (by rw [Nat.mul_one] at hct; exact hct)) hlt (by omega)).mono ?_
    rintro e w' ⟨rfl, n, os, rfl⟩
    refine ⟨rfl, ownsRow_sortedI (ts := sortN l) (ss := l) (sortN_length l) hb hg hnc hcm hcs, fun W h hbw => ?_⟩
    exact h.grown (grownBy_sortedI _) hbw (fun k hk => by cases hk; exact hb)

set_option maxHeartbeats 1000000 in
theorem apart_any (B m c : Nat) (L : List (Option Addr × Nat × List Int)) (w : World) (hm : L.length = m) (hm2 : m ≤ 1000) (h : SegLI w B L) (hn : (flatI L).length ≤ 1000) :
    Calls Try.prog 72 #[.slice (some ⟨B, 0, none⟩) m c] w fun e w' => e = .returned (.bool (rises (sortN (flatI L)))) ∧ Below w.heap.size w w' := by
  go_enter Try.func72, Try.ntmps72
  go_wp2_with fail
  refine (concatI_any B m c L w hm hm2 h hn).mono ?_
  rintro e w1 ⟨v1, rfl, hown1, hb1⟩
  have HO1 := hide hown1
  have HB1 := hide hb1
  clear hown1 hb1 h
  go_wp2_with fail
  refine (sortI_any w.heap.size v1 (flatI L) w1 HO1.out hn).mono ?_
  rintro e w2 ⟨rfl, hown2, hb2⟩
  have HB2 := hide (hb2 w HB1.out HB1.out.size)
  obtain ⟨a2, c2, rfl, hS, _⟩ := SegI.of_owns (l := sortN (flatI L)) (by rw [← sortN_length] at hown2; exact hown2)
  have HS := hide hS
  clear hS hown2 hb2 HO1 HB1
  go_wp2_with fail
  refine (rise_any a2 c2 (sortN (flatI L)) w2 HS.out (by rw [sortN_length]; unfold maxLen; omega)).mono ?_
  rintro e w3 ⟨rfl, rfl⟩
  go_wp2
  go_ret
  exact ⟨rfl, HB2.out⟩

end Go.Proofs.Ytjnpndfpajjihab
