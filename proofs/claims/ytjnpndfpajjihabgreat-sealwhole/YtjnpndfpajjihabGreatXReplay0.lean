/-
  The walk of package scan's Replay: what it answers is the newest copies.
-/
import Derived.Test.YtjnpndfpajjihabGreatXNewC0
import Derived.Test.YtjnpndfpajjihabGreatTConcatC0
namespace Go.Proofs.YtjnpndfpajjihabGreat
open Go.RowKit

theorem firstIn_text (b : Int) (m : List (Int × ByteArray)) : firstIn b m = (textIn b m).map fun s => (b, s) := by
  induction m with
  | nil => rfl
  | cons x m ih =>
    rw [firstIn, textIn]
    by_cases e : x.1 = b
    · subst e; simp
    · rw [if_neg e, if_neg e, ih]
theorem textIn_among (b : Int) (m : List (Int × ByteArray)) : (textIn b m).isSome = amongB (blksOf m) b := by
  induction m with
  | nil => rfl
  | cons x m ih =>
    rw [textIn]
    by_cases e : x.1 = b
    · subst e; simp [blksOf, amongB]
    · rw [if_neg e, ih]
      simp [blksOf, amongB, e]
theorem newCK_none {l : List Tx} {L : Int → Int} {b : Int} : ∀ {K : Nat}, (∀ j, j < K → L b ≠ (j : Int)) → newCK l L K b = none := by
  intro K
  induction K with
  | zero => intro _; rfl
  | succ K ih =>
    intro h
    have h1 := ih fun j hj => h j (by omega)
    have h2 := h K (by omega)
    rw [newCK, backF]
    split
    · rw [if_neg h2]; exact h1
    · exact h1
theorem newCK_congr {l : List Tx} {L L' : Int → Int} {b : Int} (h : L b = L' b) (K : Nat) : newCK l L K b = newCK l L' K b := by
  induction K with
  | zero => rfl
  | succ K ih => rw [newCK, newCK, backF, backF, h, ih]
theorem newCK_newest (l : List Tx) (b : Int) : ∀ K, K ≤ l.length → newCK l (lastK l K) K b = (newestF (l.take K) b).map fun s => (b, s) := by
  intro K
  induction K with
  | zero => intro _; rfl
  | succ K ih =>
    intro hK
    have ht : l[K]? = some (l.getD K txz) := tx_at (by omega)
    have hl : lastK l (K + 1) b = if nameB (l.getD K txz) b = true then (K : Int) else lastK l K b := rfl
    rw [newestF_take ht, newCK, backF, firstIn_text, nwStep]
    generalize l.getD K txz = t at *
    have hs := textIn_among b t.info
    by_cases hn : nameB t b = true
    · rw [if_pos hn] at hl
      have h0 : newCK l (lastK l (K + 1)) K b = none := newCK_none fun j hj e => by rw [hl] at e; omega
      cases hx : textIn b t.info with
      | some s => simp [hl]
      | none =>
        rw [hx] at hs
        have hr : amongB t.rev b = true := by
          unfold nameB at hn
          rw [← hs] at hn
          simpa using hn
        simp [h0, hr]
    · rw [if_neg hn] at hl
      have h0 := (newCK_congr (l := l) hl K).trans (ih (by omega))
      unfold nameB at hn
      simp only [Bool.or_eq_true, not_or, Bool.not_eq_true] at hn
      cases hx : textIn b t.info with
      | some s => rw [hx, hn.2] at hs; cases hs
      | none => simp [h0, hn.1]
theorem newC_newest (l : List Tx) (b : Int) : newCK l (lastK l l.length) l.length b = (newestF l b).map fun s => (b, s) := by
  have := newCK_newest l b l.length (Nat.le_refl _)
  rwa [List.take_length] at this
end Go.Proofs.YtjnpndfpajjihabGreat
