/-
  Numbers and copies looked for in lists. Nothing of the program is proved here.
-/
import Derived.Test.YtjnpndfpajjihabGreatCore
import Derived.Test.YtjnpndfpajjihabGreatMCore
import Derived.Deep.QuietTactic
import Derived.BigQuiet
namespace Go.Proofs.YtjnpndfpajjihabGreat
open Go.RowKit

/-- Is a number among others? -/
def amongB (l : List Int) (b : Int) : Bool := l.any (· == b)
/-- The text of the first copy of a block. -/
def textIn (b : Int) : List (Int × ByteArray) → Option ByteArray
  | [] => none
  | x :: r => if x.1 = b then some x.2 else textIn b r
theorem any_hit {α : Type} {l : List α} {k : Nat} {x : α} {p : α → Bool} (h : l[k]? = some x) (hp : p x = true) : l.any p = true :=
  List.any_eq_true.2 ⟨x, List.mem_of_getElem? h, hp⟩
theorem any_miss {α : Type} {l : List α} {k : Nat} {x : α} {p : α → Bool} (h : l[k]? = some x) (hp : p x = false) (ht : (l.take k).any p = false) : (l.take (k + 1)).any p = false := by
  rw [List.take_add_one, h, List.any_append, ht]; simp [hp]
theorem text_hit {l : List (Int × ByteArray)} {k : Nat} {x : Int × ByteArray} {b : Int} (h : l[k]? = some x) (hp : x.1 = b) (ht : textIn b (l.take k) = none) : textIn b l = some x.2 := by
  induction l generalizing k with
  | nil => simp at h
  | cons y r ih =>
    cases k with
    | zero => simp at h; subst h; simp [textIn, hp]
    | succ k =>
      rw [List.take_succ_cons, textIn] at ht
      by_cases e : y.1 = b
      · rw [if_pos e] at ht; cases ht
      · rw [if_neg e] at ht
        rw [textIn, if_neg e]
        exact ih (by simpa using h) ht
theorem text_miss {l : List (Int × ByteArray)} {k : Nat} {x : Int × ByteArray} {b : Int} (h : l[k]? = some x) (hp : ¬ x.1 = b) (ht : textIn b (l.take k) = none) : textIn b (l.take (k + 1)) = none := by
  induction l generalizing k with
  | nil => simp at h
  | cons y r ih =>
    cases k with
    | zero => simp at h; subst h; simp [textIn, hp]
    | succ k =>
      rw [List.take_succ_cons, textIn] at ht ⊢
      by_cases e : y.1 = b
      · rw [if_pos e] at ht; cases ht
      · rw [if_neg e] at ht ⊢
        exact ih (by simpa using h) ht

end Go.Proofs.YtjnpndfpajjihabGreat
