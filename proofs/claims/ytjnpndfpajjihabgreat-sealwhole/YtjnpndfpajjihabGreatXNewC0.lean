/-
  The walk of package scan's newestCopies.
-/
import Derived.Test.YtjnpndfpajjihabGreatGrSealWhole29
import Derived.Test.YtjnpndfpajjihabGreatXBack0
import Derived.Test.YtjnpndfpajjihabGreatGrSealWhole30
import Derived.Test.YtjnpndfpajjihabGreatGrSealWhole7
namespace Go.Proofs.YtjnpndfpajjihabGreat
open Go.RowKit Go.Shelf

attribute [local go_sem] Oper.semAt_some

/-- The first of some copies that is of a block. -/
def firstIn (b : Int) : List (Int × ByteArray) → Option (Int × ByteArray)
  | [] => none
  | x :: r => if x.1 = b then some x else firstIn b r
/-- What the map holds behind some copies of a transaction, from the end. -/
def backF (L : Int → Int) (k : Nat) (f : Int → Option (Int × ByteArray)) (m : List (Int × ByteArray)) : Int → Option (Int × ByteArray) := fun z => match firstIn z m with
  | some c => if L z = (k : Int) then some c else f z
  | none => f z
def newCK (l : List Tx) (L : Int → Int) : Nat → Int → Option (Int × ByteArray)
  | 0 => fun _ => none
  | k + 1 => backF L k (newCK l L k) (l.getD k txz).info
theorem backF_yes {L : Int → Int} {k : Nat} {x : Int × ByteArray} (h : L x.1 = (k : Int)) (f : Int → Option (Int × ByteArray)) (r : List (Int × ByteArray)) : backF L k f (x :: r) = fun z => if z = x.1 then some (x.1, x.2) else backF L k f r z := by
  funext z
  by_cases e : z = x.1
  · subst e; simp [backF, firstIn, h]
  · have : ¬ x.1 = z := fun y => e y.symm
    simp [backF, firstIn, e, this]
theorem backF_no {L : Int → Int} {k : Nat} {x : Int × ByteArray} (h : ¬ L x.1 = (k : Int)) (f : Int → Option (Int × ByteArray)) (r : List (Int × ByteArray)) : backF L k f (x :: r) = backF L k f r := by
  funext z
  by_cases e : x.1 = z
  · subst e
    simp only [backF, firstIn, if_true]
    cases firstIn x.1 r <;> simp [h]
  · simp [backF, firstIn, e]
theorem drop_cons {α : Type} {m : List α} {j : Nat} {z : α} (h : j < m.length) : m.drop j = m.getD j z :: m.drop (j + 1) := by
  rw [List.drop_eq_getElem_cons h, List.getD, List.getElem?_eq_getElem h]
  rfl

theorem But.grownR {R base : Nat} {w A B : World} {row : Option Nat} (h : But R base w A) (hg : A.grownBy B row) (hr : ∀ r, row = some r → base ≤ r) (hs : base ≤ w.heap.size := by omega) : But R base w B :=
  h.trans (But.of_below ((Below.refl base A).grown hg (Nat.le_trans hs h.size) hr)) (Nat.le_refl _)
theorem MapC.notCells {w : World} {B n : Nat} {f : Int → Option (Int × ByteArray)} (h : MapC w B n f) {o : Obj} (ho : w.heap[B]? = some o) : o.isCells = false := by
  obtain ⟨D, ⟨es, clock, h1, _⟩, _⟩ := h
  rw [h1] at ho
  cases ho
  rfl
theorem getD_in {m : List (Int × ByteArray)} {j : Nat} (h : j < m.length) : m.getD j (0, ByteArray.empty) ∈ m := by
  rw [List.getD, List.getElem?_eq_getElem h]
  exact List.getElem_mem h
/-- The marks that ranges leave. -/
def marks (Ms : List Nat) : List Deferred := Ms.map fun r => { target := .collected r, args := #[] }
def shut (Ms : List Nat) (w : World) : World := Ms.foldl (fun w r => w.putObj r (.deferred none)) w
theorem shut_other (Ms : List Nat) (w : World) (j : Nat) (h : ∀ r ∈ Ms, r ≠ j) : (shut Ms w).heap[j]? = w.heap[j]? := by
  induction Ms generalizing w with
  | nil => rfl
  | cons r Ms ih =>
    rw [shut, List.foldl_cons]
    refine (ih _ (fun r' hr' => h r' (by simp [hr']))).trans ?_
    exact World.putObj_heap_other (Ne.symm (h r (by simp)))

theorem shut_below {base : Nat} : ∀ (Ms : List Nat) (w : World), (∀ r ∈ Ms, base ≤ r) → Ms.Nodup → (∀ r ∈ Ms, w.heap[r]? = some (.deferred (some []))) → Below base w (shut Ms w) := by
  intro Ms
  induction Ms with
  | nil => intro w _ _ _; exact Below.refl _ _
  | cons r Ms ih =>
    intro w hb hn hd
    have hn' := List.nodup_cons.1 hn
    have h1 : Below base w (w.putObj r (.deferred none)) := ⟨rfl, rfl, rfl, by simp [World.putObj], fun j hj => World.putObj_heap_other (by have := hb r (by simp); omega)⟩
    exact h1.trans (ih _ (fun q hq => hb q (by simp [hq])) hn'.2 (fun q hq => (World.putObj_heap_other (by intro e; subst e; exact hn'.1 hq)).trans (hd q (by simp [hq]))))
theorem leaves_marks {F : Fence} {n : Nat} {P : Program} {fn : Func} {tmps : Array Value} {R : Ending → World → Prop} : ∀ (Ms : List Nat) (w : World), Ms.Nodup → (∀ r ∈ Ms, w.heap[r]? = some (.deferred (some []))) → LeavesIn F n P fn tmps R [] .returning (shut Ms w) → LeavesInM F n P fn tmps R (marks Ms) .returning w := by
  intro Ms
  induction Ms with
  | nil => intro w _ _ h; exact h
  | cons r Ms ih =>
    intro w hn hd h
    have hn' := List.nodup_cons.1 hn
    refine ⟨by simp, .inl ⟨r, _, rfl, run_takeDeferred (hd r (by simp)), ih _ hn'.2 (fun q hq => ?_) h⟩⟩
    exact (World.putObj_heap_other (by intro e; subst e; exact hn'.1 hq)).trans (hd q (by simp [hq]))
end Go.Proofs.YtjnpndfpajjihabGreat
