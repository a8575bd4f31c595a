/-
  What slices.Chunk hands to each round, and what a round must leave as it is. Nothing of the program is proved here.
-/
import Derived.Test.YtjnpndfpajjihabGreatERange
import Derived.Test.YtjnpndfpajjihabGreatERows
namespace Go.Proofs.YtjnpndfpajjihabGreat
open Go.RowKit Go.Shelf

/-- How many parts there are; how long a part is. -/
def partN (len n : Nat) : Nat := (len + (n - 1)) / n
def partL (len n k : Nat) : Nat := if n ≤ len - k * n then n else len - k * n
/-- What a round must leave as it is: two boxes. -/
def KeepsB (Bs Bn : Nat) (W W' : World) : Prop := ∀ k, (k = Bs ∨ k = Bn) → ∀ o, W.heap[k]? = some o → o.isCells = true → W'.heap[k]? = some o
theorem KeepsB.refl (Bs Bn : Nat) (W : World) : KeepsB Bs Bn W W := fun _ _ _ h _ => h
theorem KeepsB.trans {Bs Bn : Nat} (A B C : World) (h : KeepsB Bs Bn A B) (k : KeepsB Bs Bn B C) : KeepsB Bs Bn A C := fun j hj o ho hc => k j hj o (h j hj o ho hc) hc
theorem KeepsB.drew {Bs Bn : Nat} {A B : World} (h : KeepsB Bs Bn A B) : KeepsB Bs Bn A B.drew := fun j hj o ho hc => h j hj o ho hc
theorem KeepsB.undrew {Bs Bn : Nat} {A B : World} (h : KeepsB Bs Bn A.drew B) : KeepsB Bs Bn A B := fun j hj o ho hc => h j hj o ho hc
theorem KeepsB.put {Bs Bn : Nat} (W : World) (r : Nat) (o o' : Obj) (hr : W.heap[r]? = some o) (ho : o.isCells = false) : KeepsB Bs Bn W (W.putObj r o') := by
  intro k _ o2 h2 hc
  have hne : k ≠ r := by intro e; subst e; rw [hr] at h2; cases h2; rw [ho] at hc; cases hc
  exact (World.putObj_heap_other hne).trans h2
theorem KeepsB.boxed {Bs Bn : Nat} {W W' : World} (h : KeepsB Bs Bn W W') {B : Nat} (hB : B = Bs ∨ B = Bn) {t : TypeId} {v : Value} (hb : Boxed W B t v) : Boxed W' B t v := h B hB _ hb rfl
theorem KeepsB.of_fr {Bs Bn Cs Cp base : Nat} {W W' : World} (h : Fr Cs Cp base W W') {t1 t2 : TypeId} {v1 v2 : Value} (h1 : Boxed W Bs t1 v1) (h2 : Boxed W Bn t2 v2) (n1 : t1 ≠ 97) (n2 : t2 ≠ 97) (a1 : Bs ≠ Cs) (a2 : Bs ≠ Cp) (a3 : Bn ≠ Cs) (a4 : Bn ≠ Cp) : KeepsB Bs Bn W W' := by
  rintro k (rfl | rfl) o ho _
  · rw [show W.heap[k]? = _ from h1] at ho; cases ho; exact h.boxed h1 n1 a1 a2
  · rw [show W.heap[k]? = _ from h2] at ho; cases ho; exact h.boxed h2 n2 a3 a4

end Go.Proofs.YtjnpndfpajjihabGreat
