/-
  slices.Backward over copies: the walk of the call, and the word of the iterator that it hands back.
-/
import Derived.Test.YtjnpndfpajjihabGreatGrSealWhole30
import Derived.Test.YtjnpndfpajjihabGreatGrSealWhole7
namespace Go.Proofs.YtjnpndfpajjihabGreat
open Go.RowKit Go.Shelf

attribute [local go_sem] Oper.semAt_some

/-- Two blocks of cells are kept. -/
def KeepsR (Bs Bn : Nat) (W W' : World) : Prop := ∀ k, (k = Bs ∨ k = Bn) → ∀ o, W.heap[k]? = some o → o.isCells = true → W'.heap[k]? = some o
theorem KeepsR.refl (Bs Bn : Nat) (W : World) : KeepsR Bs Bn W W := fun _ _ _ h _ => h
theorem KeepsR.trans {Bs Bn : Nat} (A B C : World) (h : KeepsR Bs Bn A B) (k : KeepsR Bs Bn B C) : KeepsR Bs Bn A C := fun j hj o ho hc => k j hj o (h j hj o ho hc) hc
theorem KeepsR.put {Bs Bn : Nat} (W : World) (r : Nat) (o o' : Obj) (hr : W.heap[r]? = some o) (ho : o.isCells = false) : KeepsR Bs Bn W (W.putObj r o') := by
  intro k _ x hx hc
  by_cases e : k = r
  · subst e
    rw [hr] at hx
    cases hx
    rw [ho] at hc
    cases hc
  · exact (World.putObj_heap_other e).trans hx
theorem cell_heap {W W' : World} {b : Nat} (h : W'.heap[b]? = W.heap[b]?) (o : Nat) : W'.cell? ⟨b, o, none⟩ = W.cell? ⟨b, o, none⟩ := by
  simp only [World.cell?, h]
theorem cell_obj {W : World} {b o : Nat} {v : Value} (h : W.cell? ⟨b, o, none⟩ = some v) : ∃ x, W.heap[b]? = some x ∧ x.isCells = true := by
  unfold World.cell? at h
  split at h
  · rename_i c t f hx
    exact ⟨_, hx, rfl⟩
  · cases h
theorem KeepsR.cell {Bs Bn : Nat} {W W' : World} (h : KeepsR Bs Bn W W') {B : Nat} (hB : B = Bs ∨ B = Bn) {o : Nat} {v : Value} (hc : W.cell? ⟨B, o, none⟩ = some v) : W'.cell? ⟨B, o, none⟩ = some v := by
  obtain ⟨x, h1, h2⟩ := cell_obj hc
  exact (cell_heap ((h B hB x h1 h2).trans h1.symm) o).trans hc

/-- The copies that come, one behind another. -/
def backV (m : List (Int × ByteArray)) (k : Nat) : Array Value := #[.int .i64 ((m.length - 1 - k : Nat) : Int), .agg #[.int .i64 (m.getD (m.length - 1 - k) (0, ByteArray.empty)).1, .string (m.getD (m.length - 1 - k) (0, ByteArray.empty)).2]]
def blkOf (a : Option Addr) : Nat := match a with | some x => x.block | none => 0
end Go.Proofs.YtjnpndfpajjihabGreat
