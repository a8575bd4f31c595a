/-
  An argument of type []int, as it reads, is a row of numbers.
-/
import Derived.Test.YtjnpndfpajjihaaMCore
import Derived.Test.YtjnpndfpajjihaaRows
import Derived.ProofKit
import Derived.ChangeSlices
import Derived.Deep.Slices
import Derived.Lib.SmallJoins
namespace Go.Proofs.Ytjnpndfpajjihaa
open Go.RowKit Go.ChangeShapes Go.WideShapes Go.Deep Go.Joins

theorem cellsN1 : Try.prog.cellsOf 3 = 1 := by kernel_rfl
theorem cellsL1 : Try.prog.cellsOf 4 = 1 := by kernel_rfl
theorem bytesN : Try.prog.bytesOf 3 = 8 := by kernel_rfl

theorem spotOf {w : World} {x : Addr} {v : Value} (h : w.cell? (x.add 0) = some v) : ∃ b off, x = ⟨b, off, none⟩ ∧ b < w.heap.size := by
  obtain ⟨b, off, spot⟩ := x
  have hs : spot = none := by simpa [Addr.add] using World.cell?_spot h
  subst hs
  exact ⟨b, off, rfl, by simpa [Addr.add] using World.block_lt_of_cell? w _ h⟩

section
variable {H : Type} {enc : TypeId × Value → H} {w : World} {spare : Nat → Bool} {held : Bool}

theorem open_blocks {fuel : Nat} {v : Value} {y : DataW H × List MemPlace} (h : DataW.trod enc Try.prog w 0 spare held fuel 45 [v] = some y) :
    ∃ (a : Option Addr) (c : Nat) (l : List Int), v = .slice a l.length c ∧ SegI w a l ∧ l.length ≤ maxLen ∧ ((∀ x ∈ y.1.weights Try.prog 45, x ≤ reachBytes) → l.length * 8 ≤ reachBytes) := by
  rcases open_ints Try.underlying45 Try.underlying3 cellsN1 h with ⟨hcs, _⟩ | ⟨x, l, c, zs, hcs, _, hl, hm, hz, hy, hcell, hwf⟩
  · simp only [List.cons.injEq, and_true] at hcs
    exact ⟨none, 0, [], hcs, .inl rfl, by decide, fun _ => by decide⟩
  · simp only [List.cons.injEq, and_true] at hcs
    have hle : l ≤ zs.length := by rw [hz]; split <;> omega
    have hlen : (zs.take l).length = l := by rw [List.length_take]; omega
    refine ⟨some x, c, zs.take l, by rw [hlen]; exact hcs, ?_, by rw [hlen]; omega, ?_⟩
    · by_cases h0 : l = 0
      · left; rw [h0]; rfl
      · right
        obtain ⟨b, off, rfl, hb⟩ := spotOf (hcell 0 (by omega))
        refine ⟨b, off, rfl, hb, fun i hi => ?_⟩
        rw [hlen] at hi
        have := hcell i (by omega)
        rw [Addr.add_lit] at this
        rw [this, List.getD, List.getD, List.getElem?_take, if_pos hi]
    · intro hw
      have := hw (((lits (H := H) .i64 (zs.take l)).length + (lits (H := H) .i64 (zs.drop l)).length) * 8) (by rw [hy]; simp [DataW.weights, Try.underlying45, bytesN])
      rw [show (lits (H := H) .i64 (zs.take l)).length = l from by simp only [lits, List.length_map]; exact hlen] at this
      rw [hlen]
      exact Nat.le_trans (Nat.mul_le_mul_right 8 (Nat.le_add_right _ _)) this

end

end Go.Proofs.Ytjnpndfpajjihaa
