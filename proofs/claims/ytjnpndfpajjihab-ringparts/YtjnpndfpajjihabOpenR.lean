/-
  An argument of type api.Ring, as it reads, is two numbers.
-/
import Derived.Test.YtjnpndfpajjihabBase
import Derived.Test.YtjnpndfpajjihabRows
import Derived.ProofKit
import Derived.Lib.SmallJoins
namespace Go.Proofs.Ytjnpndfpajjihab
open Go.RowKit Go.ChangeShapes Go.WideShapes Go.Joins

theorem cells2R : Try.prog.cellsOf 23 = 2 := by kernel_rfl

section
variable {H : Type} {enc : TypeId × Value → H} {w : World} {spare : Nat → Bool} {held : Bool}

set_option maxRecDepth 100000 in
/-- A ring that came in is two numbers. -/
theorem open_ring {r : Reach} {b0 : Nat} {v : Value} {dt : DataW H} {p : List MemPlace} (hv : Value.okWide Try.prog w r b0 23 v) (h : DataW.Trod enc Try.prog w 0 spare held 23 v dt p) :
    ∃ x y : Int, v = .agg #[.int .i64 x, .int .i64 y] ∧ (Lit.int .i64 x).wf = true ∧ (Lit.int .i64 y).wf = true := by
  obtain ⟨c0, c1, y0, y1, m, rfl, _, _, h0, h1⟩ := open_agg2 Try.underlying23 (by kernel_rfl) cells2R hv h
  obtain ⟨a, e0, _, wa⟩ := DataW.trod_int Try.underlying3 h0
  obtain ⟨b, e1, _, wb⟩ := DataW.trod_int Try.underlying3 h1
  simp only [List.cons.injEq, and_true] at e0 e1
  subst e0 e1
  exact ⟨a, b, rfl, wa, wb⟩

end

end Go.Proofs.Ytjnpndfpajjihab
