/-
  An argument of type []Order, as it reads, is a row of orders.
-/
import Derived.Test.YtfgedpicpkpdhabOpenIT
import Derived.Test.YtfgedpicpkpdhabTFitsWalk
namespace Go.Proofs.Ytfgedpicpkpdhab
open Go.RowKit Go.ChangeShapes Go.WideShapes Go.Deep Go.Joins

theorem cellsO5 : Try.prog.cellsOf 52 = 5 := by kernel_rfl
theorem wf_range {x : Int} (h : (Lit.int .i64 x).wf = true) : -9223372036854775808 ≤ x ∧ x ≤ 9223372036854775807 := by
  have e1 : IntKind.i64.min = -9223372036854775808 := by decide
  have e2 : IntKind.i64.max = 9223372036854775807 := by decide
  simpa only [Lit.wf, e1, e2, Bool.and_eq_true, decide_eq_true_eq] using h

section
variable {H : Type} {enc : TypeId × Value → H} {w : World} {spare : Nat → Bool} {held : Bool}

set_option maxRecDepth 100000 in
theorem open_orders {fuel : Nat} {v : Value} {y : DataW H × List MemPlace} (h : DataW.trod enc Try.prog w 0 spare held fuel 49 [v] = some y) :
    ∃ (a : Option Addr) (c : Nat) (l : List Od), v = .slice a l.length c ∧ SegO w a l ∧ l.length ≤ maxLen ∧ ∀ x ∈ l, OdOk x := by
  rcases open_slice Try.underlying49 h with ⟨hcs, _⟩ | ⟨x, l, c, m, n, D, Pl, hcs, _, hl, hm, hmm, hy, hel⟩
  · simp only [List.cons.injEq, and_true] at hcs
    exact ⟨none, 0, [], hcs, .inl rfl, by decide, fun s hs => by cases hs⟩
  · simp only [List.cons.injEq, and_true] at hcs
    have hle : l ≤ m := by rw [hmm]; split <;> omega
    have each : ∀ i, i < l → ∃ u : Od, (w.cell? (x.add (i * 5)) = some (.int .i64 u.kind) ∧ w.cell? ((x.add (i * 5)).add 1) = some (.int .i64 u.h) ∧ w.cell? ((x.add (i * 5)).add 2) = some (.int .i64 u.b) ∧ w.cell? ((x.add (i * 5)).add 3) = some (.int .i64 u.n) ∧ w.cell? ((x.add (i * 5)).add 4) = some (.string u.text)) ∧ OdOk u := by
      intro i hi
      obtain ⟨cs, hc, ht⟩ := hel i (by omega)
      rw [cellsO5] at hc
      obtain ⟨xs, k, _, _, hlen5, hlen, hg⟩ := DataW.trod_struct Try.underlying52 ht
      have hcl := (World.cells?_some hc).1
      match cs, hcl, xs, hlen with
      | [u0, u1, u2, u3, u4], _, [y0, y1, y2, y3, y4], _ =>
        have c0 := (World.cells?_some hc).2.2 0 (by omega)
        have c1 := (World.cells?_some hc).2.2 1 (by omega)
        have c2 := (World.cells?_some hc).2.2 2 (by omega)
        have c3 := (World.cells?_some hc).2.2 3 (by omega)
        have c4 := (World.cells?_some hc).2.2 4 (by omega)
        rw [show Addr.add (x.add (i * 5)) 0 = x.add (i * 5) from by simp [Addr.add]] at c0
        have h0 := hg 0 _ rfl
        have h1 := hg 1 _ rfl
        have h2 := hg 2 _ rfl
        have h3 := hg 3 _ rfl
        have h4 := hg 4 _ rfl
        simp [cellsN1, cellsT1] at h0 h1 h2 h3 h4
        obtain ⟨q0, e0, _, w0⟩ := DataW.trod_int Try.underlying3 h0
        obtain ⟨q1, e1, _, w1⟩ := DataW.trod_int Try.underlying3 h1
        obtain ⟨q2, e2, _, w2⟩ := DataW.trod_int Try.underlying3 h2
        obtain ⟨q3, e3, _, _⟩ := DataW.trod_int Try.underlying3 h3
        obtain ⟨q4, e4, _, w4⟩ := DataW.trod_string Try.underlying9 h4
        simp only [List.cons.injEq, and_true] at e0 e1 e2 e3 e4
        subst e0 e1 e2 e3 e4
        exact ⟨⟨q0, q1, q2, q3, q4⟩, ⟨by simpa using c0, by simpa using c1, by simpa using c2, by simpa using c3, by simpa using c4⟩, wf_range w0, wf_range w1, wf_range w2, w4⟩
    haveI : Inhabited Od := ⟨od0⟩
    obtain ⟨f, hf⟩ := choose_lt (α := Od) each
    have hlen : ((List.range l).map f).length = l := by simp
    refine ⟨some x, c, (List.range l).map f, by rw [hlen]; exact hcs, ?_, by rw [hlen]; omega, ?_⟩
    · by_cases h0 : l = 0
      · left; rw [h0]; rfl
      · right
        have hx := (hf 0 (by omega)).1.1
        rw [Nat.zero_mul] at hx
        obtain ⟨b, off, rfl, hb⟩ := spotOf hx
        refine ⟨b, off, rfl, hb, fun i hi => ?_⟩
        rw [hlen] at hi
        have g := (hf i hi).1
        simp only [Addr.add_lit] at g
        have e : ((List.range l).map f).getD i od0 = f i := by rw [List.getD, List.getElem?_map, List.getElem?_range hi]; rfl
        rw [e]
        exact g
    · intro u hu
      obtain ⟨i, hi, rfl⟩ := List.mem_map.1 hu
      exact (hf i (List.mem_range.1 hi)).2

end

end Go.Proofs.Ytfgedpicpkpdhab
