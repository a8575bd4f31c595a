/-
  An argument of type api.Mark, as it reads, is a mark in memory as the walks know it.
-/
import Derived.Test.YtjnpndfpajjihaaOpenI
import Derived.Test.YtjnpndfpajjihaaRows
import Derived.ProofKit
import Derived.ChangeSlices
import Derived.Deep.Slices
import Derived.Lib.SmallJoins
namespace Go.Proofs.Ytjnpndfpajjihaa
open Go.RowKit Go.ChangeShapes Go.WideShapes Go.Deep Go.Joins

theorem cellsT2 : Try.prog.cellsOf 87 = 2 := by kernel_rfl
theorem bytesT : Try.prog.bytesOf 87 = 16 := by kernel_rfl
theorem cellsM5 : Try.prog.cellsOf 47 = 5 := by kernel_rfl

theorem array5 {α : Type} {cs : Array α} (h : cs.size = 5) : ∃ c0 c1 c2 c3 c4, cs = #[c0, c1, c2, c3, c4] := by
  obtain ⟨l⟩ := cs
  match l, h with
  | [c0, c1, c2, c3, c4], _ => exact ⟨c0, c1, c2, c3, c4, rfl⟩

section
variable {H : Type} {enc : TypeId × Value → H} {w : World} {spare : Nat → Bool} {held : Bool}

/-- A struct of five fields of one cell each, by value. -/
theorem open_five {P : Program} {r : Reach} {b0 base : Nat} {t : TypeId} {f0 f1 f2 f3 f4 : Field} {v : Value} {d : DataW H} {p : List MemPlace} (hs : P.underlying t = some (.struct #[f0, f1, f2, f3, f4])) (hone : oneCellFields P #[f0, f1, f2, f3, f4] = true) (hC : P.cellsOf t = 5)
    (hv : Value.okWide P w r b0 t v) (h : DataW.Trod enc P w base spare held t v d p) :
    ∃ (v0 v1 v2 v3 v4 : Value) (y0 y1 y2 y3 y4 : DataW H × List MemPlace) (n : Nat), v = .agg #[v0, v1, v2, v3, v4] ∧ d = .agg [y0.1, y1.1, y2.1, y3.1, y4.1] ∧
      DataW.trod enc P w base spare held n f0.type [v0] = some y0 ∧ DataW.trod enc P w base spare held n f1.type [v1] = some y1 ∧ DataW.trod enc P w base spare held n f2.type [v2] = some y2 ∧ DataW.trod enc P w base spare held n f3.type [v3] = some y3 ∧ DataW.trod enc P w base spare held n f4.type [v4] = some y4 := by
  obtain ⟨cs, rfl, hsz⟩ := okWide_struct hs hv
  obtain ⟨c0, c1, c2, c3, c4, rfl⟩ := array5 (hsz.trans hC)
  obtain ⟨fuel, hf⟩ := h
  obtain ⟨xs, n, _, hx, hl, hlen, hg⟩ := DataW.trod_struct hs hf
  match xs, hlen with
  | [y0, y1, y2, y3, y4], _ =>
    obtain ⟨o0, k0⟩ := hone_of hone 0 f0 rfl
    obtain ⟨o1, k1⟩ := hone_of hone 1 f1 rfl
    obtain ⟨o2, k2⟩ := hone_of hone 2 f2 rfl
    obtain ⟨o3, k3⟩ := hone_of hone 3 f3 rfl
    obtain ⟨o4, k4⟩ := hone_of hone 4 f4 rfl
    simp only [Prod.mk.injEq] at hx
    have h0 := hg 0 f0 rfl
    have h1 := hg 1 f1 rfl
    have h2 := hg 2 f2 rfl
    have h3 := hg 3 f3 rfl
    have h4 := hg 4 f4 rfl
    exact ⟨c0, c1, c2, c3, c4, y0, y1, y2, y3, y4, n, rfl, by simpa using hx.1, by simpa [Value.cells, o0, k0] using h0, by simpa [Value.cells, o1, k1] using h1, by simpa [Value.cells, o2, k2] using h2, by simpa [Value.cells, o3, k3] using h3, by simpa [Value.cells, o4, k4] using h4⟩

set_option maxRecDepth 100000 in
theorem open_tags {fuel : Nat} {v : Value} {y : DataW H × List MemPlace} (h : DataW.trod enc Try.prog w 0 spare held fuel 44 [v] = some y) :
    ∃ (a : Option Addr) (c : Nat) (ws : List (Int × Bool)), v = .slice a ws.length c ∧ SegT w a ws ∧ ws.length ≤ maxLen ∧ ((∀ x ∈ y.1.weights Try.prog 44, x ≤ reachBytes) → ws.length * 16 ≤ reachBytes) := by
  rcases open_slice Try.underlying44 h with ⟨hcs, _⟩ | ⟨x, l, c, m, n, D, Pl, hcs, _, hl, hm, hmm, hy, hel⟩
  · simp only [List.cons.injEq, and_true] at hcs
    exact ⟨none, 0, [], hcs, .inl rfl, by decide, fun _ => by decide⟩
  · simp only [List.cons.injEq, and_true] at hcs
    have hle : l ≤ m := by rw [hmm]; split <;> omega
    have each : ∀ i, i < l → ∃ u : Int × Bool, w.cell? (x.add (i * 2)) = some (.int .i64 u.1) ∧ w.cell? ((x.add (i * 2)).add 1) = some (.bool u.2) := by
      intro i hi
      obtain ⟨cs, hc, ht⟩ := hel i (by omega)
      rw [cellsT2] at hc
      obtain ⟨y0, y1, k, _, hlen, g0, g1⟩ := trod_struct2 Try.underlying87 ht
      rw [cellsT2] at hlen
      match cs, hlen with
      | [u0, u1], _ =>
        have c0 := (World.cells?_some hc).2.2 0 (by omega)
        have c1 := (World.cells?_some hc).2.2 1 (by omega)
        rw [show Addr.add (x.add (i * 2)) 0 = x.add (i * 2) from by simp [Addr.add]] at c0
        simp only [cellsN1, cellsL1, List.drop_zero, List.drop_one, List.tail_cons, List.take_succ_cons, List.take_zero] at g0 g1
        obtain ⟨a, e0, _, wa⟩ := DataW.trod_int Try.underlying3 g0
        obtain ⟨s, e1, _⟩ := DataW.trod_bool Try.underlying4 g1
        simp only [List.cons.injEq, and_true] at e0 e1
        subst e0 e1
        exact ⟨(a, s), by simpa using c0, by simpa using c1⟩
    obtain ⟨f, hf⟩ := choose_lt (α := Int × Bool) each
    have hlen : ((List.range l).map f).length = l := by simp
    refine ⟨some x, c, (List.range l).map f, by rw [hlen]; exact hcs, ?_, by rw [hlen]; omega, ?_⟩
    · by_cases h0 : l = 0
      · left; rw [h0]; rfl
      · right
        have hx := (hf 0 (by omega)).1
        rw [Nat.zero_mul] at hx
        obtain ⟨b, off, rfl, hb⟩ := spotOf hx
        refine ⟨b, off, rfl, hb, fun i hi => ?_⟩
        rw [hlen] at hi
        have g := hf i hi
        rw [Addr.add_lit, Addr.add_lit] at g
        have e : ((List.range l).map f).getD i (0, false) = f i := by rw [List.getD, List.getElem?_map, List.getElem?_range hi]; rfl
        rw [e]
        exact g
    · intro hw
      have := hw ((((List.range l).map D).length + ((List.range (m - l)).map fun j => D (l + j)).length) * 16) (by rw [hy]; simp [DataW.weights, Try.underlying44, bytesT])
      rw [show ((List.range l).map D).length = l from by simp] at this
      rw [hlen]
      exact Nat.le_trans (Nat.mul_le_mul_right 16 (Nat.le_add_right _ _)) this

set_option maxRecDepth 100000 in
/-- A mark that came in is a mark. -/
theorem open_mark {r : Reach} {b0 : Nat} {v : Value} {dt : DataW H} {p : List MemPlace} (hv : Value.okWide Try.prog w r b0 47 v) (h : DataW.Trod enc Try.prog w 0 spare held 47 v dt p) :
    ∃ m : Mk, IsMk w v m ∧ ((∀ x ∈ dt.weights Try.prog 47, x ≤ reachBytes) → m.tags.length * 16 ≤ 140737488355328 ∧ m.blocks.length * 8 ≤ 140737488355328) := by
  obtain ⟨c0, c1, c2, c3, c4, y0, y1, y2, y3, y4, n, rfl, hdt, h0, h1, h2, h3, h4⟩ := open_five Try.underlying47 (by kernel_rfl) cellsM5 hv h
  obtain ⟨k, e0, _, _⟩ := DataW.trod_int Try.underlying3 h0
  obtain ⟨q, e1, _, _⟩ := DataW.trod_int Try.underlying3 h1
  obtain ⟨p2, e2, _, _⟩ := DataW.trod_int Try.underlying3 h2
  simp only [List.cons.injEq, and_true] at e0 e1 e2
  subst e0 e1 e2
  obtain ⟨a, c, ts, rfl, hS, hn, hr⟩ := open_tags h3
  obtain ⟨a', c', bs, rfl, hW, hm, hr'⟩ := open_blocks h4
  refine ⟨⟨k, q, p2, ts, bs⟩, ⟨a, c, a', c', rfl, hS, hW, hn, hm⟩, fun hw => ?_⟩
  have e : DataW.weights Try.prog 47 dt = y0.1.weights Try.prog 3 ++ (y1.1.weights Try.prog 3 ++ (y2.1.weights Try.prog 3 ++ (y3.1.weights Try.prog 44 ++ (y4.1.weights Try.prog 45 ++ [])))) := by
    rw [hdt]
    simp only [DataW.weights, Try.underlying47]
    rfl
  rw [e] at hw
  have k1 := hr fun x hx => hw x (by simp [hx])
  have k2 := hr' fun x hx => hw x (by simp [hx])
  unfold reachBytes at k1 k2
  exact ⟨by show ts.length * 16 ≤ _; omega, by show bs.length * 8 ≤ _; omega⟩

end

end Go.Proofs.Ytjnpndfpajjihaa
