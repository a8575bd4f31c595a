/-
  Rows of numbers: past a store, and copied by append onto nil. Nothing of the program is proved here.
-/
import Derived.Test.YtjnpndfpajjihabGreatIntRows
import Derived.Test.YtjnpndfpajjihabGreatSteps
namespace Go.Proofs.YtjnpndfpajjihabGreat
open Go.RowKit

theorem SegI.setNe {w : World} {a : Option Addr} {l : List Int} (h : SegI w a l) {p : Addr} (hb : ∀ b off, a = some ⟨b, off, none⟩ → b ≠ p.block) (u : Value) : SegI (w.setCell p u) a l := by
  rcases h with h | ⟨b, off, rfl, hlt, hc⟩
  · exact .inl h
  · have := hb b off rfl
    exact .inr ⟨b, off, rfl, by simpa [World.setCell] using hlt, fun i hi => cellSet (hc i hi) this⟩
theorem SegI.news {w : World} {b off : Nat} {l : List Int} (hc : ∀ i, i < l.length → w.cell? ⟨b, off + i, none⟩ = some (.int .i64 (l.getD i 0))) (j : Nat) (u : Value) (hj : (cellsI l)[j]? = some u) : w.cell? ⟨b, off + j, none⟩ = some u := by
  have hlt : j < l.length := by
    have := (List.getElem?_eq_some_iff.1 hj).1
    rw [cellsI_length] at this; omega
  rw [cellsI_at l j hlt] at hj
  cases hj
  exact hc j hlt
theorem step_copyI {ops : Array Oper} {o : Oper} {a : Act} {w : World} {K : Act → World → Prop} {Q : Exit → Act → World → Prop} {E : Prop} (hgd : o.guard = none) (s x : Operand)
    (ho : o.op = .call { callee := .builtin .append, args := #[s, x], argTypes := #[23, 23] })
    (hs : a.eval s = .slice none 0 0) (ao : Option Addr) (c : Nat) (l : List Int) (hx : a.eval x = .slice ao l.length c) (hS : SegI w ao l) (h63 : l.length ≤ maxLen) (hbytes : l.length * 8 ≤ 140737488355328)
    (h : ∀ a2 c2 w', Hid (SegI w' a2 l ∧ ∀ b off, a2 = some ⟨b, off, none⟩ → w.heap.size ≤ b ∧ b < w'.heap.size) → Below w.heap.size w w' → K (a.put o.dst (.slice a2 l.length c2)) w') :
    if Region.wanted o (yielded ops a.tmps) = true then Oper.wp Tryz.prog o a w K Q else E := by
  obtain ⟨i0, hi, hz0, hz1, hz2⟩ := info_parts infoI
  refine step_copy hgd s x 23 ho 3 i0 (.int .i64 0) 1 8 Tryz.underlying23 hi hz0 hz1 hz2 rfl (by decide) hs ao l.length c (cellsI l) hx (cellsI_length l) ?_ ?_ cellsI_one h63 hbytes ?_
  · intro h0
    rcases hS with h | ⟨b, off, he, _⟩
    · rw [h]; rfl
    · rw [h0] at he; cases he
  · intro ad h0 j u hj
    rcases hS with h | ⟨b, off, he, hlt, hc⟩
    · rw [h] at hj; simp [cellsI] at hj
    · rw [h0] at he
      cases he
      rw [Addr.add_lit]
      exact SegI.news hc j u hj
  · intro v' w' hown hb
    obtain ⟨a2, c2, rfl, h2, _⟩ := SegI.of_owns hown
    exact h a2 c2 w' ⟨h2, fun b off e => hown.lt b (by rw [e]; rfl)⟩ hb

end Go.Proofs.YtjnpndfpajjihabGreat
