/-
  Rows of copies: as the cells of a row of the call's own, copied, and past a store.
-/
import Derived.Test.YtjnpndfpajjihabGreatTCore
import Derived.Test.YtjnpndfpajjihabGreatIntRows2
namespace Go.Proofs.YtjnpndfpajjihabGreat
open Go.RowKit

theorem SegW.setNe {w : World} {a : Option Addr} {l : List (Int × ByteArray)} (h : SegW w a l) {p : Addr} (hb : ∀ b off, a = some ⟨b, off, none⟩ → b ≠ p.block) (u : Value) : SegW (w.setCell p u) a l := by
  rcases h with h | ⟨b, off, rfl, hlt, hc⟩
  · exact .inl h
  · have := hb b off rfl
    exact .inr ⟨b, off, rfl, by simpa [World.setCell] using hlt, fun i hi => ⟨cellSet (hc i hi).1 this, cellSet (hc i hi).2 this⟩⟩

def cellsC : List (Int × ByteArray) → List Value
  | [] => []
  | x :: r => .int .i64 x.1 :: .string x.2 :: cellsC r
theorem cellsC_length (l : List (Int × ByteArray)) : (cellsC l).length = l.length * 2 := by
  induction l with
  | nil => rfl
  | cons x r ih => simp [cellsC, ih]; omega
theorem cellsC_append (l r : List (Int × ByteArray)) : cellsC (l ++ r) = cellsC l ++ cellsC r := by
  induction l with
  | nil => rfl
  | cons x r ih => simp [cellsC, ih]
theorem cellsC_one (l : List (Int × ByteArray)) : ∀ u ∈ cellsC l, u.oneCell' = true := by
  induction l with
  | nil => intro u hu; simp [cellsC] at hu
  | cons x r ih =>
    intro u hu
    simp only [cellsC, List.mem_cons] at hu
    rcases hu with rfl | rfl | hu
    · rfl
    · rfl
    · exact ih u hu
theorem cellsC_at (l : List (Int × ByteArray)) (i : Nat) (h : i < l.length) : (cellsC l)[i * 2]? = some (.int .i64 (l.getD i (0, ByteArray.empty)).1) ∧ (cellsC l)[i * 2 + 1]? = some (.string (l.getD i (0, ByteArray.empty)).2) := by
  induction l generalizing i with
  | nil => simp at h
  | cons x r ih =>
    cases i with
    | zero => exact ⟨rfl, rfl⟩
    | succ i =>
      have e1 : (i + 1) * 2 = i * 2 + 1 + 1 := by omega
      have e2 : (i + 1) * 2 + 1 = i * 2 + 1 + 1 + 1 := by omega
      rw [cellsC, e1, List.getElem?_cons_succ, List.getElem?_cons_succ, List.getElem?_cons_succ, List.getElem?_cons_succ]
      simpa using ih i (by simpa using h)
theorem SegC.of_owns {w : World} {base n : Nat} {v : Value} {l : List (Int × ByteArray)} (h : w.ownsRow base 78 2 v n (cellsC l)) : ∃ a c, v = .slice a l.length c ∧ SegW w a l ∧ ∀ b off, a = some ⟨b, off, none⟩ → base ≤ b := by
  have hn : l.length = n := by have := h.1; rw [cellsC_length] at this; omega
  subst hn
  rcases h.2 with ⟨rfl, h0⟩ | ⟨g, cap, cur, rfl, hb, hg, rest⟩
  · exact ⟨none, 0, by rw [h0], .inl (List.eq_nil_of_length_eq_zero h0), fun _ _ h => by cases h⟩
  · refine ⟨_, cap, rfl, .inr ⟨g, 0, rfl, (Array.getElem?_eq_some_iff.1 hg).1, fun i hi => ?_⟩, fun _ _ h => by cases h; exact hb⟩
    have e := cellsC_at l i hi
    rw [Nat.zero_add, h.cellAt (i * 2) (by omega), h.cellAt (i * 2 + 1) (by omega)]
    exact e
theorem infoC : (Tryz.prog.info? 78).map (fun i => (i.zero, i.size, i.bytes)) = some (some (.agg #[.int .i64 0, .string ⟨#[]⟩]), 2, 24) := by kernel_rfl
theorem SegC.news {w : World} {b off : Nat} {l : List (Int × ByteArray)} (hc : ∀ i, i < l.length → w.cell? ⟨b, off + i * 2, none⟩ = some (.int .i64 (l.getD i (0, ByteArray.empty)).1) ∧ w.cell? ⟨b, off + i * 2 + 1, none⟩ = some (.string (l.getD i (0, ByteArray.empty)).2)) (j : Nat) (u : Value) (hj : (cellsC l)[j]? = some u) : w.cell? ⟨b, off + j, none⟩ = some u := by
  have hlt : j < l.length * 2 := by
    have := (List.getElem?_eq_some_iff.1 hj).1
    rw [cellsC_length] at this; omega
  obtain ⟨i, hi⟩ : ∃ i, i = j / 2 := ⟨_, rfl⟩
  have hil : i < l.length := by omega
  have e := cellsC_at l i hil
  have g := hc i hil
  by_cases h0 : j % 2 = 0
  · have hj2 : j = i * 2 := by omega
    rw [hj2] at hj ⊢
    rw [e.1] at hj
    cases hj
    exact g.1
  · have hj2 : j = i * 2 + 1 := by omega
    rw [hj2] at hj ⊢
    rw [e.2] at hj
    cases hj
    have : off + (i * 2 + 1) = off + i * 2 + 1 := by omega
    rw [this]
    exact g.2

theorem step_copyC {ops : Array Oper} {o : Oper} {a : Act} {w : World} {K : Act → World → Prop} {Q : Exit → Act → World → Prop} {E : Prop} (hgd : o.guard = none) (s x : Operand)
    (ho : o.op = .call { callee := .builtin .append, args := #[s, x], argTypes := #[22, 22] })
    (hs : a.eval s = .slice none 0 0) (ao : Option Addr) (c : Nat) (l : List (Int × ByteArray)) (hx : a.eval x = .slice ao l.length c) (hS : SegW w ao l) (h63 : l.length ≤ maxLen) (hbytes : l.length * 24 ≤ 140737488355328)
    (h : ∀ a2 c2 w', Hid (SegW w' a2 l ∧ ∀ b off, a2 = some ⟨b, off, none⟩ → w.heap.size ≤ b ∧ b < w'.heap.size) → Below w.heap.size w w' → K (a.put o.dst (.slice a2 l.length c2)) w') :
    if Region.wanted o (yielded ops a.tmps) = true then Oper.wp Tryz.prog o a w K Q else E := by
  obtain ⟨i0, hi, hz0, hz1, hz2⟩ := info_parts infoC
  refine step_copy hgd s x 22 ho 78 i0 (.agg #[.int .i64 0, .string ⟨#[]⟩]) 2 24 Tryz.underlying22 hi hz0 hz1 hz2 rfl (by decide) hs ao l.length c (cellsC l) hx (cellsC_length l) ?_ ?_ (cellsC_one l) h63 hbytes ?_
  · intro h0
    rcases hS with h | ⟨b, off, he, _⟩
    · rw [h]; rfl
    · rw [h0] at he; cases he
  · intro ad h0 j u hj
    rcases hS with h | ⟨b, off, he, hlt, hc⟩
    · rw [h] at hj; simp [cellsC] at hj
    · rw [h0] at he
      cases he
      rw [Addr.add_lit]
      exact SegC.news hc j u hj
  · intro v' w' hown hb
    obtain ⟨a2, c2, rfl, h2, _⟩ := SegC.of_owns hown
    exact h a2 c2 w' ⟨h2, fun b off e => hown.lt b (by rw [e]; rfl)⟩ hb


end Go.Proofs.YtjnpndfpajjihabGreat
