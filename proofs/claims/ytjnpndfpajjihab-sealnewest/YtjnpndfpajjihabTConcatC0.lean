/-
  The walks of slices.Grow onto nil and of slices.Concat, at []api.Copy.
-/
import Derived.Test.YtjnpndfpajjihabTRows
import Derived.Lib.AppendZerosOnto
namespace Go.Proofs.Ytjnpndfpajjihab
open Go.RowKit

/-- append of nothing onto a row of the call's own. -/
theorem run_append_nilC (w : World) (base : Nat) (ty : TypeId) (v : Value) (n c : Nat) (xs : List Value) (h : w.ownsRow base 91 2 v n xs) :
    (Builtin.append_ #[35, 35] ty #[v, .slice none 0 c]).run Try.prog w = .ok v w := by
  obtain ⟨i0, hi, hz0, hz1, hz2⟩ := info_parts infoC
  rcases h.2 with ⟨rfl, rfl⟩ | ⟨g, cap, cur, rfl, hb, hg, hnc, hcm, hrest⟩
  · exact run_append_none w _ _ _ i0 c Try.underlying35 hi
  · simp [Builtin.append_, run_underlying Try.underlying35, sizeOf, typeInfo, hi, Builtin.lenOf, Builtin.firstCells, hnc, storeCells]

/-- append of a row onto one of the call's own, as a step of a walk. -/
theorem wpList_appC (w W : World) (base : Nat) {ops : Array Oper} {rest : List Oper} {o : Oper} {a : Act} {Q : Exit → Act → World → Prop} (hgd : o.guard = none) (s x : Operand)
    (ho : o.op = .call { callee := .builtin .append, args := #[s, x], argTypes := #[35, 35] })
    (v : Value) (n : Nat) (xs : List Value) (hs : a.eval s = v) (hown : w.ownsRow base 91 2 v n xs) (ao : Option Addr) (c : Nat) (l : List (Int × ByteArray)) (hx : a.eval x = .slice ao l.length c) (hS : SegW w ao l)
    (hn : n + l.length ≤ 1000) (hbase : base ≤ w.heap.size) (hB : Below base W w)
    (h : ∀ v' w', Hid (w'.ownsRow base 91 2 v' (n + l.length) (xs ++ cellsC l)) → Hid (Below base W w') → wpList Try.prog ops Q rest (a.put o.dst v') w') : wpList Try.prog ops Q (o :: rest) a w := by
  obtain ⟨i0, hi, hz0, hz1, hz2⟩ := info_parts infoC
  cases ao with
  | none =>
    have h0 : l = [] := by rcases hS with h | ⟨b, off, he, _⟩; exact h; cases he
    subst h0
    refine Lib.wpList_append_run w hgd s x _ _ ho _ _ hs hx v w (run_append_nilC w base o.type v n c xs hown) (h v w ?_ hB)
    show w.ownsRow base 91 2 v (n + 0) (xs ++ [])
    rw [List.append_nil]
    exact hown
  | some ad =>
    refine wpList_append_own w hgd s x 35 ho base 91 i0 (.agg #[.int .i64 0, .string ⟨#[]⟩]) 2 24 Try.underlying35 hi hz0 hz1 hz2 rfl (by decide) v n xs hs hown ad l.length c (cellsC l) hx (cellsC_length l) ?_ (cellsC_one l) (by unfold maxLen; omega) (by omega) hbase ?_
    · intro j u hj
      rcases hS with h | ⟨b, off, he, hlt, hc⟩
      · rw [h] at hj; simp [cellsC] at hj
      · cases he
        rw [Addr.add_lit]
        exact SegC.news hc j u hj
    · intro v' w' hown' hgrow _
      exact h v' w' hown' (hB.grown hgrow hbase (fun k hk => (hown.lt k hk).1))

/-- Rows that lie behind one another in a list of lists. -/
def flatC (L : List (Option Addr × Nat × List (Int × ByteArray))) : List (Int × ByteArray) := (L.map (·.2.2)).flatten
theorem flatC_take {L : List (Option Addr × Nat × List (Int × ByteArray))} {k : Nat} {x : Option Addr × Nat × List (Int × ByteArray)} (h : L[k]? = some x) : flatC (L.take (k + 1)) = flatC (L.take k) ++ x.2.2 := by
  rw [List.take_add_one, h]; simp [flatC]
theorem flatC_le (L : List (Option Addr × Nat × List (Int × ByteArray))) (k : Nat) : (flatC (L.take k)).length ≤ (flatC L).length := by
  have : flatC L = flatC (L.take k) ++ flatC (L.drop k) := by rw [flatC, flatC, flatC, ← List.flatten_append, ← List.map_append, List.take_append_drop]
  rw [this, List.length_append]; omega
def SegLC (w : World) (B : Nat) (L : List (Option Addr × Nat × List (Int × ByteArray))) : Prop :=
  B < w.heap.size ∧ ∀ i x, L[i]? = some x → w.cell? ⟨B, i, none⟩ = some (.slice x.1 x.2.2.length x.2.1) ∧ SegW w x.1 x.2.2
end Go.Proofs.Ytjnpndfpajjihab
