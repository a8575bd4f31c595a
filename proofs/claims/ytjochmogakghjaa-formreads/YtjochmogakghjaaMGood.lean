/-
  The walk of the document's own GoodMark.
-/
import Derived.Test.YtjochmogakghjaaMRising
namespace Go.Proofs.Ytjochmogakghjaa
open Go.RowKit

theorem infoI : (Try.prog.info? 3).map (fun i => (i.zero, i.size, i.bytes)) = some (some (.int .i64 0), 1, 8) := by kernel_rfl

def cellsI (l : List Int) : List Value := l.map (Value.int .i64)
theorem cellsI_length (l : List Int) : (cellsI l).length = l.length * 1 := by simp [cellsI]
theorem cellsI_append (l r : List Int) : cellsI (l ++ r) = cellsI l ++ cellsI r := by simp [cellsI]
theorem cellsI_at (l : List Int) (i : Nat) (h : i < l.length) : (cellsI l)[i]? = some (.int .i64 (l.getD i 0)) := by
  rw [cellsI, List.getElem?_map, getD_at l i 0 h]; rfl
theorem cellsI_one {l : List Int} : ∀ u ∈ cellsI l, u.oneCell' = true := by
  intro u hu
  obtain ⟨s, _, rfl⟩ := List.mem_map.1 hu
  rfl
/-- A slice of numbers of the call's own is a row of numbers. -/
theorem SegI.of_owns {w : World} {base n : Nat} {v : Value} {l : List Int} (h : w.ownsRow base 3 1 v n (cellsI l)) : ∃ a c, v = .slice a l.length c ∧ SegI w a l ∧ ∀ b off, a = some ⟨b, off, none⟩ → base ≤ b := by
  have hn : l.length = n := by have := h.1; rw [cellsI_length] at this; omega
  subst hn
  rcases h.2 with ⟨rfl, h0⟩ | ⟨g, cap, cur, rfl, hb, hg, rest⟩
  · exact ⟨none, 0, by rw [h0], .inl (List.eq_nil_of_length_eq_zero h0), fun _ _ h => by cases h⟩
  · refine ⟨_, cap, rfl, .inr ⟨g, 0, rfl, (Array.getElem?_eq_some_iff.1 hg).1, fun i hi => ?_⟩, fun _ _ h => by cases h; exact hb⟩
    rw [Nat.zero_add, h.cellAt i (by omega), cellsI_at l i hi]

set_option maxHeartbeats 2000000 in
theorem goodMark_kind (k q p : Int) (a : Option Addr) (n c : Nat) (a' : Option Addr) (n' c' : Nat) (w : World) (h : k < 1 ∨ 4 < k) :
    Calls Try.prog 36 #[.agg #[.int .i64 k, .int .i64 q, .int .i64 p, .slice a n c, .slice a' n' c']] w fun e w' => e = .returned (.int .i64 3) ∧ Below w.heap.size w w' := by
  by_cases h1 : k < 1
  · go_enter Try.func36, Try.ntmps36
    go_wp2
    go_ret
    exact ⟨rfl, below1 _ _⟩
  · have h2 : 4 < k := by omega
    go_enter Try.func36, Try.ntmps36
    go_wp2
    go_ret
    exact ⟨rfl, below1 _ _⟩

set_option maxHeartbeats 2000000 in
theorem goodMark_range (k q p : Int) (a : Option Addr) (n c : Nat) (a' : Option Addr) (n' c' : Nat) (w : World) (hk1 : 1 ≤ k) (hk2 : k ≤ 4) (h : q < 1 ∨ 2147483647 < q ∨ p < 0 ∨ 23 < p) :
    Calls Try.prog 36 #[.agg #[.int .i64 k, .int .i64 q, .int .i64 p, .slice a n c, .slice a' n' c']] w fun e w' => e = .returned (.int .i64 2) ∧ Below w.heap.size w w' := by
  by_cases h1 : q < 1
  · go_enter Try.func36, Try.ntmps36
    go_wp2
    go_ret
    exact ⟨rfl, below1 _ _⟩
  · by_cases h2 : 2147483647 < q
    · go_enter Try.func36, Try.ntmps36
      go_wp2
      go_ret
      exact ⟨rfl, below1 _ _⟩
    · by_cases h3 : p < 0
      · go_enter Try.func36, Try.ntmps36
        go_wp2
        go_ret
        exact ⟨rfl, below1 _ _⟩
      · have h4 : 23 < p := by omega
        go_enter Try.func36, Try.ntmps36
        go_wp2
        go_ret
        exact ⟨rfl, below1 _ _⟩

set_option maxHeartbeats 4000000 in
theorem goodMark_form (k q p : Int) (a : Option Addr) (n c : Nat) (a' : Option Addr) (n' c' : Nat) (w : World) (hk1 : 1 ≤ k) (hk2 : k ≤ 4) (hq1 : 1 ≤ q) (hq2 : q ≤ 2147483647) (hp1 : 0 ≤ p) (hp2 : p ≤ 23) (hn : n ≤ maxLen) (hn' : n' ≤ maxLen)
    (h : (k ≠ 1 ∧ p ≠ 0) ∨ (k ≠ 2 ∧ n ≠ 0) ∨ (k ≠ 3 ∧ n' ≠ 0)) :
    Calls Try.prog 36 #[.agg #[.int .i64 k, .int .i64 q, .int .i64 p, .slice a n c, .slice a' n' c']] w fun e w' => e = .returned (.int .i64 1) ∧ Below w.heap.size w w' := by
  unfold maxLen at hn hn'
  have t1 : (k != 1) = decide (k ≠ 1) := by by_cases e : k = 1 <;> simp [e]
  by_cases h1 : k ≠ 1 ∧ p ≠ 0
  · have e1 : (k != 1) = true := by simpa using h1.1
    have e2 : (p != 0) = true := by simpa using h1.2
    clear h h1 t1
    go_enter Try.func36, Try.ntmps36
    go_wp2
    go_ret
    exact ⟨rfl, below1 _ _⟩
  · by_cases h2 : k ≠ 2 ∧ n ≠ 0
    · have e2 : (k != 2) = true := by simpa using h2.1
      have e3 : ((n : Int) != 0) = true := by simp; exact h2.2
      by_cases hk : k = 1
      · subst hk
        clear h h1 h2 t1 e2
        go_enter Try.func36, Try.ntmps36
        go_wp2
        go_ret
        exact ⟨rfl, below1 _ _⟩
      · have hp : p = 0 := by
          by_cases e : p = 0
          · exact e
          · exact absurd ⟨hk, e⟩ h1
        subst hp
        have e1 : (k != 1) = true := by simpa using hk
        clear h h1 h2 t1
        go_enter Try.func36, Try.ntmps36
        go_wp2
        go_ret
        exact ⟨rfl, below1 _ _⟩
    · have h3 : k ≠ 3 ∧ n' ≠ 0 := by
        rcases h with h | h | h
        · exact absurd h h1
        · exact absurd h h2
        · exact h
      have e3 : ((n' : Int) != 0) = true := by simp; exact h3.2
      have hk : k = 1 ∨ k = 2 ∨ k = 4 := by omega
      rcases hk with rfl | rfl | rfl
      · have hz : n = 0 := by omega
        subst hz
        clear h h1 h2 h3 t1
        go_enter Try.func36, Try.ntmps36
        go_wp2
        go_ret
        exact ⟨rfl, below1 _ _⟩
      · have hz : p = 0 := by omega
        subst hz
        clear h h1 h2 h3 t1
        go_enter Try.func36, Try.ntmps36
        go_wp2
        go_ret
        exact ⟨rfl, below1 _ _⟩
      · have hz : p = 0 := by omega
        have hz2 : n = 0 := by omega
        subst hz hz2
        clear h h1 h2 h3 t1
        go_enter Try.func36, Try.ntmps36
        go_wp2
        go_ret
        exact ⟨rfl, below1 _ _⟩

end Go.Proofs.Ytjochmogakghjaa
