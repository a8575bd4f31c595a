/-
  The walk of the document's own GoodMark.
-/
import Derived.Test.YtjnpndfpajjihaaRising
import Derived.Test.YtjnpndfpajjihaaIntRows
namespace Go.Proofs.Ytjnpndfpajjihaa
open Go.RowKit

set_option maxHeartbeats 2000000 in
theorem goodMark_kind (k q p : Int) (a : Option Addr) (n c : Nat) (a' : Option Addr) (n' c' : Nat) (w : World) (h : k < 1 ∨ 4 < k) :
    Calls Try.prog 38 #[.agg #[.int .i64 k, .int .i64 q, .int .i64 p, .slice a n c, .slice a' n' c']] w fun e w' => e = .returned (.int .i64 3) ∧ Below w.heap.size w w' := by
  by_cases h1 : k < 1
  · go_enter Try.func38, Try.ntmps38
    go_wp2
    go_ret
    exact ⟨rfl, below1 _ _⟩
  · have h2 : 4 < k := by omega
    go_enter Try.func38, Try.ntmps38
    go_wp2
    go_ret
    exact ⟨rfl, below1 _ _⟩

set_option maxHeartbeats 2000000 in
theorem goodMark_range (k q p : Int) (a : Option Addr) (n c : Nat) (a' : Option Addr) (n' c' : Nat) (w : World) (hk1 : 1 ≤ k) (hk2 : k ≤ 4) (h : q < 1 ∨ 2147483647 < q ∨ p < 0 ∨ 23 < p) :
    Calls Try.prog 38 #[.agg #[.int .i64 k, .int .i64 q, .int .i64 p, .slice a n c, .slice a' n' c']] w fun e w' => e = .returned (.int .i64 2) ∧ Below w.heap.size w w' := by
  by_cases h1 : q < 1
  · go_enter Try.func38, Try.ntmps38
    go_wp2
    go_ret
    exact ⟨rfl, below1 _ _⟩
  · by_cases h2 : 2147483647 < q
    · go_enter Try.func38, Try.ntmps38
      go_wp2
      go_ret
      exact ⟨rfl, below1 _ _⟩
    · by_cases h3 : p < 0
      · go_enter Try.func38, Try.ntmps38
        go_wp2
        go_ret
        exact ⟨rfl, below1 _ _⟩
      · have h4 : 23 < p := by omega
        go_enter Try.func38, Try.ntmps38
        go_wp2
        go_ret
        exact ⟨rfl, below1 _ _⟩

set_option maxHeartbeats 4000000 in
theorem goodMark_form (k q p : Int) (a : Option Addr) (n c : Nat) (a' : Option Addr) (n' c' : Nat) (w : World) (hk1 : 1 ≤ k) (hk2 : k ≤ 4) (hq1 : 1 ≤ q) (hq2 : q ≤ 2147483647) (hp1 : 0 ≤ p) (hp2 : p ≤ 23) (hn : n ≤ maxLen) (hn' : n' ≤ maxLen)
    (h : (k ≠ 1 ∧ p ≠ 0) ∨ (k ≠ 2 ∧ n ≠ 0) ∨ (k ≠ 3 ∧ n' ≠ 0)) :
    Calls Try.prog 38 #[.agg #[.int .i64 k, .int .i64 q, .int .i64 p, .slice a n c, .slice a' n' c']] w fun e w' => e = .returned (.int .i64 1) ∧ Below w.heap.size w w' := by
  unfold maxLen at hn hn'
  have t1 : (k != 1) = decide (k ≠ 1) := by by_cases e : k = 1 <;> simp [e]
  by_cases h1 : k ≠ 1 ∧ p ≠ 0
  · have e1 : (k != 1) = true := by simpa using h1.1
    have e2 : (p != 0) = true := by simpa using h1.2
    clear h h1 t1
    go_enter Try.func38, Try.ntmps38
    go_wp2
    go_ret
    exact ⟨rfl, below1 _ _⟩
  · by_cases h2 : k ≠ 2 ∧ n ≠ 0
    · have e2 : (k != 2) = true := by simpa using h2.1
      have e3 : ((n : Int) != 0) = true := by simp; exact h2.2
      by_cases hk : k = 1
      · subst hk
        clear h h1 h2 t1 e2
        go_enter Try.func38, Try.ntmps38
        go_wp2
        go_ret
        exact ⟨rfl, below1 _ _⟩
      · have hp : p = 0 := by
          by_cases e : p = 0
          · exact e
          · exact absurd ⟨hk, e⟩ h1
        subst hp
        have e1 : (k != 1) = true := by simpa using hk
        clear h h1 h2 t1
        go_enter Try.func38, Try.ntmps38
        go_wp2
        go_ret
        exact ⟨rfl, below1 _ _⟩
    · have h3 : k ≠ 3 ∧ n' ≠ 0 := by
        rcases h with h | h | h
        · exact absurd h h1
        · exact absurd h h2
        · exact h
      have e3 : ((n' : Int) != 0) = true := by simp; exact h3.2
      have hk : k = 1 ∨ k = 2 ∨ k = 4 := by omega
      rcases hk with rfl | rfl | rfl
      · have hz : n = 0 := by omega
        subst hz
        clear h h1 h2 h3 t1
        go_enter Try.func38, Try.ntmps38
        go_wp2
        go_ret
        exact ⟨rfl, below1 _ _⟩
      · have hz : p = 0 := by omega
        subst hz
        clear h h1 h2 h3 t1
        go_enter Try.func38, Try.ntmps38
        go_wp2
        go_ret
        exact ⟨rfl, below1 _ _⟩
      · have hz : p = 0 := by omega
        have hz2 : n = 0 := by omega
        subst hz hz2
        clear h h1 h2 h3 t1
        go_enter Try.func38, Try.ntmps38
        go_wp2
        go_ret
        exact ⟨rfl, below1 _ _⟩

end Go.Proofs.Ytjnpndfpajjihaa
