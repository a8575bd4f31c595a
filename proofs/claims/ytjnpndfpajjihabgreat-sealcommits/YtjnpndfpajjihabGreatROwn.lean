/-
  The walks of package ring's small functions, of Good, Free and Tail.
-/
import Derived.Test.YtjnpndfpajjihabGreatRPure
import Derived.Test.YtjnpndfpajjihabGreatWithin
namespace Go.Proofs.YtjnpndfpajjihabGreat
open Go.RowKit

set_option maxHeartbeats 400000 in
theorem within_any (n l m : Int) (w : World) :
    Calls Tryz.prog 142 #[.int .i64 n, .int .i64 l, .int .i64 m] w fun e w' => e = .returned (.bool (withinB n l m)) ∧ w = w' := by
  by_cases h0 : l ≤ n <;> by_cases h1 : n ≤ m
  all_goals
    go_enter Tryz.func142, Tryz.ntmps142
    go_wp2
    go_ret
    exact ⟨by simp [withinB, h0, h1], rfl⟩

set_option maxHeartbeats 400000 in
theorem place_any (n : Int) (w : World) (h : -24 ≤ n) (h2 : n ≤ 1000) :
    Calls Tryz.prog 146 #[.int .i64 n] w fun e w' => e = .returned (.int .i64 (n % 24)) ∧ w = w' := by
  have r : (n + 24).tmod 24 = n % 24 := by rw [Int.tmod_eq_emod_of_nonneg (by omega)]; omega
  go_enter Tryz.func146, Tryz.ntmps146
  go_wp2
  go_ret
  exact ⟨by first | rfl | rw [r], rfl⟩

theorem goodR_within (h u : Int) : goodR h u = (withinB h 0 23 && withinB u 0 24) := by simp [goodR, withinB, Bool.and_assoc]

set_option maxHeartbeats 1000000 in
theorem ringGood_any (h u : Int) (w : World) :
    Calls Tryz.prog 105 #[.agg #[.int .i64 h, .int .i64 u]] w fun e w' => e = .returned (.bool (goodR h u)) ∧ Below w.heap.size w w' := by
  rw [goodR_within]
  cases h1 : withinB h 0 23 with
  | false =>
    go_enter Tryz.func105, Tryz.ntmps105
    go_wp2_with (go_at_call 142; refine (within_any _ _ _ _).mono ?_; rintro e w' ⟨rfl, rfl⟩)
    go_ret
    exact ⟨rfl, below1 _ _⟩
  | true =>
    go_enter Tryz.func105, Tryz.ntmps105
    go_wp2_with (go_at_call 142; refine (within_any _ _ _ _).mono ?_; rintro e w' ⟨rfl, rfl⟩)
    go_ret
    exact ⟨by simp, below1 _ _⟩

set_option maxHeartbeats 400000 in
theorem ringFree_any (h u : Int) (w : World) (h0 : 0 ≤ u) (h1 : u ≤ 24) :
    Calls Tryz.prog 145 #[.agg #[.int .i64 h, .int .i64 u]] w fun e w' => e = .returned (.int .i64 (24 - u)) ∧ Below w.heap.size w w' := by
  go_enter Tryz.func145, Tryz.ntmps145
  go_wp2
  go_ret
  exact ⟨rfl, below1 _ _⟩

end Go.Proofs.YtjnpndfpajjihabGreat
