/-
  The walk of the document's own MostOf.
-/
import Derived.Test.YtjnpndfpajjihabRNeedPure
namespace Go.Proofs.Ytjnpndfpajjihab
open Go.RowKit

set_option maxHeartbeats 2000000 in
theorem mostOf_neg (n : Int) (w : World) (h : n < 0) :
    Calls Try.prog 67 #[.int .i64 n] w fun e w' => e = .returned (.int .i64 (mostN n)) ∧ w = w' := by
  have HM : Hid (mostN n = 0 + 1 + 0 + 0 + 0 + 0 + 0) := by
    refine most_at (k := 0) ?_ 0 0 0 ?_ ?_ ?_
    · unfold clampN; split <;> (try split) <;> omega
    all_goals first | rfl | (rw [if_pos (by omega)]) | (rw [if_neg (by omega)])
  have h1 : ¬ 24 < n := by omega
  have h2 : n ≤ 24 := by omega
  have h3 : ¬ 0 ≤ n := by omega
  go_enter Try.func67, Try.ntmps67
  go_wp2
  refine wp_loop_rounds 1 ?_
  rw [rounds_succ]
  go_wp2
  refine wp_loop_rounds 1 ?_
  rw [rounds_succ]
  go_wp2
  go_ret
  refine ⟨?_, rfl⟩
  rw [HM.out]
  first | rfl | (simp; try omega)

set_option maxHeartbeats 2000000 in
theorem mostOf_nil (n : Int) (w : World) (h : n = 0) :
    Calls Try.prog 67 #[.int .i64 n] w fun e w' => e = .returned (.int .i64 (mostN n)) ∧ w = w' := by
  subst h
  have HM : Hid (mostN 0 = 0 + 1 + 0 + 0 + 0 + 0 + 0) := by
    refine most_at (k := 0) ?_ 0 0 0 ?_ ?_ ?_
    · decide
    all_goals first | rfl | (rw [if_pos (by omega)]) | (rw [if_neg (by omega)])
  go_enter Try.func67, Try.ntmps67
  go_wp2
  refine wp_loop_rounds 1 ?_
  rw [rounds_succ]
  go_wp2
  refine wp_loop_rounds 1 ?_
  rw [rounds_succ]
  go_wp2
  go_ret
  refine ⟨?_, rfl⟩
  rw [HM.out]
  first | rfl | (simp; try omega)

set_option maxHeartbeats 2000000 in
theorem mostOf_ten (n : Int) (w : World) (h : 0 < n) (h10 : n ≤ 10) :
    Calls Try.prog 67 #[.int .i64 n] w fun e w' => e = .returned (.int .i64 (mostN n)) ∧ w = w' := by
  have HM : Hid (mostN n = n + 1 + 1 + 0 + 0 + 1 + 0) := by
    refine most_at (k := n) ?_ 1 0 0 ?_ ?_ ?_
    · unfold clampN; split <;> (try split) <;> omega
    all_goals first | rfl | (rw [if_pos (by omega)]) | (rw [if_neg (by omega)])
  have h1 : ¬ 24 < n := by omega
  have h2 : n ≤ 24 := by omega
  have h3 : 0 ≤ n := by omega
  have h4 : ¬ 10 < n := by omega
  have h5 : ¬ 20 < n := by omega
  have h6 : ¬ n < 0 := by omega
  go_enter Try.func67, Try.ntmps67
  go_wp2
  refine wp_loop_rounds 2 ?_
  rw [rounds_succ]
  go_wp2
  rw [rounds_succ]
  go_wp2
  refine wp_loop_rounds 2 ?_
  rw [rounds_succ]
  go_wp2
  rw [rounds_succ]
  go_wp2
  go_ret
  refine ⟨?_, rfl⟩
  rw [HM.out]
  first | rfl | (simp; try omega)

set_option maxHeartbeats 2000000 in
theorem mostOf_twenty (n : Int) (w : World) (h : 10 < n) (h20 : n ≤ 20) :
    Calls Try.prog 67 #[.int .i64 n] w fun e w' => e = .returned (.int .i64 (mostN n)) ∧ w = w' := by
  have HM : Hid (mostN n = n + 1 + 1 + 1 + 0 + 1 + 0) := by
    refine most_at (k := n) ?_ 1 1 0 ?_ ?_ ?_
    · unfold clampN; split <;> (try split) <;> omega
    all_goals first | rfl | (rw [if_pos (by omega)]) | (rw [if_neg (by omega)])
  have h1 : ¬ 24 < n := by omega
  have h2 : n ≤ 24 := by omega
  have h3 : 0 ≤ n := by omega
  have h4 : 0 < n := by omega
  have h5 : ¬ 20 < n := by omega
  have h6 : ¬ n < 0 := by omega
  go_enter Try.func67, Try.ntmps67
  go_wp2
  refine wp_loop_rounds 3 ?_
  rw [rounds_succ]
  go_wp2
  rw [rounds_succ]
  go_wp2
  rw [rounds_succ]
  go_wp2
  refine wp_loop_rounds 2 ?_
  rw [rounds_succ]
  go_wp2
  rw [rounds_succ]
  go_wp2
  go_ret
  refine ⟨?_, rfl⟩
  rw [HM.out]
  first | rfl | (simp; try omega)

set_option maxHeartbeats 2000000 in
theorem mostOf_more (n : Int) (w : World) (h : 20 < n) (h24 : n ≤ 24) :
    Calls Try.prog 67 #[.int .i64 n] w fun e w' => e = .returned (.int .i64 (mostN n)) ∧ w = w' := by
  have HM : Hid (mostN n = n + 1 + 1 + 1 + 1 + 1 + 1) := by
    refine most_at (k := n) ?_ 1 1 1 ?_ ?_ ?_
    · unfold clampN; split <;> (try split) <;> omega
    all_goals first | rfl | (rw [if_pos (by omega)]) | (rw [if_neg (by omega)])
  have h1 : ¬ 24 < n := by omega
  have h3 : 0 ≤ n := by omega
  have h4 : 0 < n := by omega
  have h5 : 10 < n := by omega
  have h6 : ¬ n < 0 := by omega
  have h7 : ¬ 30 < n := by omega
  have h8 : ¬ 40 < n := by omega
  go_enter Try.func67, Try.ntmps67
  go_wp2
  refine wp_loop_rounds 4 ?_
  rw [rounds_succ]
  go_wp2
  rw [rounds_succ]
  go_wp2
  rw [rounds_succ]
  go_wp2
  rw [rounds_succ]
  go_wp2
  refine wp_loop_rounds 3 ?_
  rw [rounds_succ]
  go_wp2
  rw [rounds_succ]
  go_wp2
  rw [rounds_succ]
  go_wp2
  go_ret
  refine ⟨?_, rfl⟩
  rw [HM.out]
  first | rfl | (simp; try omega)

set_option maxHeartbeats 2000000 in
theorem mostOf_great (n : Int) (w : World) (h : 24 < n) :
    Calls Try.prog 67 #[.int .i64 n] w fun e w' => e = .returned (.int .i64 (mostN n)) ∧ w = w' := by
  have HM : Hid (mostN n = 24 + 1 + 1 + 1 + 1 + 1 + 1) := by
    refine most_at (k := 24) ?_ 1 1 1 ?_ ?_ ?_
    · unfold clampN; split <;> (try split) <;> omega
    all_goals first | rfl | (rw [if_pos (by omega)]) | (rw [if_neg (by omega)])
  have h1 : ¬ n < 24 := by omega
  have h2 : ¬ n ≤ 24 := by omega
  go_enter Try.func67, Try.ntmps67
  go_wp2
  refine wp_loop_rounds 4 ?_
  rw [rounds_succ]
  go_wp2
  rw [rounds_succ]
  go_wp2
  rw [rounds_succ]
  go_wp2
  rw [rounds_succ]
  go_wp2
  refine wp_loop_rounds 3 ?_
  rw [rounds_succ]
  go_wp2
  rw [rounds_succ]
  go_wp2
  rw [rounds_succ]
  go_wp2
  go_ret
  refine ⟨?_, rfl⟩
  rw [HM.out]
  first | rfl | (simp; try omega)

theorem mostOf_any (n : Int) (w : World) :
    Calls Try.prog 67 #[.int .i64 n] w fun e w' => e = .returned (.int .i64 (mostN n)) ∧ w = w' := by
  by_cases h0 : n < 0
  · exact mostOf_neg n w h0
  · by_cases h1 : n = 0
    · exact mostOf_nil n w h1
    · by_cases h2 : n ≤ 10
      · exact mostOf_ten n w (by omega) h2
      · by_cases h3 : n ≤ 20
        · exact mostOf_twenty n w (by omega) h3
        · by_cases h4 : n ≤ 24
          · exact mostOf_more n w (by omega) h4
          · exact mostOf_great n w (by omega)

end Go.Proofs.Ytjnpndfpajjihab
