/-
  The walk of the document's own NeedOf.
-/
import Derived.Test.YtjnpndfpajjihaaRMost
namespace Go.Proofs.Ytjnpndfpajjihaa
open Go.RowKit

set_option maxHeartbeats 2000000 in
theorem needOf_any (m r : Int) (w : World) :
    Calls Try.prog 59 #[.int .i64 m, .int .i64 r] w fun e w' => e = .returned (.tuple #[.int .i64 (needN m r), .int .i64 (needE m r)]) ∧ w = w' := by
  by_cases hE : m < 0 ∨ 12 < m ∨ r < 0 ∨ 12 < r
  · have HE : Hid (needE m r = 2) := by rw [Hid, needE, if_pos hE]
    have HN : Hid (needN m r = 0) := by simp [Hid, needN, HE.out]
    by_cases h1 : m < 0
    · clear hE
      go_enter Try.func59, Try.ntmps59
      go_wp2
      go_ret2
      exact ⟨by rw [HE.out, HN.out]; rfl, rfl⟩
    · by_cases h2 : 12 < m
      · clear hE
        go_enter Try.func59, Try.ntmps59
        go_wp2
        go_ret2
        exact ⟨by rw [HE.out, HN.out]; rfl, rfl⟩
      · by_cases h3 : r < 0
        · clear hE
          go_enter Try.func59, Try.ntmps59
          go_wp2
          go_ret2
          exact ⟨by rw [HE.out, HN.out]; rfl, rfl⟩
        · have h4 : 12 < r := by omega
          clear hE
          go_enter Try.func59, Try.ntmps59
          go_wp2
          go_ret2
          exact ⟨by rw [HE.out, HN.out]; rfl, rfl⟩
  · have HE : Hid (needE m r = 0) := by rw [Hid, needE, if_neg hE]
    have HN : Hid (needN m r = 1 + m + (if 0 < r then 1 else 0) + (if 0 < m then 1 else 0) + (if 10 < m then 1 else 0)) := by rw [Hid, needN, if_pos HE.out]
    have h1 : ¬ m < 0 := by omega
    have h2 : ¬ 12 < m := by omega
    have h3 : ¬ r < 0 := by omega
    have h4 : ¬ 12 < r := by omega
    clear hE
    by_cases h5 : 0 < r
    all_goals
      by_cases h6 : 0 < m
      · by_cases h7 : 10 < m
        · have h8 : ¬ 20 < m := by omega
          go_enter Try.func59, Try.ntmps59
          go_wp2
          refine wp_loop_rounds 3 ?_
          rw [rounds_succ]
          go_wp2
          rw [rounds_succ]
          go_wp2
          rw [rounds_succ]
          go_wp2
          go_ret2
          refine ⟨?_, rfl⟩
          rw [HE.out, HN.out]
          simp [h5, h6, h7]
          try omega
        · go_enter Try.func59, Try.ntmps59
          go_wp2
          refine wp_loop_rounds 2 ?_
          rw [rounds_succ]
          go_wp2
          rw [rounds_succ]
          go_wp2
          go_ret2
          refine ⟨?_, rfl⟩
          rw [HE.out, HN.out]
          simp [h5, h6]
          try omega
      · have h7 : ¬ 10 < m := by omega
        go_enter Try.func59, Try.ntmps59
        go_wp2
        refine wp_loop_rounds 1 ?_
        rw [rounds_succ]
        go_wp2
        go_ret2
        refine ⟨?_, rfl⟩
        rw [HE.out, HN.out]
        simp [h5]
        try omega

end Go.Proofs.Ytjnpndfpajjihaa
