/-
  The walk of package ring's Need.
-/
import Derived.Test.YtjnpndfpajjihabROwn
import Derived.Test.YtjnpndfpajjihabRMostOwn
namespace Go.Proofs.Ytjnpndfpajjihab
open Go.RowKit

set_option maxHeartbeats 2000000 in
theorem ringNeed_any (m r : Int) (w : World) :
    Calls Try.prog 31 #[.int .i64 m, .int .i64 r] w fun e w' => e = .returned (.tuple #[.int .i64 (needN m r), .int .i64 (needE m r)]) ∧ w = w' := by
  cases h1 : withinB m 0 12 with
  | false =>
    have HE : Hid (needE m r = 2) := by rw [Hid, needE, if_pos]; simp [withinB] at h1; omega
    have HN : Hid (needN m r = 0) := by simp [Hid, needN, HE.out]
    go_enter Try.func31, Try.ntmps31
    go_wp2_with (go_at_call 62; refine (within_any _ _ _ _).mono ?_; rintro e w' ⟨rfl, rfl⟩)
    go_ret2
    exact ⟨by rw [HE.out, HN.out]; rfl, rfl⟩
  | true =>
    cases h2 : withinB r 0 12 with
    | false =>
      have HE : Hid (needE m r = 2) := by rw [Hid, needE, if_pos]; simp [withinB] at h2; omega
      have HN : Hid (needN m r = 0) := by simp [Hid, needN, HE.out]
      go_enter Try.func31, Try.ntmps31
      go_wp2_with (go_at_call 62; refine (within_any _ _ _ _).mono ?_; rintro e w' ⟨rfl, rfl⟩)
      go_ret2
      exact ⟨by rw [HE.out, HN.out]; rfl, rfl⟩
    | true =>
      have hm : 0 ≤ m ∧ m ≤ 12 := by simpa [withinB] using h1
      have hr : 0 ≤ r ∧ r ≤ 12 := by simpa [withinB] using h2
      have HE : Hid (needE m r = 0) := by rw [Hid, needE, if_neg]; omega
      have HN : Hid (needN m r = (r + 19) / 20 + (m + 9) / 10 + m + 1) := by
        rw [Hid, needN, if_pos HE.out]
        split <;> split <;> split <;> omega
      have b1 : 0 ≤ (r + 19) / 20 ∧ (r + 19) / 20 ≤ 10 := by omega
      have b2 : 0 ≤ (m + 9) / 10 ∧ (m + 9) / 10 ≤ 10 := by omega
      go_enter Try.func31, Try.ntmps31
      go_wp2_with (first
        | (go_at_call 62; refine (within_any _ _ _ _).mono ?_; rintro e w' ⟨rfl, rfl⟩)
        | (go_at_call 77; refine (lists_any r _ (by omega) (by omega)).mono ?_; rintro e w' ⟨rfl, rfl⟩)
        | (go_at_call 78; refine (descriptors_any m _ (by omega) (by omega)).mono ?_; rintro e w' ⟨rfl, rfl⟩))
      go_ret2
      exact ⟨by rw [HE.out, HN.out]; rfl, rfl⟩

end Go.Proofs.Ytjnpndfpajjihab
