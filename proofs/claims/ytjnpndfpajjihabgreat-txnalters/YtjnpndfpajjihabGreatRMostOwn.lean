/-
  The walk of package ring's Most, and of what it calls.
-/
import Derived.Test.YtjnpndfpajjihabGreatRMostOwn0
import Derived.Test.YtjnpndfpajjihabGreatRNeedPure
namespace Go.Proofs.YtjnpndfpajjihabGreat
open Go.RowKit

set_option maxHeartbeats 400000 in
theorem parts_any (n s : Int) (w : World) (h : 0 ≤ n) (h2 : n ≤ 1000) (hs : 1 ≤ s) (hs2 : s ≤ 1000) :
    Calls Tryz.prog 162 #[.int .i64 n, .int .i64 s] w fun e w' => e = .returned (.int .i64 ((n + s - 1) / s)) ∧ w = w' := by
  have r : (n + s - 1).tdiv s = (n + s - 1) / s := Int.tdiv_eq_ediv_of_nonneg (by omega)
  have hlo : 0 ≤ (n + s - 1) / s := Int.ediv_nonneg (by omega) (by omega)
  have hhi : (n + s - 1) / s ≤ n + s - 1 := Int.ediv_le_self _ (by omega)
  have hs0 : ¬ s = 0 := by omega
  have hsm : ¬ s = -1 := by omega
  go_enter Tryz.func162, Tryz.ntmps162
  go_wp2
  go_ret
  exact ⟨by first | rfl | rw [r], rfl⟩

set_option maxHeartbeats 400000 in
theorem descriptors_any (n : Int) (w : World) (h : 0 ≤ n) (h2 : n ≤ 1000) :
    Calls Tryz.prog 144 #[.int .i64 n] w fun e w' => e = .returned (.int .i64 ((n + 9) / 10)) ∧ w = w' := by
  go_enter Tryz.func144, Tryz.ntmps144
  go_wp2_with fail
  refine (parts_any n 10 _ h h2 (by omega) (by omega)).mono ?_
  rintro e w1 ⟨rfl, rfl⟩
  go_wp2
  go_ret
  exact ⟨by first | rfl | (rw [show n + 10 - 1 = n + 9 from by omega]; rfl), rfl⟩

set_option maxHeartbeats 400000 in
theorem lists_any (n : Int) (w : World) (h : 0 ≤ n) (h2 : n ≤ 1000) :
    Calls Tryz.prog 143 #[.int .i64 n] w fun e w' => e = .returned (.int .i64 ((n + 19) / 20)) ∧ w = w' := by
  go_enter Tryz.func143, Tryz.ntmps143
  go_wp2_with fail
  refine (parts_any n 20 _ h h2 (by omega) (by omega)).mono ?_
  rintro e w1 ⟨rfl, rfl⟩
  go_wp2
  go_ret
  exact ⟨by first | rfl | (rw [show n + 20 - 1 = n + 19 from by omega]; rfl), rfl⟩

set_option maxHeartbeats 2000000 in
theorem ringMost_any (n : Int) (w : World) :
    Calls Tryz.prog 134 #[.int .i64 n] w fun e w' => e = .returned (.int .i64 (mostN n)) ∧ w = w' := by
  have HM : Hid (mostN n = clampN n + (clampN n + 9) / 10 + (clampN n + 19) / 20 + 1) := mostN_eq n
  by_cases h0 : n < 0
  · have e0 : clampN n = 0 := by unfold clampN; rw [if_pos h0]
    rw [e0] at HM
    have h1 : ¬ 0 ≤ n := by omega
    have h2 : n ≤ 24 := by omega
    go_enter Tryz.func134, Tryz.ntmps134
    go_wp2_with (first
        | (go_at_call 143; refine (lists_any 0 _ (by omega) (by omega)).mono ?_; rintro e w' ⟨rfl, rfl⟩)
        | (go_at_call 144; refine (descriptors_any 0 _ (by omega) (by omega)).mono ?_; rintro e w' ⟨rfl, rfl⟩))
    go_ret
    exact ⟨by rw [HM.out]; rfl, rfl⟩
  · by_cases h24 : 24 < n
    · have e0 : clampN n = 24 := by unfold clampN; rw [if_neg h0, if_pos h24]
      rw [e0] at HM
      have h1 : 0 ≤ n := by omega
      have h2 : ¬ n ≤ 24 := by omega
      have h3 : ¬ n < 24 := by omega
      have h4 : 0 < n := by omega
      go_enter Tryz.func134, Tryz.ntmps134
      go_wp2_with (first
          | (go_at_call 143; refine (lists_any 24 _ (by omega) (by omega)).mono ?_; rintro e w' ⟨rfl, rfl⟩)
          | (go_at_call 144; refine (descriptors_any 24 _ (by omega) (by omega)).mono ?_; rintro e w' ⟨rfl, rfl⟩))
      go_ret
      exact ⟨by rw [HM.out]; rfl, rfl⟩
    · have e0 : clampN n = n := by unfold clampN; rw [if_neg h0, if_neg h24]
      rw [e0] at HM
      have h1 : 0 ≤ n := by omega
      have h2 : n ≤ 24 := by omega
      have b1 : 0 ≤ (n + 19) / 20 ∧ (n + 19) / 20 ≤ 10 := by omega
      have b2 : 0 ≤ (n + 9) / 10 ∧ (n + 9) / 10 ≤ 10 := by omega
      go_enter Tryz.func134, Tryz.ntmps134
      go_wp2_with (first
          | (go_at_call 143; refine (lists_any n _ (by omega) (by omega)).mono ?_; rintro e w' ⟨rfl, rfl⟩)
          | (go_at_call 144; refine (descriptors_any n _ (by omega) (by omega)).mono ?_; rintro e w' ⟨rfl, rfl⟩))
      go_ret
      exact ⟨by rw [HM.out]; rfl, rfl⟩

end Go.Proofs.YtjnpndfpajjihabGreat
