/-
  The walk of the statements' own pick.
-/
import Derived.Test.YtjnpndfpajjihabBase
namespace Go.Proofs.Ytjnpndfpajjihab
open Go.RowKit

/-- What pick answers. -/
def pickN (n m : Int) : Int := n % m
set_option maxHeartbeats 1000000 in
theorem pick_any (n m : Int) (w : World) (hm : 0 < m) (hm2 : m ≤ 4611686018427387904) (hn : -9223372036854775808 ≤ n) (hn2 : n ≤ 9223372036854775807) :
    Calls Try.prog 11 #[.int .i64 n, .int .i64 m] w fun e w' => e = .returned (.int .i64 (n % m)) ∧ w = w' := by
  have hlt := Int.emod_lt_of_pos n hm
  have hge := Int.emod_nonneg n (show m ≠ 0 by omega)
  by_cases h : n.tmod m < 0
  · have HE : Hid (n % m = n.tmod m + m) := by
      rw [Hid, Int.emod_eq_tmod]
      rw [if_neg]
      · omega
      · rintro (h1 | h1)
        · have := Int.tmod_nonneg m h1; omega
        · have := Int.tmod_eq_zero_of_dvd h1; omega
    have hlo : -m < n.tmod m := by have := Int.lt_tmod_of_pos n hm; omega
    have hm0 : ¬ m = 0 := by omega
    have hmm : ¬ m = -1 := by omega
    go_enter Try.func11, Try.ntmps11
    go_wp2
    go_ret
    exact ⟨by rw [HE.out]; rfl, rfl⟩
  · have HE : Hid (n % m = n.tmod m) := by
      by_cases h1 : 0 ≤ n ∨ m ∣ n
      · rw [Hid, Int.emod_eq_tmod, if_pos h1]; omega
      · have h2 := Int.emod_eq_tmod (a := n) (b := m)
        rw [if_neg h1] at h2
        have h3 : n < 0 := by omega
        have h4 : n.tmod m ≤ 0 := by
          have := Int.tmod_nonneg m (show 0 ≤ -n by omega)
          rw [Int.neg_tmod] at this
          omega
        have h5 : n.tmod m = 0 := by omega
        exact absurd (.inr (Int.dvd_of_tmod_eq_zero h5)) h1
    have hm0 : ¬ m = 0 := by omega
    have hmm : ¬ m = -1 := by omega
    have hlo : n.tmod m < m := by rw [← HE.out]; exact hlt
    go_enter Try.func11, Try.ntmps11
    go_wp2
    go_ret
    exact ⟨by rw [HE.out]; rfl, rfl⟩

end Go.Proofs.Ytjnpndfpajjihab
