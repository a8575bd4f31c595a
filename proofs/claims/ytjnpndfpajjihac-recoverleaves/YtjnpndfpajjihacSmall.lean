/-
  The walks of package disk's small functions: isPlace, fits.
-/
import Derived.Test.YtjnpndfpajjihacCore
namespace Go.Proofs.Ytjnpndfpajjihac
open Go.RowKit

set_option maxHeartbeats 400000 in
theorem isPlace_any (n : Int) (w : World) :
    Calls Try.prog 27 #[.int .i64 n] w fun e w' => e = .returned (.bool (placeB n)) ∧ w = w' := by
  by_cases h0 : 0 ≤ n <;> by_cases h1 : n < 37
  all_goals
    go_enter Try.func27, Try.ntmps27
    go_wp2
    go_ret
    exact ⟨by simp [placeB, h0, h1], rfl⟩

set_option maxHeartbeats 400000 in
theorem fits_any (s : ByteArray) (w : World) :
    Calls Try.prog 31 #[.string s] w fun e w' => e = .returned (.bool (fitsB s)) ∧ w = w' := by
  go_enter Try.func31, Try.ntmps31
  go_wp2
  go_ret
  exact ⟨rfl, rfl⟩

end Go.Proofs.Ytjnpndfpajjihac
