/-
  The walks of stamp's own Unescape, and of the statements' own marks.
-/
import Derived.Test.YtjnpndfpajjihaaSEsc0
import Derived.Test.YtjnpndfpajjihaaEscPure
namespace Go.Proofs.Ytjnpndfpajjihaa
open Go.RowKit

set_option maxHeartbeats 1000000 in
theorem stampUnescape_any (s : ByteArray) (b : Bool) (w : World) (hn : s.size ≤ maxLen) :
    Calls Try.prog 45 #[.string s, .bool b] w fun e w' => e = .returned (.string (unescT s b)) ∧ w = w' := by
  unfold maxLen at hn
  go_enter Try.func45, Try.ntmps45
  cases b with
  | false =>
    go_wp2
    go_ret
    exact ⟨by simp [unescT], rfl⟩
  | true =>
    by_cases h4 : s.size < 4
    · have h4' : (s.size : Int) < 4 := by omega
      go_wp2
      go_ret
      exact ⟨by simp [unescT, h4], rfl⟩
    · have h4' : ¬ (s.size : Int) < 4 := by omega
      go_wp2
      go_ret
      exact ⟨by simp [unescT, h4], rfl⟩

end Go.Proofs.Ytjnpndfpajjihaa
