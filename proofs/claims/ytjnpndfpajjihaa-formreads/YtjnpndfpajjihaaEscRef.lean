/-
  The walk of the document's own UnescapeBlock.
-/
import Derived.Test.YtjnpndfpajjihaaEscPure
import Derived.Deep.QuietTactic
import Derived.BigQuiet
namespace Go.Proofs.Ytjnpndfpajjihaa
open Go.RowKit

set_option maxHeartbeats 1000000 in
theorem unescape_any (s : ByteArray) (b : Bool) (w : World) (hn : s.size ≤ maxLen) :
    Calls Try.prog 46 #[.string s, .bool b] w fun e w' => e = .returned (.string (unescT s b)) ∧ w = w' := by
  unfold maxLen at hn
  go_enter Try.func46, Try.ntmps46
  cases b with
  | false =>
    go_wp2
    go_ret
    exact ⟨by simp [unescT], rfl⟩
  | true =>
    by_cases h4 : s.size < 4
    · go_wp2
      go_ret
      exact ⟨by simp [unescT, h4], rfl⟩
    · go_wp2
      go_ret
      exact ⟨by simp [unescT, h4], rfl⟩

end Go.Proofs.Ytjnpndfpajjihaa
