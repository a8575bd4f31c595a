/-
  The walk of the document's own EscapeBlock.
-/
import Derived.Test.YtjnpndfpajjihaaEscPure
import Derived.Deep.QuietTactic
import Derived.BigQuiet
namespace Go.Proofs.Ytjnpndfpajjihaa
open Go.RowKit

set_option maxHeartbeats 1000000 in
theorem escape_any (s : ByteArray) (w : World) (hn : s.size ≤ maxLen) :
    Calls Try.prog 44 #[.string s] w fun e w' => e = .returned (.tuple #[.string (escT s), .bool (isMagic s)]) ∧ w = w' := by
  unfold maxLen at hn
  go_enter Try.func44, Try.ntmps44
  by_cases h4 : 4 ≤ s.size
  · by_cases hm : ((s.extract 0 4).toList == [87, 66, 75, 49]) = true
    · have HM : Hid (isMagic s = true) := by rw [Hid, isMagic, if_pos h4]; exact hm
      go_wp2
      go_ret2
      exact ⟨by rw [escT, HM.out]; rfl, rfl⟩
    · have hm' : ((s.extract 0 4).toList == [87, 66, 75, 49]) = false := by simpa using hm
      have HM : Hid (isMagic s = false) := by rw [Hid, isMagic, if_pos h4]; exact hm'
      clear hm
      go_wp2
      go_ret2
      exact ⟨by rw [escT, HM.out]; rfl, rfl⟩
  · have HM : Hid (isMagic s = false) := by rw [Hid, isMagic, if_neg h4]
    go_wp2
    go_ret2
    exact ⟨by rw [escT, HM.out]; rfl, rfl⟩

end Go.Proofs.Ytjnpndfpajjihaa
