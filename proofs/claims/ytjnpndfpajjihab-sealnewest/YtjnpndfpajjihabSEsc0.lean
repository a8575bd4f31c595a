/-
  The walks of stamp.Escape and stamp.Unescape, and of the statements' own marks.
-/
import Derived.Test.YtjnpndfpajjihabEscPure
import Derived.Test.YtjnpndfpajjihabSEncode
namespace Go.Proofs.Ytjnpndfpajjihab
open Go.RowKit

set_option maxHeartbeats 1000000 in
theorem hasPrefix_magic (s : ByteArray) (w : World) (hn : s.size ≤ maxLen) :
    Calls Try.prog 171 #[.string s, .string ⟨#[87, 66, 75, 49]⟩] w fun e w' => e = .returned (.bool (isMagic s)) ∧ w = w' := by
  unfold maxLen at hn
  go_enter Try.func171, Try.ntmps171
  by_cases h4 : 4 ≤ s.size
  · have h4' : (4 : Int) ≤ (s.size : Int) := by omega
    by_cases hm : ((s.extract 0 4).toList == [87, 66, 75, 49]) = true
    · have HM : Hid (isMagic s = true) := by rw [Hid, isMagic, if_pos h4]; exact hm
      go_wp2
      go_ret
      exact ⟨by rw [HM.out]; rfl, rfl⟩
    · have hm' : ((s.extract 0 4).toList == [87, 66, 75, 49]) = false := by simpa using hm
      have HM : Hid (isMagic s = false) := by rw [Hid, isMagic, if_pos h4]; exact hm'
      clear hm
      go_wp2
      go_ret
      exact ⟨by rw [HM.out]; rfl, rfl⟩
  · have h4' : ¬ (4 : Int) ≤ (s.size : Int) := by omega
    have HM : Hid (isMagic s = false) := by rw [Hid, isMagic, if_neg h4]
    go_wp2
    go_ret
    exact ⟨by rw [HM.out]; rfl, rfl⟩

/-- What is left behind Magic. -/
def cutT (s : ByteArray) : ByteArray := if isMagic s then s.extract 4 s.size else s
theorem magic_four {s : ByteArray} (h : isMagic s = true) : 4 ≤ s.size := by
  by_cases h4 : 4 ≤ s.size
  · exact h4
  · rw [isMagic, if_neg h4] at h; cases h
end Go.Proofs.Ytjnpndfpajjihab
