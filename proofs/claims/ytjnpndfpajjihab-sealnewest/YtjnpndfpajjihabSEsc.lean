/-
  The walks of stamp.Escape and stamp.Unescape, and of the statements' own marks.
-/
import Derived.Test.YtjnpndfpajjihabSEsc0
import Derived.Test.YtjnpndfpajjihabEscPure
import Derived.Test.YtjnpndfpajjihabSEncode
namespace Go.Proofs.Ytjnpndfpajjihab
open Go.RowKit

set_option maxHeartbeats 1000000 in
theorem cutLite_magic (s : ByteArray) (w : World) (hn : s.size ≤ maxLen) :
    Calls Try.prog 206 #[.string s, .string ⟨#[87, 66, 75, 49]⟩] w fun e w' => e = .returned (.tuple #[.string (cutT s), .bool (isMagic s)]) ∧ w = w' := by
  have HN := hide hn
  unfold maxLen at hn
  go_enter Try.func206, Try.ntmps206
  go_wp2_with fail
  refine (hasPrefix_magic s _ HN.out).mono ?_
  rintro e w1 ⟨rfl, rfl⟩
  cases hm : isMagic s with
  | true =>
    have h4 := magic_four hm
    have HM := hide hm
    have HC : Hid (cutT s = s.extract 4 s.size) := by rw [Hid, cutT, if_pos hm]
    clear hm
    go_wp2
    go_ret2
    exact ⟨by rw [HC.out, HM.out]; rfl, rfl⟩
  | false =>
    have HM := hide hm
    have HC : Hid (cutT s = s) := by rw [Hid, cutT, hm]; rfl
    clear hm
    go_wp2
    go_ret2
    exact ⟨by rw [HC.out, HM.out]; rfl, rfl⟩

set_option maxHeartbeats 1000000 in
theorem cut_magic (s : ByteArray) (w : World) (hn : s.size ≤ maxLen) :
    Calls Try.prog 198 #[.string s, .string ⟨#[87, 66, 75, 49]⟩] w fun e w' => e = .returned (.tuple #[.string (cutT s), .bool (isMagic s)]) ∧ w = w' := by
  have HN := hide hn
  go_enter Try.func198, Try.ntmps198
  go_wp2_with fail
  refine (cutLite_magic s _ HN.out).mono ?_
  rintro e w1 ⟨rfl, rfl⟩
  go_wp2
  go_ret2
  exact ⟨rfl, rfl⟩

set_option maxHeartbeats 1000000 in
theorem stampEscape_any (s : ByteArray) (w : World) (hn : s.size ≤ maxLen) :
    Calls Try.prog 176 #[.string s] w fun e w' => e = .returned (.tuple #[.string (escT s), .bool (isMagic s)]) ∧ w = w' := by
  have HN := hide hn
  unfold maxLen at hn
  go_enter Try.func176, Try.ntmps176
  go_wp2_with fail
  refine (cut_magic s _ HN.out).mono ?_
  rintro e w1 ⟨rfl, rfl⟩
  cases hm : isMagic s with
  | true =>
    have h4 := magic_four hm
    have HM := hide hm
    have HC : Hid (cutT s = s.extract 4 s.size) := by rw [Hid, cutT, if_pos hm]
    have HE : Hid (escT s = (⟨#[0, 0, 0, 0]⟩ : ByteArray) ++ s.extract 4 s.size) := by rw [Hid, escT, if_pos hm]
    have hz : (s.extract 4 s.size).size ≤ s.size := by rw [ByteArray.size_extract]; omega
    clear hm
    rw [HC.out]
    go_wp2
    go_ret2
    exact ⟨by rw [HE.out, HM.out]; rfl, rfl⟩
  | false =>
    have HM := hide hm
    have HE : Hid (escT s = s) := by rw [Hid, escT, hm]; rfl
    clear hm
    go_wp2
    go_ret2
    exact ⟨by rw [HE.out, HM.out]; rfl, rfl⟩

end Go.Proofs.Ytjnpndfpajjihab
