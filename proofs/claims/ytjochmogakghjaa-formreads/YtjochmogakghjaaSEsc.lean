/-
  The walks of stamp.Escape and stamp.Unescape, and of the statements' own marks.
-/
import Derived.Test.YtjochmogakghjaaEscRef
import Derived.Test.YtjochmogakghjaaSEncode
namespace Go.Proofs.Ytjochmogakghjaa
open Go.RowKit

set_option maxHeartbeats 1000000 in
theorem hasPrefix_magic (s : ByteArray) (w : World) (hn : s.size ≤ maxLen) :
    Calls Try.prog 81 #[.string s, .string ⟨#[87, 66, 75, 49]⟩] w fun e w' => e = .returned (.bool (isMagic s)) ∧ w = w' := by
  unfold maxLen at hn
  go_enter Try.func81, Try.ntmps81
  by_cases h4 : 4 ≤ s.size
  · have h4' : (4 : Int) ≤ (s.size : Int) := by omega
    by_cases hm : ((s.extract 0 4).toList == [87, 66, 75, 49]) = true
    · have HM : Hid (isMagic s = true) := by rw [Hid, isMagic, if_pos h4]; exact hm
      go_wp2
      go_ret
      exact ⟨by rw [HM.out]; rfl, rfl⟩
    · have hm' : ((s.extract 0 4).toList == [87, 66, 75, 49]) = false := by simpa using hm
      have HM : Hid (isMagic s = false) := by rw [Hid, isMagic, if_pos h4]; exact hm'
      clear hm
      go_wp2
      go_ret
      exact ⟨by rw [HM.out]; rfl, rfl⟩
  · have h4' : ¬ (4 : Int) ≤ (s.size : Int) := by omega
    have HM : Hid (isMagic s = false) := by rw [Hid, isMagic, if_neg h4]
    go_wp2
    go_ret
    exact ⟨by rw [HM.out]; rfl, rfl⟩

/-- What is left behind Magic. -/
def cutT (s : ByteArray) : ByteArray := if isMagic s then s.extract 4 s.size else s
theorem magic_four {s : ByteArray} (h : isMagic s = true) : 4 ≤ s.size := by
  by_cases h4 : 4 ≤ s.size
  · exact h4
  · rw [isMagic, if_neg h4] at h; cases h

set_option maxHeartbeats 1000000 in
theorem cutLite_magic (s : ByteArray) (w : World) (hn : s.size ≤ maxLen) :
    Calls Try.prog 78 #[.string s, .string ⟨#[87, 66, 75, 49]⟩] w fun e w' => e = .returned (.tuple #[.string (cutT s), .bool (isMagic s)]) ∧ w = w' := by
  have HN := hide hn
  unfold maxLen at hn
  go_enter Try.func78, Try.ntmps78
  go_wp2_with fail
  refine (hasPrefix_magic s _ HN.out).mono ?_
  rintro e w1 ⟨rfl, rfl⟩
  cases hm : isMagic s with
  | true =>
    have h4 := magic_four hm
    have HM := hide hm
    have HC : Hid (cutT s = s.extract 4 s.size) := by rw [Hid, cutT, if_pos hm]
    clear hm
    go_wp2
    go_ret2
    exact ⟨by rw [HC.out, HM.out]; rfl, rfl⟩
  | false =>
    have HM := hide hm
    have HC : Hid (cutT s = s) := by rw [Hid, cutT, hm]; rfl
    clear hm
    go_wp2
    go_ret2
    exact ⟨by rw [HC.out, HM.out]; rfl, rfl⟩

set_option maxHeartbeats 1000000 in
theorem cut_magic (s : ByteArray) (w : World) (hn : s.size ≤ maxLen) :
    Calls Try.prog 67 #[.string s, .string ⟨#[87, 66, 75, 49]⟩] w fun e w' => e = .returned (.tuple #[.string (cutT s), .bool (isMagic s)]) ∧ w = w' := by
  have HN := hide hn
  go_enter Try.func67, Try.ntmps67
  go_wp2_with fail
  refine (cutLite_magic s _ HN.out).mono ?_
  rintro e w1 ⟨rfl, rfl⟩
  go_wp2
  go_ret2
  exact ⟨rfl, rfl⟩

set_option maxHeartbeats 1000000 in
theorem stampEscape_any (s : ByteArray) (w : World) (hn : s.size ≤ maxLen) :
    Calls Try.prog 41 #[.string s] w fun e w' => e = .returned (.tuple #[.string (escT s), .bool (isMagic s)]) ∧ w = w' := by
  have HN := hide hn
  unfold maxLen at hn
  go_enter Try.func41, Try.ntmps41
  go_wp2_with fail
  refine (cut_magic s _ HN.out).mono ?_
  rintro e w1 ⟨rfl, rfl⟩
  cases hm : isMagic s with
  | true =>
    have h4 := magic_four hm
    have HM := hide hm
    have HC : Hid (cutT s = s.extract 4 s.size) := by rw [Hid, cutT, if_pos hm]
    have HE : Hid (escT s = (⟨#[0, 0, 0, 0]⟩ : ByteArray) ++ s.extract 4 s.size) := by rw [Hid, escT, if_pos hm]
    have hz : (s.extract 4 s.size).size ≤ s.size := by rw [ByteArray.size_extract]; omega
    clear hm
    rw [HC.out]
    go_wp2
    go_ret2
    exact ⟨by rw [HE.out, HM.out]; rfl, rfl⟩
  | false =>
    have HM := hide hm
    have HE : Hid (escT s = s) := by rw [Hid, escT, hm]; rfl
    clear hm
    go_wp2
    go_ret2
    exact ⟨by rw [HE.out, HM.out]; rfl, rfl⟩

set_option maxHeartbeats 1000000 in
theorem stampUnescape_any (s : ByteArray) (b : Bool) (w : World) (hn : s.size ≤ maxLen) :
    Calls Try.prog 43 #[.string s, .bool b] w fun e w' => e = .returned (.string (unescT s b)) ∧ w = w' := by
  unfold maxLen at hn
  go_enter Try.func43, Try.ntmps43
  cases b with
  | false =>
    go_wp2
    go_ret
    exact ⟨by simp [unescT], rfl⟩
  | true =>
    by_cases h4 : s.size < 4
    · have h4' : (s.size : Int) < 4 := by omega
      go_wp2
      go_ret
      exact ⟨by simp [unescT, h4], rfl⟩
    · have h4' : ¬ (s.size : Int) < 4 := by omega
      go_wp2
      go_ret
      exact ⟨by simp [unescT, h4], rfl⟩

theorem ten258 : (((⟨#[87, 66, 75, 49, 4, 0, 0, 1, 2, 0, 0, 0, 0, 0, 0, 0, 0, 0, 0, 0, 0, 0, 0, 0, 0, 0, 0, 0, 0, 0, 0, 0]⟩ : ByteArray).extract 0 10).toList == [87, 66, 75, 49, 4, 0, 0, 1, 2, 0]) = true := by kernel_rfl
theorem enc258 : encT ⟨4, 258, 0, [], []⟩ = ⟨#[87, 66, 75, 49, 4, 0, 0, 1, 2, 0, 0, 0, 0, 0, 0, 0, 0, 0, 0, 0, 0, 0, 0, 0, 0, 0, 0, 0, 0, 0, 0, 0]⟩ := by
  rw [encT, if_pos (by decide)]
  rfl
theorem good258 : goodM ⟨4, 258, 0, [], []⟩ = 0 := by decide
theorem is258 (w : World) : IsMk w (.agg #[.int .i64 4, .int .i64 258, .int .i64 0, .slice none 0 0, .slice none 0 0]) ⟨4, 258, 0, [], []⟩ := ⟨none, 0, none, 0, rfl, .inl rfl, .inl rfl, Nat.zero_le _, Nat.zero_le _⟩

set_option maxHeartbeats 1000000 in
set_option maxRecDepth 100000 in
theorem lawMarks_any (w : World) :
    Calls Try.prog 37 #[] w fun e w' => e = .returned (.bool true) ∧ Below w.heap.size w w' := by
  go_enter Try.func37, Try.ntmps37
  go_wp2_with fail
  refine (stampEncode_any _ ⟨4, 258, 0, [], []⟩ _ (is258 _)).mono ?_
  rintro e w1 ⟨rfl, hb1⟩
  rw [enc258, good258]
  have h10 := ten258
  have HB := hide hb1
  clear hb1
  go_wp2
  go_ret
  exact ⟨rfl, HB.out⟩

set_option maxHeartbeats 1000000 in
set_option maxRecDepth 100000 in
theorem keepMarks_any (w : World) :
    Calls Try.prog 45 #[] w fun e w' => e = .returned (.bool true) ∧ Below w.heap.size w w' := by
  go_enter Try.func45, Try.ntmps45
  go_wp2_with fail
  refine (stampEncode_any _ ⟨4, 258, 0, [], []⟩ _ (is258 _)).mono ?_
  rintro e w1 ⟨rfl, hb1⟩
  rw [enc258, good258]
  have h10 := ten258
  have HB := hide hb1
  clear hb1
  go_wp2
  go_ret
  exact ⟨rfl, HB.out⟩

end Go.Proofs.Ytjochmogakghjaa
