/-
  The walks of the document's own EscapeBlock and UnescapeBlock.
-/
import Derived.Test.YtjochmogakghjaaBase
import Derived.Deep.QuietTactic
import Derived.BigQuiet
namespace Go.Proofs.Ytjochmogakghjaa
open Go.RowKit

/-- Does a text begin with Magic? What Escape and Unescape make of it. -/
def isMagic (s : ByteArray) : Bool := if 4 ≤ s.size then ((s.extract 0 4).toList == [87, 66, 75, 49]) else false
def escT (s : ByteArray) : ByteArray := if isMagic s then (⟨#[0, 0, 0, 0]⟩ : ByteArray) ++ s.extract 4 s.size else s
def unescT (s : ByteArray) (e : Bool) : ByteArray := if e = false ∨ s.size < 4 then s else (⟨#[87, 66, 75, 49]⟩ : ByteArray) ++ s.extract 4 s.size

set_option maxHeartbeats 1000000 in
theorem escape_any (s : ByteArray) (w : World) (hn : s.size ≤ maxLen) :
    Calls Try.prog 42 #[.string s] w fun e w' => e = .returned (.tuple #[.string (escT s), .bool (isMagic s)]) ∧ w = w' := by
  unfold maxLen at hn
  go_enter Try.func42, Try.ntmps42
  by_cases h4 : 4 ≤ s.size
  · by_cases hm : ((s.extract 0 4).toList == [87, 66, 75, 49]) = true
    · have HM : Hid (isMagic s = true) := by rw [Hid, isMagic, if_pos h4]; exact hm
      go_wp2
      go_ret2
      exact ⟨by rw [escT, HM.out]; rfl, rfl⟩
    · have hm' : ((s.extract 0 4).toList == [87, 66, 75, 49]) = false := by simpa using hm
      have HM : Hid (isMagic s = false) := by rw [Hid, isMagic, if_pos h4]; exact hm'
      clear hm
      go_wp2
      go_ret2
      exact ⟨by rw [escT, HM.out]; rfl, rfl⟩
  · have HM : Hid (isMagic s = false) := by rw [Hid, isMagic, if_neg h4]
    go_wp2
    go_ret2
    exact ⟨by rw [escT, HM.out]; rfl, rfl⟩

set_option maxHeartbeats 1000000 in
theorem unescape_any (s : ByteArray) (b : Bool) (w : World) (hn : s.size ≤ maxLen) :
    Calls Try.prog 44 #[.string s, .bool b] w fun e w' => e = .returned (.string (unescT s b)) ∧ w = w' := by
  unfold maxLen at hn
  go_enter Try.func44, Try.ntmps44
  cases b with
  | false =>
    go_wp2
    go_ret
    exact ⟨by simp [unescT], rfl⟩
  | true =>
    by_cases h4 : s.size < 4
    · go_wp2
      go_ret
      exact ⟨by simp [unescT, h4], rfl⟩
    · go_wp2
      go_ret
      exact ⟨by simp [unescT, h4], rfl⟩

end Go.Proofs.Ytjochmogakghjaa
