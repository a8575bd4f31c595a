/-
  The walk of the document's own noughts.
-/
import Derived.Test.YtjnpndfpajjihaaMCore
import Derived.Test.YtjnpndfpajjihaaBase
import Derived.Deep.QuietTactic
import Derived.BigQuiet
namespace Go.Proofs.Ytjnpndfpajjihaa
open Go.RowKit

/-- Are all bytes from a place on noughts? -/
def zeroFrom (s : ByteArray) (k : Nat) : Bool := (s.data.toList.drop k).all (· == 0)

theorem zero_yes (s : ByteArray) (k : Nat) (h : k < s.size) (hz : s[k] = 0) : zeroFrom s k = zeroFrom s (k + 1) := by
  have e : s.data.toList.drop k = s[k] :: s.data.toList.drop (k + 1) := by rw [List.drop_eq_getElem_cons (by simpa using h)]; rfl
  rw [zeroFrom, e, List.all_cons, hz]; rfl
theorem zero_no (s : ByteArray) (k : Nat) (h : k < s.size) (hz : ¬ s[k] = 0) : zeroFrom s k = false := by
  have e : s.data.toList.drop k = s[k] :: s.data.toList.drop (k + 1) := by rw [List.drop_eq_getElem_cons (by simpa using h)]; rfl
  rw [zeroFrom, e, List.all_cons]
  simp [hz]
theorem zero_end (s : ByteArray) (k : Nat) (h : s.size ≤ k) : zeroFrom s k = true := by
  have hl : s.data.toList.length = s.size := rfl
  rw [zeroFrom, List.drop_eq_nil_of_le (by omega)]; rfl
end Go.Proofs.Ytjnpndfpajjihaa
