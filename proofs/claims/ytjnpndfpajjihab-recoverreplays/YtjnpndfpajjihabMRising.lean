/-
  The walk of the document's own noughts.
-/
import Derived.Test.YtjnpndfpajjihabRising
import Derived.Test.YtjnpndfpajjihabBase
import Derived.Deep.QuietTactic
import Derived.BigQuiet
namespace Go.Proofs.Ytjnpndfpajjihab
open Go.RowKit

/-- Are all bytes from a place on noughts? -/
def zeroFrom (s : ByteArray) (k : Nat) : Bool := (s.data.toList.drop k).all (· == 0)

theorem zero_yes (s : ByteArray) (k : Nat) (h : k < s.size) (hz : s[k] = 0) : zeroFrom s k = zeroFrom s (k + 1) := by
  have e : s.data.toList.drop k = s[k] :: s.data.toList.drop (k + 1) := by rw [List.drop_eq_getElem_cons (by simpa using h)]; rfl
  rw [zeroFrom, e, List.all_cons, hz]; rfl
theorem zero_no (s : ByteArray) (k : Nat) (h : k < s.size) (hz : ¬ s[k] = 0) : zeroFrom s k = false := by
  have e : s.data.toList.drop k = s[k] :: s.data.toList.drop (k + 1) := by rw [List.drop_eq_getElem_cons (by simpa using h)]; rfl
  rw [zeroFrom, e, List.all_cons]
  simp [hz]
theorem zero_end (s : ByteArray) (k : Nat) (h : s.size ≤ k) : zeroFrom s k = true := by
  have hl : s.data.toList.length = s.size := rfl
  rw [zeroFrom, List.drop_eq_nil_of_le (by omega)]; rfl

set_option maxHeartbeats 1000000 in
theorem noughts_any (s : ByteArray) (n : Nat) (w : World) (hs : s.size ≤ 32) (hn : n ≤ 100) :
    Calls Try.prog 150 #[.string s, .int .i64 n] w fun e w' => e = .returned (.bool (zeroFrom s n)) ∧ w = w' := by
  go_enter Try.func150, Try.ntmps150
  go_wp2
  go_loop [5] (fun i => ∃ k : Nat, k ≤ 200 ∧ i = .int .i64 k ∧ Hid (zeroFrom s n = zeroFrom s k)) (fun i => 200 - (intOf i).toNat)
  case atStart => exact ⟨n, by omega, rfl, rfl⟩
  case round =>
    obtain ⟨k, hk, rfl, hz⟩ := hrel
    by_cases hlt : k < s.size
    · have hlt' : (k : Int) < (s.size : Int) := by omega
      by_cases h0 : s[k] = 0
      · have h1 : ((s[k].toNat : Int) != 0) = false := by rw [h0]; rfl
        have HZ := hide (zero_yes s k hlt h0)
        clear h0
        go_wp2
        go_round
        case rel => exact ⟨k + 1, by omega, by go_num, by rw [Hid, hz.out, HZ.out]⟩
        case measure => simp [intOf]; omega
      · have h1 : ((s[k].toNat : Int) != 0) = true := by
          rw [bne_iff_ne]
          intro e
          exact h0 (UInt8.toNat_inj.1 (by show s[k].toNat = 0; omega))
        have HZ := hide (zero_no s k hlt h0)
        clear h0
        go_wp2
        go_ret
        exact ⟨by rw [hz.out, HZ.out]; rfl, rfl⟩
    · have HZ := hide (zero_end s k (by omega))
      go_wp2
      go_ret
      exact ⟨by rw [hz.out, HZ.out]; rfl, rfl⟩

end Go.Proofs.Ytjnpndfpajjihab
