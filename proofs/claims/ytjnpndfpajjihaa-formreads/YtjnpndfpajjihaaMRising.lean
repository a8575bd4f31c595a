/-
  The walk of the document's own noughts.
-/
import Derived.Test.YtjnpndfpajjihaaMRising0
import Derived.Test.YtjnpndfpajjihaaRising
import Derived.Test.YtjnpndfpajjihaaBase
import Derived.Deep.QuietTactic
import Derived.BigQuiet
namespace Go.Proofs.Ytjnpndfpajjihaa
open Go.RowKit

set_option maxHeartbeats 1000000 in
theorem noughts_any (s : ByteArray) (n : Nat) (w : World) (hs : s.size ≤ 32) (hn : n ≤ 100) :
    Calls Try.prog 81 #[.string s, .int .i64 n] w fun e w' => e = .returned (.bool (zeroFrom s n)) ∧ w = w' := by
  go_enter Try.func81, Try.ntmps81
  go_wp2
  go_loop [5] (fun i => ∃ k : Nat, k ≤ 200 ∧ i = .int .i64 k ∧ Hid (zeroFrom s n = zeroFrom s k)) (fun i => 200 - (intOf i).toNat)
  case atStart => exact ⟨n, by omega, rfl, rfl⟩
  case round =>
    obtain ⟨k, hk, rfl, hz⟩ := hrel
    by_cases hlt : k < s.size
    · have hlt' : (k : Int) < (s.size : Int) := by omega
      by_cases h0 : s[k] = 0
      · have h1 : ((s[k].toNat : Int) != 0) = false := by rw [h0]; rfl
        have HZ := hide (zero_yes s k hlt h0)
        clear h0
        go_wp2
        go_round
        case rel => exact ⟨k + 1, by omega, by go_num, by rw [Hid, hz.out, HZ.out]⟩
        case measure => simp [intOf]; omega
      · have h1 : ((s[k].toNat : Int) != 0) = true := by
          rw [bne_iff_ne]
          intro e
          exact h0 (UInt8.toNat_inj.1 (by show s[k].toNat = 0; omega))
        have HZ := hide (zero_no s k hlt h0)
        clear h0
        go_wp2
        go_ret
        exact ⟨by rw [hz.out, HZ.out]; rfl, rfl⟩
    · have HZ := hide (zero_end s k (by omega))
      go_wp2
      go_ret
      exact ⟨by rw [hz.out, HZ.out]; rfl, rfl⟩

end Go.Proofs.Ytjnpndfpajjihaa
