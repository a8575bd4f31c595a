/-
  The walk of the document's own SameCopies, at two lists that are the same.
-/
import Derived.Test.YtjnpndfpajjihabTDefs
namespace Go.Proofs.Ytjnpndfpajjihab
open Go.RowKit

set_option maxHeartbeats 1000000 in
theorem sameCopies_walk (a : Option Addr) (c : Nat) (a' : Option Addr) (c' : Nat) (l : List (Int × ByteArray)) (w : World) (h : SegW w a l) (h' : SegW w a' l) (hn : l.length ≤ maxLen) :
    Calls Try.prog 47 #[.slice a l.length c, .slice a' l.length c'] w fun e w' => e = .returned (.bool true) ∧ Below w.heap.size w w' := by
  unfold maxLen at hn
  have HS := hide h
  have HS' := hide h'
  clear h h'
  go_enter Try.func47, Try.ntmps47
  go_wp2
  go_loopw [13] (fun i wr => ∃ k q : Nat, k ≤ l.length ∧ i = .int .i64 k ∧ wr = w.drewN q) (fun i _ => l.length - (intOf i).toNat)
  case atStart => exact ⟨0, 0, Nat.zero_le _, rfl, rfl⟩
  case round =>
    obtain ⟨k, q, hk, rfl, rfl⟩ := hrel
    by_cases hlt : k < l.length
    · obtain ⟨b1, o1, rfl, hb1, hc1⟩ := HS.out.resolve_left (by intro e; rw [e] at hlt; simp at hlt)
      obtain ⟨b2, o2, rfl, hb2, hc2⟩ := HS'.out.resolve_left (by intro e; rw [e] at hlt; simp at hlt)
      obtain ⟨g1, g1'⟩ := hc1 k hlt
      obtain ⟨g2, g2'⟩ := hc2 k hlt
      obtain ⟨x, hx⟩ : ∃ x, x = l.getD k (0, ByteArray.empty) := ⟨_, rfl⟩
      rw [← hx] at g1 g1' g2 g2'
      clear hc1 hc2 hx
      obtain ⟨n, s⟩ := x
      have hlt' : (k : Int) < (l.length : Int) := by omega
      go_wp2
      go_quiet (fail)
      go_wp2
      go_roundw
      case rel => exact ⟨k + 1, _, by omega, by go_num, rfl⟩
      case measure => simp [intOf]; omega
    · go_wp2
      go_ret
      exact ⟨rfl, below_drewN (Below.refl _ _) _⟩

end Go.Proofs.Ytjnpndfpajjihab
