/-
  The walk of the statements' own sameDisk, at two disks that are the same.
-/
import Derived.Test.YtjnpndfpajjihaaPut
import Derived.Deep.QuietTactic
import Derived.BigQuiet
namespace Go.Proofs.Ytjnpndfpajjihaa
open Go.RowKit

set_option maxHeartbeats 2000000 in
set_option maxRecDepth 100000 in
theorem same_walk (a1 : Option Addr) (c1 : Nat) (a1' : Option Addr) (c1' : Nat) (a2 : Option Addr) (c2 : Nat) (a2' : Option Addr) (c2' : Nat) (d : Dk) (w : World)
    (hS1 : SegS w a1 d.safe) (hW1 : SegW w a1' d.wr) (hS2 : SegS w a2 d.safe) (hW2 : SegW w a2' d.wr) (hn : d.safe.length ≤ maxLen) (hm : d.wr.length ≤ maxLen) :
    Calls Try.prog 33 #[.agg #[.slice a1 d.safe.length c1, .slice a1' d.wr.length c1'], .agg #[.slice a2 d.safe.length c2, .slice a2' d.wr.length c2']] w fun e w' => e = .returned (.bool true) ∧ Below w.heap.size w w' := by
  unfold maxLen at hn hm
  have HS1 : Hid (SegS w a1 d.safe) := hS1
  have HS2 : Hid (SegS w a2 d.safe) := hS2
  have HW1 : Hid (SegW w a1' d.wr) := hW1
  have HW2 : Hid (SegW w a2' d.wr) := hW2
  clear hS1 hS2 hW1 hW2
  go_enter Try.func33, Try.ntmps33
  go_wp2
  go_loopw [5] (fun i wr => ∃ k q : Nat, k ≤ d.safe.length ∧ i = .int .i64 k ∧ wr = ((w.alloc (Obj.cells #[.slice a1 d.safe.length c1, .slice a1' d.wr.length c1'] 25)).alloc (Obj.cells #[.slice a2 d.safe.length c2, .slice a2' d.wr.length c2'] 25)).drewN q) (fun i _ => d.safe.length - (intOf i).toNat)
  case atStart => exact ⟨0, 0, Nat.zero_le _, rfl, rfl⟩
  case round =>
    obtain ⟨k, q, hk, rfl, rfl⟩ := hrel
    by_cases hlt : k < d.safe.length
    · obtain ⟨b1, o1, rfl, hb1, hc1⟩ := HS1.out.resolve_left (by intro e; rw [e] at hlt; simp at hlt)
      obtain ⟨b2, o2, rfl, hb2, hc2⟩ := HS2.out.resolve_left (by intro e; rw [e] at hlt; simp at hlt)
      have g1 := hc1 k hlt
      have g2 := hc2 k hlt
      obtain ⟨s, hs⟩ : ∃ s, s = d.safe.getD k ByteArray.empty := ⟨_, rfl⟩
      rw [← hs] at g1 g2
      clear hc1 hc2 hs
      have hlt' : (k : Int) < (d.safe.length : Int) := by omega
      go_wp2
      go_quiet (fail)
      go_wp2
      go_roundw
      case rel => exact ⟨k + 1, _, by omega, by go_num, rfl⟩
      case measure => simp [intOf]; omega
    · go_wp2
      go_loopw [6] (fun i wr => ∃ k q : Nat, k ≤ d.wr.length ∧ i = .int .i64 k ∧ wr = ((w.alloc (Obj.cells #[.slice a1 d.safe.length c1, .slice a1' d.wr.length c1'] 25)).alloc (Obj.cells #[.slice a2 d.safe.length c2, .slice a2' d.wr.length c2'] 25)).drewN q) (fun i _ => d.wr.length - (intOf i).toNat)
      case atStart => exact ⟨0, _, Nat.zero_le _, rfl, rfl⟩
      case round =>
        obtain ⟨j, q', hj, rfl, rfl⟩ := hrel
        by_cases hltj : j < d.wr.length
        · obtain ⟨b1, o1, rfl, hb1, hc1⟩ := HW1.out.resolve_left (by intro e; rw [e] at hltj; simp at hltj)
          obtain ⟨b2, o2, rfl, hb2, hc2⟩ := HW2.out.resolve_left (by intro e; rw [e] at hltj; simp at hltj)
          obtain ⟨g1, g1'⟩ := hc1 j hltj
          obtain ⟨g2, g2'⟩ := hc2 j hltj
          obtain ⟨x, hx⟩ : ∃ x, x = d.wr.getD j (0, ByteArray.empty) := ⟨_, rfl⟩
          rw [← hx] at g1 g1' g2 g2'
          clear hc1 hc2 hx
          obtain ⟨n, s⟩ := x
          have hltj' : (j : Int) < (d.wr.length : Int) := by omega
          go_wp2
          go_quiet (fail)
          go_wp2
          go_roundw
          case rel => exact ⟨j + 1, _, by omega, by go_num, rfl⟩
          case measure => simp [intOf]; omega
        · go_wp2
          go_ret
          exact ⟨rfl, below_drewN (bthen (below1 _ _) (below1 _ _)) _⟩

/-- sameDisk says true of two values that read as one disk. -/
theorem same_any (v1 v2 : Value) (d : Dk) (w : World) (h1 : IsDk w v1 d) (h2 : IsDk w v2 d) :
    Calls Try.prog 33 #[v1, v2] w fun e w' => e = .returned (.bool true) ∧ Below w.heap.size w w' := by
  obtain ⟨a, c, a', c', rfl, hs, hw, hn, hm⟩ := h1
  obtain ⟨b, e, b', e', rfl, hs', hw', _, _⟩ := h2
  exact same_walk a c a' c' b e b' e' d w hs hw hs' hw' hn hm

end Go.Proofs.Ytjnpndfpajjihaa
