/-
  The walk of the document's own SameMark, at two marks that are the same.
-/
import Derived.Test.YtjnpndfpajjihaaMCore
import Derived.Deep.QuietTactic
import Derived.BigQuiet
namespace Go.Proofs.Ytjnpndfpajjihaa
open Go.RowKit

set_option maxHeartbeats 2000000 in
set_option maxRecDepth 100000 in
theorem refSameMark_walk (a1 : Option Addr) (c1 : Nat) (a1' : Option Addr) (c1' : Nat) (a2 : Option Addr) (c2 : Nat) (a2' : Option Addr) (c2' : Nat) (m : Mk) (w : World)
    (hS1 : SegT w a1 m.tags) (hW1 : SegI w a1' m.blocks) (hS2 : SegT w a2 m.tags) (hW2 : SegI w a2' m.blocks) (hn : m.tags.length ≤ maxLen) (hm : m.blocks.length ≤ maxLen) :
    Calls Try.prog 42 #[.agg #[.int .i64 m.kind, .int .i64 m.seq, .int .i64 m.pos, .slice a1 m.tags.length c1, .slice a1' m.blocks.length c1'], .agg #[.int .i64 m.kind, .int .i64 m.seq, .int .i64 m.pos, .slice a2 m.tags.length c2, .slice a2' m.blocks.length c2']] w fun e w' => e = .returned (.bool true) ∧ Below w.heap.size w w' := by
  unfold maxLen at hn hm
  have HS1 : Hid (SegT w a1 m.tags) := hS1
  have HS2 : Hid (SegT w a2 m.tags) := hS2
  have HW1 : Hid (SegI w a1' m.blocks) := hW1
  have HW2 : Hid (SegI w a2' m.blocks) := hW2
  clear hS1 hS2 hW1 hW2
  go_enter Try.func42, Try.ntmps42
  go_wp2
  go_loopw [47] (fun i wr => ∃ k q : Nat, k ≤ m.tags.length ∧ i = .int .i64 k ∧ wr = ((w.alloc (Obj.cells #[.int .i64 m.kind, .int .i64 m.seq, .int .i64 m.pos, .slice a1 m.tags.length c1, .slice a1' m.blocks.length c1'] 47)).alloc (Obj.cells #[.int .i64 m.kind, .int .i64 m.seq, .int .i64 m.pos, .slice a2 m.tags.length c2, .slice a2' m.blocks.length c2'] 47)).drewN q) (fun i _ => m.tags.length - (intOf i).toNat)
  case atStart => exact ⟨0, 0, Nat.zero_le _, rfl, rfl⟩
  case round =>
    obtain ⟨k, q, hk, rfl, rfl⟩ := hrel
    by_cases hlt : k < m.tags.length
    · obtain ⟨b1, o1, rfl, hb1, hc1⟩ := HS1.out.resolve_left (by intro e; rw [e] at hlt; simp at hlt)
      obtain ⟨b2, o2, rfl, hb2, hc2⟩ := HS2.out.resolve_left (by intro e; rw [e] at hlt; simp at hlt)
      obtain ⟨g1, g1'⟩ := hc1 k hlt
      obtain ⟨g2, g2'⟩ := hc2 k hlt
      obtain ⟨x, hx⟩ : ∃ x, x = m.tags.getD k (0, false) := ⟨_, rfl⟩
      rw [← hx] at g1 g1' g2 g2'
      clear hc1 hc2 hx
      obtain ⟨n, s⟩ := x
      have hlt' : (k : Int) < (m.tags.length : Int) := by omega
      go_wp2
      go_quiet (fail)
      go_wp2
      go_roundw
      case rel => exact ⟨k + 1, _, by omega, by go_num, rfl⟩
      case measure => simp [intOf]; omega
    · go_wp2
      go_loopw [65] (fun i wr => ∃ k q : Nat, k ≤ m.blocks.length ∧ i = .int .i64 k ∧ wr = ((w.alloc (Obj.cells #[.int .i64 m.kind, .int .i64 m.seq, .int .i64 m.pos, .slice a1 m.tags.length c1, .slice a1' m.blocks.length c1'] 47)).alloc (Obj.cells #[.int .i64 m.kind, .int .i64 m.seq, .int .i64 m.pos, .slice a2 m.tags.length c2, .slice a2' m.blocks.length c2'] 47)).drewN q) (fun i _ => m.blocks.length - (intOf i).toNat)
      case atStart => exact ⟨0, _, Nat.zero_le _, rfl, rfl⟩
      case round =>
        obtain ⟨j, q', hj, rfl, rfl⟩ := hrel
        by_cases hltj : j < m.blocks.length
        · obtain ⟨b1, o1, rfl, hb1, hc1⟩ := HW1.out.resolve_left (by intro e; rw [e] at hltj; simp at hltj)
          obtain ⟨b2, o2, rfl, hb2, hc2⟩ := HW2.out.resolve_left (by intro e; rw [e] at hltj; simp at hltj)
          have g1 := hc1 j hltj
          have g2 := hc2 j hltj
          obtain ⟨n, hx⟩ : ∃ x, x = m.blocks.getD j 0 := ⟨_, rfl⟩
          rw [← hx] at g1 g2
          clear hc1 hc2 hx
          have hltj' : (j : Int) < (m.blocks.length : Int) := by omega
          go_wp2
          go_quiet (fail)
          go_wp2
          go_roundw
          case rel => exact ⟨j + 1, _, by omega, by go_num, rfl⟩
          case measure => simp [intOf]; omega
        · go_wp2
          go_ret
          exact ⟨rfl, below_drewN (bthen (below1 _ _) (below1 _ _)) _⟩

/-- It says true of two values that read as one mark. -/
theorem refSameMark_any (v1 v2 : Value) (m : Mk) (w : World) (h1 : IsMk w v1 m) (h2 : IsMk w v2 m) :
    Calls Try.prog 42 #[v1, v2] w fun e w' => e = .returned (.bool true) ∧ Below w.heap.size w w' := by
  obtain ⟨a, c, a', c', rfl, hs, hw, hn, hm⟩ := h1
  obtain ⟨b, e, b', e', rfl, hs', hw', _, _⟩ := h2
  exact refSameMark_walk a c a' c' b e b' e' m w hs hw hs' hw' hn hm

end Go.Proofs.Ytjnpndfpajjihaa
