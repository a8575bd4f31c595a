/-
  The walk of the document's own SameTxn, at two transactions that are the same.
-/
import Derived.Test.YtjnpndfpajjihabTCore
import Derived.Test.YtjnpndfpajjihabTSameC
namespace Go.Proofs.Ytjnpndfpajjihab
open Go.RowKit

set_option maxHeartbeats 2000000 in
set_option maxRecDepth 100000 in
theorem sameTxn_any (v1 v2 : Value) (t : Tx) (w : World) (h1 : IsTx w v1 t) (h2 : IsTx w v2 t) :
    Calls Try.prog 21 #[v1, v2] w fun e w' => e = .returned (.bool true) ∧ Below w.heap.size w w' := by
  obtain ⟨a, c, a', c', b, d, rfl, hm, hd, hr, n1, n2, n3⟩ := h1
  obtain ⟨A, C, A', C', B, D, rfl, hM, hD, hR, _, _, _⟩ := h2
  have HM := hide hm
  have HD := hide hd
  have HR := hide hr
  have HM' := hide hM
  have HD' := hide hD
  have HR' := hide hR
  have HN1 := hide n1
  have HN2 := hide n2
  unfold maxLen at n3
  clear hm hd hr hM hD hR n1 n2
  have hEq : ∀ w : World, (Op.equalIn 10000 38 (.agg #[.bool t.h0.on, .int .i64 t.h0.left, .bool t.h1.on, .int .i64 t.h1.left, .bool t.h2.on, .int .i64 t.h2.left]) (.agg #[.bool t.h0.on, .int .i64 t.h0.left, .bool t.h1.on, .int .i64 t.h1.left, .bool t.h2.on, .int .i64 t.h2.left])).run Try.prog w = .ok true w := fun w => by
    have := eqHandles 9997 t.h0.on t.h1.on t.h2.on t.h0.on t.h1.on t.h2.on t.h0.left t.h1.left t.h2.left t.h0.left t.h1.left t.h2.left w
    simpa only [beq_self_eq_true, Bool.and_self] using this
  go_enter Try.func21, Try.ntmps21
  go_wp2_with fail
  refine (sameCopies_walk _ _ _ _ t.info _ (HM.out.below (bthen (below1 _ _) (below1 _ _))) (HM'.out.below (bthen (below1 _ _) (below1 _ _))) HN1.out).mono ?_
  rintro e w1 ⟨rfl, hb1⟩
  have hs1 : w.heap.size + 1 < w1.heap.size := by have := hb1.size; simp at this; omega
  have hs1' : w.heap.size < w1.heap.size := by omega
  have K1 := hide (two1 hb1)
  have K2 := hide (two2 hb1)
  obtain ⟨⟨x0, x1, x2, x3, x4, x5, x6, x7, x8, x9⟩, _⟩ := box10 K1.out
  obtain ⟨⟨y0, y1, y2, y3, y4, y5, y6, y7, y8, y9⟩, _⟩ := box10 K2.out
  have HB1 := hide (bthen (bthen (below1 _ _) (below1 _ _)) hb1)
  clear hb1
  go_wp2_with fail
  refine (sameCopies_walk _ _ _ _ t.data _ (HD.out.below HB1.out) (HD'.out.below HB1.out) HN2.out).mono ?_
  rintro e w2 ⟨rfl, hb2⟩
  have hs2 : w.heap.size + 1 < w2.heap.size := by have := hb2.size; omega
  have hs2' : w.heap.size < w2.heap.size := by omega
  have z3 := cellKeep hb2 (by omega) x3
  have u3 := cellKeep hb2 (by omega) y3
  have HB2 := hide (bthen HB1.out hb2)
  have HR2 := hide (HR.out.below HB2.out)
  have HR2' := hide (HR'.out.below HB2.out)
  clear hb2 x0 x1 x2 x3 x4 x5 x6 x7 x8 x9 y0 y1 y2 y3 y4 y5 y6 y7 y8 y9 K1 K2
  go_wp2
  go_loopw [46] (fun i wr => ∃ k q : Nat, k ≤ t.rev.length ∧ i = .int .i64 k ∧ wr = w2.drewN q) (fun i _ => t.rev.length - (intOf i).toNat)
  case atStart => exact ⟨0, 0, Nat.zero_le _, rfl, rfl⟩
  case round =>
    obtain ⟨k, q, hk, rfl, rfl⟩ := hrel
    by_cases hlt : k < t.rev.length
    · obtain ⟨b1, o1, rfl, hb1, hc1⟩ := HR2.out.resolve_left (by intro e; rw [e] at hlt; simp at hlt)
      obtain ⟨b2, o2, rfl, hb2, hc2⟩ := HR2'.out.resolve_left (by intro e; rw [e] at hlt; simp at hlt)
      have g1 := hc1 k hlt
      have g2 := hc2 k hlt
      obtain ⟨n, hx⟩ : ∃ x, x = t.rev.getD k 0 := ⟨_, rfl⟩
      rw [← hx] at g1 g2
      clear hc1 hc2 hx
      have hlt' : (k : Int) < (t.rev.length : Int) := by omega
      go_wp2
      go_quiet (fail)
      go_wp2
      go_roundw
      case rel => exact ⟨k + 1, _, by omega, by go_num, rfl⟩
      case measure => simp [intOf]; omega
    · go_wp2
      go_ret
      exact ⟨rfl, below_drewN HB2.out _⟩

end Go.Proofs.Ytjnpndfpajjihab
