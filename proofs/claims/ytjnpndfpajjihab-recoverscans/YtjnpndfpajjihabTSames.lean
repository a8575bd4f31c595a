/-
  The walk of the document's own SameCopies, at two lists that are the same.
  The walk of the document's own SameTxn, at two transactions that are the same.
  The walk of the document's own SameFound, of what is alike.
-/
import Derived.Test.YtjnpndfpajjihabTDefs
import Derived.Test.YtjnpndfpajjihabTCore
import Derived.Test.YtjnpndfpajjihabXRowsA
import Derived.Test.YtjnpndfpajjihabXScans
import Derived.Deep.RegionHeld3
namespace Go.Proofs.Ytjnpndfpajjihab
open Go.RowKit

set_option maxHeartbeats 1000000 in
theorem sameCopies_walk (a : Option Addr) (c : Nat) (a' : Option Addr) (c' : Nat) (l : List (Int × ByteArray)) (w : World) (h : SegW w a l) (h' : SegW w a' l) (hn : l.length ≤ maxLen) :
    Calls Try.prog 47 #[.slice a l.length c, .slice a' l.length c'] w fun e w' => e = .returned (.bool true) ∧ Below w.heap.size w w' := by
  unfold maxLen at hn
  have HS := hide h
  have HS' := hide h'
  clear h h'
  go_enter Try.func47, Try.ntmps47
  go_wp2
  go_loopw [13] (fun i wr => ∃ k q : Nat, k ≤ l.length ∧ i = .int .i64 k ∧ wr = w.drewN q) (fun i _ => l.length - (intOf i).toNat)
  case atStart => exact ⟨0, 0, Nat.zero_le _, rfl, rfl⟩
  case round =>
    obtain ⟨k, q, hk, rfl, rfl⟩ := hrel
    by_cases hlt : k < l.length
    · obtain ⟨b1, o1, rfl, hb1, hc1⟩ := HS.out.resolve_left (by intro e; rw [e] at hlt; simp at hlt)
      obtain ⟨b2, o2, rfl, hb2, hc2⟩ := HS'.out.resolve_left (by intro e; rw [e] at hlt; simp at hlt)
      obtain ⟨g1, g1'⟩ := hc1 k hlt
      obtain ⟨g2, g2'⟩ := hc2 k hlt
      obtain ⟨x, hx⟩ : ∃ x, x = l.getD k (0, ByteArray.empty) := ⟨_, rfl⟩
      rw [← hx] at g1 g1' g2 g2'
      clear hc1 hc2 hx
      obtain ⟨n, s⟩ := x
      have hlt' : (k : Int) < (l.length : Int) := by omega
      go_wp2
      go_quiet (fail)
      go_wp2
      go_roundw
      case rel => exact ⟨k + 1, _, by omega, by go_num, rfl⟩
      case measure => simp [intOf]; omega
    · go_wp2
      go_ret
      exact ⟨rfl, below_drewN (Below.refl _ _) _⟩

end Go.Proofs.Ytjnpndfpajjihab

namespace Go.Proofs.Ytjnpndfpajjihab
open Go.RowKit

set_option maxHeartbeats 2000000 in
set_option maxRecDepth 100000 in
theorem sameTxn_any (v1 v2 : Value) (t : Tx) (w : World) (h1 : IsTx w v1 t) (h2 : IsTx w v2 t) :
    Calls Try.prog 21 #[v1, v2] w fun e w' => e = .returned (.bool true) ∧ Below w.heap.size w w' := by
  obtain ⟨a, c, a', c', b, d, rfl, hm, hd, hr, n1, n2, n3⟩ := h1
  obtain ⟨A, C, A', C', B, D, rfl, hM, hD, hR, _, _, _⟩ := h2
  have HM := hide hm
  have HD := hide hd
  have HR := hide hr
  have HM' := hide hM
  have HD' := hide hD
  have HR' := hide hR
  have HN1 := hide n1
  have HN2 := hide n2
  unfold maxLen at n3
  clear hm hd hr hM hD hR n1 n2
  have hEq : ∀ w : World, (Op.equalIn 10000 38 (.agg #[.bool t.h0.on, .int .i64 t.h0.left, .bool t.h1.on, .int .i64 t.h1.left, .bool t.h2.on, .int .i64 t.h2.left]) (.agg #[.bool t.h0.on, .int .i64 t.h0.left, .bool t.h1.on, .int .i64 t.h1.left, .bool t.h2.on, .int .i64 t.h2.left])).run Try.prog w = .ok true w := fun w => by
    have := eqHandles 9997 t.h0.on t.h1.on t.h2.on t.h0.on t.h1.on t.h2.on t.h0.left t.h1.left t.h2.left t.h0.left t.h1.left t.h2.left w
    simpa only [beq_self_eq_true, Bool.and_self] using this
  go_enter Try.func21, Try.ntmps21
  go_wp2_with fail
  refine (sameCopies_walk _ _ _ _ t.info _ (HM.out.below (bthen (below1 _ _) (below1 _ _))) (HM'.out.below (bthen (below1 _ _) (below1 _ _))) HN1.out).mono ?_
  rintro e w1 ⟨rfl, hb1⟩
  have hs1 : w.heap.size + 1 < w1.heap.size := by have := hb1.size; simp at this; omega
  have hs1' : w.heap.size < w1.heap.size := by omega
  have K1 := hide (two1 hb1)
  have K2 := hide (two2 hb1)
  obtain ⟨⟨x0, x1, x2, x3, x4, x5, x6, x7, x8, x9⟩, _⟩ := box10 K1.out
  obtain ⟨⟨y0, y1, y2, y3, y4, y5, y6, y7, y8, y9⟩, _⟩ := box10 K2.out
  have HB1 := hide (bthen (bthen (below1 _ _) (below1 _ _)) hb1)
  clear hb1
  go_wp2_with fail
  refine (sameCopies_walk _ _ _ _ t.data _ (HD.out.below HB1.out) (HD'.out.below HB1.out) HN2.out).mono ?_
  rintro e w2 ⟨rfl, hb2⟩
  have hs2 : w.heap.size + 1 < w2.heap.size := by have := hb2.size; omega
  have hs2' : w.heap.size < w2.heap.size := by omega
  have z3 := cellKeep hb2 (by omega) x3
  have u3 := cellKeep hb2 (by omega) y3
  have HB2 := hide (bthen HB1.out hb2)
  have HR2 := hide (HR.out.below HB2.out)
  have HR2' := hide (HR'.out.below HB2.out)
  clear hb2 x0 x1 x2 x3 x4 x5 x6 x7 x8 x9 y0 y1 y2 y3 y4 y5 y6 y7 y8 y9 K1 K2
  go_wp2
  go_loopw [46] (fun i wr => ∃ k q : Nat, k ≤ t.rev.length ∧ i = .int .i64 k ∧ wr = w2.drewN q) (fun i _ => t.rev.length - (intOf i).toNat)
  case atStart => exact ⟨0, 0, Nat.zero_le _, rfl, rfl⟩
  case round =>
    obtain ⟨k, q, hk, rfl, rfl⟩ := hrel
    by_cases hlt : k < t.rev.length
    · obtain ⟨b1, o1, rfl, hb1, hc1⟩ := HR2.out.resolve_left (by intro e; rw [e] at hlt; simp at hlt)
      obtain ⟨b2, o2, rfl, hb2, hc2⟩ := HR2'.out.resolve_left (by intro e; rw [e] at hlt; simp at hlt)
      have g1 := hc1 k hlt
      have g2 := hc2 k hlt
      obtain ⟨n, hx⟩ : ∃ x, x = t.rev.getD k 0 := ⟨_, rfl⟩
      rw [← hx] at g1 g2
      clear hc1 hc2 hx
      have hlt' : (k : Int) < (t.rev.length : Int) := by omega
      go_wp2
      go_quiet (fail)
      go_wp2
      go_roundw
      case rel => exact ⟨k + 1, _, by omega, by go_num, rfl⟩
      case measure => simp [intOf]; omega
    · go_wp2
      go_ret
      exact ⟨rfl, below_drewN HB2.out _⟩

end Go.Proofs.Ytjnpndfpajjihab

namespace Go.Proofs.Ytjnpndfpajjihab
open Go.RowKit

set_option maxHeartbeats 4000000 in
set_option maxRecDepth 100000 in
theorem sameFound_any (a : Option Addr) (c : Nat) (a' : Option Addr) (c' : Nat) (l : List Tx) (x y : Int) (w : World) (h1 : SegTx w a l) (h2 : SegTx w a' l) (hn : l.length ≤ maxLen) :
    Calls Try.prog 43 #[.agg #[.slice a l.length c, .int .i64 x, .int .i64 y], .agg #[.slice a' l.length c', .int .i64 x, .int .i64 y]] w fun e w' => e = .returned (.bool true) ∧ Below w.heap.size w w' := by
  unfold maxLen at hn
  have H1 := hide h1
  have H2 := hide h2
  clear h1 h2
  go_enter Try.func43, Try.ntmps43
  go_wp2
  go_loopw [30] (fun i wr => ∃ k : Nat, k ≤ l.length ∧ i = .int .i64 (k : Int) ∧ Hid (Below w.heap.size w wr) ∧ w.heap.size + 1 < wr.heap.size ∧ Hid (wr.heap[w.heap.size]? = some (.cells #[.slice a l.length c, .int .i64 x, .int .i64 y] 72 (0, 0))) ∧ Hid (wr.heap[w.heap.size + 1]? = some (.cells #[.slice a' l.length c', .int .i64 x, .int .i64 y] 72 (0, 0)))) (fun i _ => l.length - (intOf i).toNat)
  case atStart => exact ⟨0, Nat.zero_le _, rfl, bthen (below1 _ _) (below1 _ _), by simp, two1 (Below.refl _ _), two2 (Below.refl _ _)⟩
  case round =>
    obtain ⟨k, hk, rfl, HB, hsz, K1, K2⟩ := hrel
    by_cases hlt : k < l.length
    · obtain ⟨b1, o1, rfl, hb1, hc1⟩ := H1.out.resolve_left (fun e => absurd hlt (by rw [e]; exact Nat.not_lt_zero _))
      obtain ⟨b2, o2, rfl, hb2, hc2⟩ := H2.out.resolve_left (fun e => absurd hlt (by rw [e]; exact Nat.not_lt_zero _))
      obtain ⟨t, ht⟩ : ∃ t, t = l.getD k txz := ⟨_, rfl⟩
      have g1 := (hc1 k hlt).below HB.out hb1
      have g2 := (hc2 k hlt).below HB.out hb2
      rw [← ht] at g1 g2
      have hb1' : b1 < wr.heap.size := Nat.lt_of_lt_of_le hb1 HB.out.size
      have hb2' : b2 < wr.heap.size := Nat.lt_of_lt_of_le hb2 HB.out.size
      clear ht hc1 hc2
      obtain ⟨a0, c0, a1, c1, r, d, ⟨x0, x1, x2, x3, x4, x5, x6, x7, x8, x9⟩, hT1⟩ := g1
      obtain ⟨A0, C0, A1, C1, R, E, ⟨u0, u1, u2, u3, u4, u5, u6, u7, u8, u9⟩, hT2⟩ := g2
      have HT1 := hide hT1
      have HT2 := hide hT2
      have hlt' : (k : Int) < (l.length : Int) := by omega
      have hz0 : w.heap.size < wr.heap.size := by omega
      have HALL : Hid (∀ w', Below wr.heap.size wr w' → Hid (Below wr.heap.size wr w') ∧ w'.cell? ⟨w.heap.size, 0, none⟩ = some (.slice (some ⟨b1, o1, none⟩) l.length c) ∧ w'.cell? ⟨w.heap.size + 1, 0, none⟩ = some (.slice (some ⟨b2, o2, none⟩) l.length c') ∧ w'.cell? ⟨b1, o1 + k * 10, none⟩ = some (.int .i64 t.seq) ∧ w'.cell? ⟨b1, o1 + k * 10 + 1, none⟩ = some (.slice a0 t.info.length c0) ∧ w'.cell? ⟨b1, o1 + k * 10 + 2, none⟩ = some (.slice a1 t.data.length c1) ∧ w'.cell? ⟨b1, o1 + k * 10 + 3, none⟩ = some (.slice r t.rev.length d) ∧ w'.cell? ⟨b1, o1 + k * 10 + 4, none⟩ = some (.bool t.h0.on) ∧ w'.cell? ⟨b1, o1 + k * 10 + 5, none⟩ = some (.int .i64 t.h0.left) ∧ w'.cell? ⟨b1, o1 + k * 10 + 6, none⟩ = some (.bool t.h1.on) ∧ w'.cell? ⟨b1, o1 + k * 10 + 7, none⟩ = some (.int .i64 t.h1.left) ∧ w'.cell? ⟨b1, o1 + k * 10 + 8, none⟩ = some (.bool t.h2.on) ∧ w'.cell? ⟨b1, o1 + k * 10 + 9, none⟩ = some (.int .i64 t.h2.left) ∧ w'.cell? ⟨b2, o2 + k * 10, none⟩ = some (.int .i64 t.seq) ∧ w'.cell? ⟨b2, o2 + k * 10 + 1, none⟩ = some (.slice A0 t.info.length C0) ∧ w'.cell? ⟨b2, o2 + k * 10 + 2, none⟩ = some (.slice A1 t.data.length C1) ∧ w'.cell? ⟨b2, o2 + k * 10 + 3, none⟩ = some (.slice R t.rev.length E) ∧ w'.cell? ⟨b2, o2 + k * 10 + 4, none⟩ = some (.bool t.h0.on) ∧ w'.cell? ⟨b2, o2 + k * 10 + 5, none⟩ = some (.int .i64 t.h0.left) ∧ w'.cell? ⟨b2, o2 + k * 10 + 6, none⟩ = some (.bool t.h1.on) ∧ w'.cell? ⟨b2, o2 + k * 10 + 7, none⟩ = some (.int .i64 t.h1.left) ∧ w'.cell? ⟨b2, o2 + k * 10 + 8, none⟩ = some (.bool t.h2.on) ∧ w'.cell? ⟨b2, o2 + k * 10 + 9, none⟩ = some (.int .i64 t.h2.left)) := by
        intro w' hb
        exact ⟨hb, (box3 (boxKeep hb hz0 K1.out)).1.1, (box3 (boxKeep hb hsz K2.out)).1.1, cellKeep hb hb1' x0, cellKeep hb hb1' x1, cellKeep hb hb1' x2, cellKeep hb hb1' x3, cellKeep hb hb1' x4, cellKeep hb hb1' x5, cellKeep hb hb1' x6, cellKeep hb hb1' x7, cellKeep hb hb1' x8, cellKeep hb hb1' x9, cellKeep hb hb2' u0, cellKeep hb hb2' u1, cellKeep hb hb2' u2, cellKeep hb hb2' u3, cellKeep hb hb2' u4, cellKeep hb hb2' u5, cellKeep hb hb2' u6, cellKeep hb hb2' u7, cellKeep hb hb2' u8, cellKeep hb hb2' u9⟩
      clear hT1 hT2 x0 x1 x2 x3 x4 x5 x6 x7 x8 x9 u0 u1 u2 u3 u4 u5 u6 u7 u8 u9
      go_wp2
      go_region_held3 (fun w' => Hid (Below wr.heap.size wr w') ∧ w'.cell? ⟨w.heap.size, 0, none⟩ = some (.slice (some ⟨b1, o1, none⟩) l.length c) ∧ w'.cell? ⟨w.heap.size + 1, 0, none⟩ = some (.slice (some ⟨b2, o2, none⟩) l.length c') ∧ w'.cell? ⟨b1, o1 + k * 10, none⟩ = some (.int .i64 t.seq) ∧ w'.cell? ⟨b1, o1 + k * 10 + 1, none⟩ = some (.slice a0 t.info.length c0) ∧ w'.cell? ⟨b1, o1 + k * 10 + 2, none⟩ = some (.slice a1 t.data.length c1) ∧ w'.cell? ⟨b1, o1 + k * 10 + 3, none⟩ = some (.slice r t.rev.length d) ∧ w'.cell? ⟨b1, o1 + k * 10 + 4, none⟩ = some (.bool t.h0.on) ∧ w'.cell? ⟨b1, o1 + k * 10 + 5, none⟩ = some (.int .i64 t.h0.left) ∧ w'.cell? ⟨b1, o1 + k * 10 + 6, none⟩ = some (.bool t.h1.on) ∧ w'.cell? ⟨b1, o1 + k * 10 + 7, none⟩ = some (.int .i64 t.h1.left) ∧ w'.cell? ⟨b1, o1 + k * 10 + 8, none⟩ = some (.bool t.h2.on) ∧ w'.cell? ⟨b1, o1 + k * 10 + 9, none⟩ = some (.int .i64 t.h2.left) ∧ w'.cell? ⟨b2, o2 + k * 10, none⟩ = some (.int .i64 t.seq) ∧ w'.cell? ⟨b2, o2 + k * 10 + 1, none⟩ = some (.slice A0 t.info.length C0) ∧ w'.cell? ⟨b2, o2 + k * 10 + 2, none⟩ = some (.slice A1 t.data.length C1) ∧ w'.cell? ⟨b2, o2 + k * 10 + 3, none⟩ = some (.slice R t.rev.length E) ∧ w'.cell? ⟨b2, o2 + k * 10 + 4, none⟩ = some (.bool t.h0.on) ∧ w'.cell? ⟨b2, o2 + k * 10 + 5, none⟩ = some (.int .i64 t.h0.left) ∧ w'.cell? ⟨b2, o2 + k * 10 + 6, none⟩ = some (.bool t.h1.on) ∧ w'.cell? ⟨b2, o2 + k * 10 + 7, none⟩ = some (.int .i64 t.h1.left) ∧ w'.cell? ⟨b2, o2 + k * 10 + 8, none⟩ = some (.bool t.h2.on) ∧ w'.cell? ⟨b2, o2 + k * 10 + 9, none⟩ = some (.int .i64 t.h2.left))
        (first | exact HALL.out _ ((Below.refl _ _).drew) | (refine HALL.out _ ?_; assumption))
        (first | (go_at_call 21; (have hnow := (‹Hid (Below wr.heap.size wr _) ∧ _›).1); have HNOW := hide hnow.out; refine (sameTxn_any _ _ t _ (HT1.out.below hnow.out) (HT2.out.below hnow.out)).mono ?_; clear hnow; rintro e w10 ⟨rfl, hb10⟩; have hbN := bthen HNOW.out hb10; clear hb10 HNOW))
      have HBN := hide hbN
      have KK1 := hide (boxKeep hbN hz0 K1.out)
      have KK2 := hide (boxKeep hbN hsz K2.out)
      have hsN := Nat.lt_of_lt_of_le hsz hbN.size
      clear hbN HALL HT1 HT2
      go_wp2
      go_roundw
      case rel => exact ⟨k + 1, by omega, by go_num, bthen HB.out HBN.out, hsN, KK1, KK2⟩
      case measure => simp [intOf]; omega
    · have e : k = l.length := by omega
      have hlt' : ¬ ((k : Int) < (l.length : Int)) := by omega
      go_wp2
      go_ret
      exact ⟨rfl, HB.out⟩

end Go.Proofs.Ytjnpndfpajjihab
