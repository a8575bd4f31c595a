/-
  The walk of the document's own SameSteps, at two lists that are the same.
  The walk of the document's own SameCopies, at two lists that are the same.
  The walk of the document's own SameTxn, at two transactions that are the same.
  The walk of the statement SealCommits: it says true at every ring and transaction.
-/
import Derived.Test.YtjnpndfpajjihabGreatERows
import Derived.Test.YtjnpndfpajjihabGreatTDefs
import Derived.Test.YtjnpndfpajjihabGreatTCore
import Derived.Test.YtjnpndfpajjihabGreatEStepsAll
import Derived.Test.YtjnpndfpajjihabGreatECommitAll
import Derived.Test.YtjnpndfpajjihabGreatECopy
namespace Go.Proofs.YtjnpndfpajjihabGreat
open Go.RowKit

set_option maxHeartbeats 1000000 in
theorem sameSteps_walk (a : Option Addr) (c : Nat) (a' : Option Addr) (c' : Nat) (l : List St) (w : World) (h : SegSt w a l) (h' : SegSt w a' l) (hn : l.length ≤ maxLen) :
    Calls Tryz.prog 18 #[.slice a l.length c, .slice a' l.length c'] w fun e w' => e = .returned (.bool true) ∧ Below w.heap.size w w' := by
  unfold maxLen at hn
  have HS := hide h
  have HS' := hide h'
  clear h h'
  go_enter Tryz.func18, Tryz.ntmps18
  go_wp2
  go_loopw [13] (fun i wr => ∃ k q : Nat, k ≤ l.length ∧ i = .int .i64 k ∧ wr = w.drewN q) (fun i _ => l.length - (intOf i).toNat)
  case atStart => exact ⟨0, 0, Nat.zero_le _, rfl, rfl⟩
  case round =>
    obtain ⟨k, q, hk, rfl, rfl⟩ := hrel
    by_cases hlt : k < l.length
    · obtain ⟨b1, o1, rfl, hb1, hc1⟩ := HS.out.resolve_left (by intro e; rw [e] at hlt; simp at hlt)
      obtain ⟨b2, o2, rfl, hb2, hc2⟩ := HS'.out.resolve_left (by intro e; rw [e] at hlt; simp at hlt)
      obtain ⟨g1, g1', g1''⟩ := hc1 k hlt
      obtain ⟨g2, g2', g2''⟩ := hc2 k hlt
      obtain ⟨x, hx⟩ : ∃ x, x = l.getD k st0 := ⟨_, rfl⟩
      rw [← hx] at g1 g1' g1'' g2 g2' g2''
      clear hc1 hc2 hx
      obtain ⟨n, m, s⟩ := x
      have hlt' : (k : Int) < (l.length : Int) := by omega
      go_wp2
      go_quiet (fail)
      go_wp2
      go_roundw
      case rel => exact ⟨k + 1, _, by omega, by go_num, rfl⟩
      case measure => simp [intOf]; omega
    · go_wp2
      go_ret
      exact ⟨rfl, below_drewN (Below.refl _ _) _⟩


set_option maxHeartbeats 1000000 in
theorem sameCopies_walk (a : Option Addr) (c : Nat) (a' : Option Addr) (c' : Nat) (l : List (Int × ByteArray)) (w : World) (h : SegW w a l) (h' : SegW w a' l) (hn : l.length ≤ maxLen) :
    Calls Tryz.prog 23 #[.slice a l.length c, .slice a' l.length c'] w fun e w' => e = .returned (.bool true) ∧ Below w.heap.size w w' := by
  unfold maxLen at hn
  have HS := hide h
  have HS' := hide h'
  clear h h'
  go_enter Tryz.func23, Tryz.ntmps23
  go_wp2
  go_loopw [13] (fun i wr => ∃ k q : Nat, k ≤ l.length ∧ i = .int .i64 k ∧ wr = w.drewN q) (fun i _ => l.length - (intOf i).toNat)
  case atStart => exact ⟨0, 0, Nat.zero_le _, rfl, rfl⟩
  case round =>
    obtain ⟨k, q, hk, rfl, rfl⟩ := hrel
    by_cases hlt : k < l.length
    · obtain ⟨b1, o1, rfl, hb1, hc1⟩ := HS.out.resolve_left (by intro e; rw [e] at hlt; simp at hlt)
      obtain ⟨b2, o2, rfl, hb2, hc2⟩ := HS'.out.resolve_left (by intro e; rw [e] at hlt; simp at hlt)
      obtain ⟨g1, g1'⟩ := hc1 k hlt
      obtain ⟨g2, g2'⟩ := hc2 k hlt
      obtain ⟨x, hx⟩ : ∃ x, x = l.getD k (0, ByteArray.empty) := ⟨_, rfl⟩
      rw [← hx] at g1 g1' g2 g2'
      clear hc1 hc2 hx
      obtain ⟨n, s⟩ := x
      have hlt' : (k : Int) < (l.length : Int) := by omega
      go_wp2
      go_quiet (fail)
      go_wp2
      go_roundw
      case rel => exact ⟨k + 1, _, by omega, by go_num, rfl⟩
      case measure => simp [intOf]; omega
    · go_wp2
      go_ret
      exact ⟨rfl, below_drewN (Below.refl _ _) _⟩


set_option maxHeartbeats 2000000 in
set_option maxRecDepth 100000 in
theorem sameTxn_any (v1 v2 : Value) (t : Tx) (w : World) (h1 : IsTx w v1 t) (h2 : IsTx w v2 t) :
    Calls Tryz.prog 10 #[v1, v2] w fun e w' => e = .returned (.bool true) ∧ Below w.heap.size w w' := by
  obtain ⟨a, c, a', c', b, d, rfl, hm, hd, hr, n1, n2, n3⟩ := h1
  obtain ⟨A, C, A', C', B, D, rfl, hM, hD, hR, _, _, _⟩ := h2
  have HM := hide hm
  have HD := hide hd
  have HR := hide hr
  have HM' := hide hM
  have HD' := hide hD
  have HR' := hide hR
  have HN1 := hide n1
  have HN2 := hide n2
  unfold maxLen at n3
  clear hm hd hr hM hD hR n1 n2
  have hEq : ∀ w : World, (Op.equalIn 10000 26 (.agg #[.bool t.h0.on, .int .i64 t.h0.left, .bool t.h1.on, .int .i64 t.h1.left, .bool t.h2.on, .int .i64 t.h2.left]) (.agg #[.bool t.h0.on, .int .i64 t.h0.left, .bool t.h1.on, .int .i64 t.h1.left, .bool t.h2.on, .int .i64 t.h2.left])).run Tryz.prog w = .ok true w := fun w => by
    have := eqHandles 9997 t.h0.on t.h1.on t.h2.on t.h0.on t.h1.on t.h2.on t.h0.left t.h1.left t.h2.left t.h0.left t.h1.left t.h2.left w
    simpa only [beq_self_eq_true, Bool.and_self] using this
  go_enter Tryz.func10, Tryz.ntmps10
  go_wp2_with fail
  refine (sameCopies_walk _ _ _ _ t.info _ (HM.out.below (bthen (below1 _ _) (below1 _ _))) (HM'.out.below (bthen (below1 _ _) (below1 _ _))) HN1.out).mono ?_
  rintro e w1 ⟨rfl, hb1⟩
  have hs1 : w.heap.size + 1 < w1.heap.size := by have := hb1.size; simp at this; omega
  have hs1' : w.heap.size < w1.heap.size := by omega
  have K1 := hide (two1 hb1)
  have K2 := hide (two2 hb1)
  obtain ⟨⟨x0, x1, x2, x3, x4, x5, x6, x7, x8, x9⟩, _⟩ := box10 K1.out
  obtain ⟨⟨y0, y1, y2, y3, y4, y5, y6, y7, y8, y9⟩, _⟩ := box10 K2.out
  have HB1 := hide (bthen (bthen (below1 _ _) (below1 _ _)) hb1)
  clear hb1
  go_wp2_with fail
  refine (sameCopies_walk _ _ _ _ t.data _ (HD.out.below HB1.out) (HD'.out.below HB1.out) HN2.out).mono ?_
  rintro e w2 ⟨rfl, hb2⟩
  have hs2 : w.heap.size + 1 < w2.heap.size := by have := hb2.size; omega
  have hs2' : w.heap.size < w2.heap.size := by omega
  have z3 := cellKeep hb2 (by omega) x3
  have u3 := cellKeep hb2 (by omega) y3
  have HB2 := hide (bthen HB1.out hb2)
  have HR2 := hide (HR.out.below HB2.out)
  have HR2' := hide (HR'.out.below HB2.out)
  clear hb2 x0 x1 x2 x3 x4 x5 x6 x7 x8 x9 y0 y1 y2 y3 y4 y5 y6 y7 y8 y9 K1 K2
  go_wp2
  go_loopw [46] (fun i wr => ∃ k q : Nat, k ≤ t.rev.length ∧ i = .int .i64 k ∧ wr = w2.drewN q) (fun i _ => t.rev.length - (intOf i).toNat)
  case atStart => exact ⟨0, 0, Nat.zero_le _, rfl, rfl⟩
  case round =>
    obtain ⟨k, q, hk, rfl, rfl⟩ := hrel
    by_cases hlt : k < t.rev.length
    · obtain ⟨b1, o1, rfl, hb1, hc1⟩ := HR2.out.resolve_left (by intro e; rw [e] at hlt; simp at hlt)
      obtain ⟨b2, o2, rfl, hb2, hc2⟩ := HR2'.out.resolve_left (by intro e; rw [e] at hlt; simp at hlt)
      have g1 := hc1 k hlt
      have g2 := hc2 k hlt
      obtain ⟨n, hx⟩ : ∃ x, x = t.rev.getD k 0 := ⟨_, rfl⟩
      rw [← hx] at g1 g2
      clear hc1 hc2 hx
      have hlt' : (k : Int) < (t.rev.length : Int) := by omega
      go_wp2
      go_quiet (fail)
      go_wp2
      go_roundw
      case rel => exact ⟨k + 1, _, by omega, by go_num, rfl⟩
      case measure => simp [intOf]; omega
    · go_wp2
      go_ret
      exact ⟨rfl, below_drewN HB2.out _⟩


theorem commitS_length (rh ru : Int) (t : Tx) : (commitS rh ru t).length ≤ maxLen := by
  unfold commitS
  split
  · rename_i he
    have hf := sealP_facts he
    have hsm := good_small hf.1
    have hlb := logB_length t hsm.1 hsm.2.2
    have h2 : needN (t.info.length : Int) (t.rev.length : Int) ≤ 20 := by unfold needN; split <;> (try split) <;> (try split) <;> (try split) <;> omega
    have h3 : (putS (sealP rh ru t) (logB t)).length ≤ 20 := by rw [putS_length (by omega)]; omega
    have h4 : (homeS t.data).length ≤ 13 := by rw [homeS, List.length_append, homeM_length]; split <;> simp <;> omega
    have h5 : (if 0 < t.rev.length + t.info.length then [flushS] else []).length ≤ 1 := by split <;> simp
    unfold maxLen
    simp only [List.length_append, List.length_cons, List.length_nil]
    omega
  · exact Nat.zero_le _

set_option maxHeartbeats 4000000 in
set_option maxRecDepth 100000 in
theorem commits_walk (rh ru : Int) (t : Tx) (a0 a2 a4 : Option Addr) (a1 a3 a5 : Nat) (w : World) (hT : IsTx w (.agg #[.int .i64 t.seq, .slice a0 t.info.length a1, .slice a2 t.data.length a3, .slice a4 t.rev.length a5, .bool t.h0.on, .int .i64 t.h0.left, .bool t.h1.on, .int .i64 t.h1.left, .bool t.h2.on, .int .i64 t.h2.left]) t) (hci : t.info.length ≤ a1) (r1 : t.info.length * 24 ≤ 140737488355328) (r2 : t.data.length * 24 ≤ 140737488355328) (r3 : t.rev.length * 8 ≤ 140737488355328) :
    Calls Tryz.prog 4 #[.agg #[.int .i64 rh, .int .i64 ru], .agg #[.int .i64 t.seq, .slice a0 t.info.length a1, .slice a2 t.data.length a3, .slice a4 t.rev.length a5, .bool t.h0.on, .int .i64 t.h0.left, .bool t.h1.on, .int .i64 t.h1.left, .bool t.h2.on, .int .i64 t.h2.left]] w fun e w' => e = .returned (.bool true) ∧ Below w.heap.size w w' := by
  have HT := hide hT
  clear hT
  go_enter Tryz.func4, Tryz.ntmps4
  go_wp2_with fail
  refine (copyTxn_room _ t _ (HT.out.below (bthen (below1 _ _) (below1 _ _))) r1 r2 r3).mono ?_
  rintro e w1 ⟨v2, rfl, ⟨hN, hroom⟩, hb1⟩
  have HC := hide hN.is
  obtain ⟨b0, b1, b2, b3, b4, b5, rfl, _⟩ := hN
  obtain ⟨q1, q2, q3⟩ := hroom.is
  have KR := hide (two1 hb1)
  have KT := hide (two2 hb1)
  have hs1 : w.heap.size + 1 < w1.heap.size := by have := hb1.size; simp at this; omega
  have hs0 : w.heap.size < w1.heap.size := by omega
  have HB := hide (bthen (bthen (below1 _ _) (below1 _ _)) hb1)
  replace HT := hide (HT.out.below HB.out)
  clear hb1 hroom
  obtain ⟨⟨r0, r1'⟩, _⟩ := box2 KR.out
  obtain ⟨⟨x0, x1, x2, x3, x4, x5, x6, x7, x8, x9⟩, _⟩ := box10 KT.out
  go_wp2_with fail
  refine (commit_any rh ru t b0 b2 b4 b1 b3 b5 _ (HC.out.below (below1 _ _)) q1 q3 r1 r2).mono ?_
  rintro e w2 ⟨sa, sc, rfl, hS, hb2⟩
  have KC := hide (one1 hb2)
  have hS2 := bthen (below1 _ _) hb2
  have hc1 : w1.heap.size < w2.heap.size := by have := hb2.size; simp at this; omega
  have HS := hide hS
  replace KR := hide (boxKeep hS2 hs0 KR.out)
  replace KT := hide (boxKeep hS2 hs1 KT.out)
  replace HT := hide (HT.out.below hS2)
  replace HC := hide (HC.out.below hS2)
  replace HB := hide (bthen HB.out hS2)
  replace hs0 : w.heap.size < w2.heap.size := by omega
  replace hs1 : w.heap.size + 1 < w2.heap.size := by omega
  clear hS hb2 hS2 r0 r1' x0 x1 x2 x3 x4 x5 x6 x7 x8 x9
  obtain ⟨⟨r0, r1'⟩, _⟩ := box2 KR.out
  obtain ⟨⟨x0, x1, x2, x3, x4, x5, x6, x7, x8, x9⟩, _⟩ := box10 KT.out
  go_wp2_with fail
  refine (csteps_any rh ru t a0 a2 a4 a1 a3 a5 _ (HT.out.below (below1 _ _)) hci r1 r2).mono ?_
  rintro e w3 ⟨ra, rc, rfl, hS, hb3⟩
  have KA := hide (one1 hb3)
  have hS3 := bthen (below1 _ _) hb3
  have hc2 : w2.heap.size < w3.heap.size := by have := hb3.size; simp at this; omega
  have HM := hide hS
  replace HS := hide (HS.out.below hS3)
  replace KC := hide (boxKeep hS3 hc1 KC.out)
  replace KT := hide (boxKeep hS3 hs1 KT.out)
  replace HT := hide (HT.out.below hS3)
  replace HC := hide (HC.out.below hS3)
  replace HB := hide (bthen HB.out hS3)
  replace hc1 : w1.heap.size < w3.heap.size := by omega
  replace hs1 : w.heap.size + 1 < w3.heap.size := by omega
  have HLN := hide (commitS_length rh ru t)
  clear hS hb3 hS3 r0 r1' x0 x1 x2 x3 x4 x5 x6 x7 x8 x9 KR hs0 q1 q2 q3 hci r1 r2 r3
  generalize commitS rh ru t = L at *
  generalize sealE rh ru t = E0 at *
  generalize sealH rh ru t = H0 at *
  generalize sealU rh ru t = U0 at *
  obtain ⟨⟨x0, x1, x2, x3, x4, x5, x6, x7, x8, x9⟩, _⟩ := box10 KT.out
  obtain ⟨⟨z0, z1, z2, z3, z4, z5, z6, z7, z8, z9⟩, _⟩ := box10 KC.out
  obtain ⟨⟨p0, p1⟩, _⟩ := box2 KA.out
  go_wp2_with fail
  refine (sameSteps_walk sa sc ra rc L _ (HS.out.below (below1 _ _)) (HM.out.below (below1 _ _)) HLN.out).mono ?_
  rintro e w4 ⟨rfl, hb4⟩
  have hS4 := bthen (below1 _ _) hb4
  replace KC := hide (boxKeep hS4 hc1 KC.out)
  replace KT := hide (boxKeep hS4 hs1 KT.out)
  replace HT := hide (HT.out.below hS4)
  replace HC := hide (HC.out.below hS4)
  replace HB := hide (bthen HB.out hS4)
  replace hc1 := Nat.lt_of_lt_of_le hc1 hS4.size
  replace hs1 := Nat.lt_of_lt_of_le hs1 hS4.size
  clear hb4 hS4 x0 x1 x2 x3 x4 x5 x6 x7 x8 x9 z0 z1 z2 z3 z4 z5 z6 z7 z8 z9 p0 p1 KA hc2
  obtain ⟨⟨x0, x1, x2, x3, x4, x5, x6, x7, x8, x9⟩, _⟩ := box10 KT.out
  obtain ⟨⟨z0, z1, z2, z3, z4, z5, z6, z7, z8, z9⟩, _⟩ := box10 KC.out
  go_wp2_with fail
  refine (sameTxn_any _ _ t _ HC.out HT.out).mono ?_
  rintro e w5 ⟨rfl, hb5⟩
  replace HB := hide (bthen HB.out hb5)
  clear hb5 x0 x1 x2 x3 x4 x5 x6 x7 x8 x9 z0 z1 z2 z3 z4 z5 z6 z7 z8 z9 KT KC HT HC
  go_wp2_with fail
  refine (sealsL_any _).mono ?_
  rintro e w6 ⟨rfl, hb6⟩
  replace HB := hide (bthen HB.out hb6)
  clear hb6
  go_wp2
  go_ret
  exact ⟨rfl, HB.out⟩

end Go.Proofs.YtjnpndfpajjihabGreat
