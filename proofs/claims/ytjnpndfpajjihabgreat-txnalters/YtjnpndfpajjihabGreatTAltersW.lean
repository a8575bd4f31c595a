/-
  The walk of the document's own SameCopies, at two lists that are the same.
  The walk of the document's own SameTxn, at two transactions that are the same.
  The walk of the statement TxnAlters: it says true at every transaction, handle, block and text.
-/
import Derived.Test.YtjnpndfpajjihabGreatTDefs
import Derived.Test.YtjnpndfpajjihabGreatTCore
import Derived.Test.YtjnpndfpajjihabGreatTRefAlter0a
import Derived.Test.YtjnpndfpajjihabGreatTRefAlter0b
import Derived.Test.YtjnpndfpajjihabGreatTRefAlter0c
import Derived.Test.YtjnpndfpajjihabGreatTRefAlter2a
import Derived.Test.YtjnpndfpajjihabGreatTRefAlter2b
import Derived.Test.YtjnpndfpajjihabGreatTRefAlter2c
import Derived.Test.YtjnpndfpajjihabGreatTRefAlter1
import Derived.Test.YtjnpndfpajjihabGreatTFills
import Derived.Test.YtjnpndfpajjihabGreatTChange
import Derived.Test.YtjnpndfpajjihabGreatTNamesAll
namespace Go.Proofs.YtjnpndfpajjihabGreat
open Go.RowKit

set_option maxHeartbeats 1000000 in
theorem sameCopies_walk (a : Option Addr) (c : Nat) (a' : Option Addr) (c' : Nat) (l : List (Int × ByteArray)) (w : World) (h : SegW w a l) (h' : SegW w a' l) (hn : l.length ≤ maxLen) :
    Calls Tryz.prog 23 #[.slice a l.length c, .slice a' l.length c'] w fun e w' => e = .returned (.bool true) ∧ Below w.heap.size w w' := by
  unfold maxLen at hn
  have HS := hide h
  have HS' := hide h'
  clear h h'
  go_enter Tryz.func23, Tryz.ntmps23
  go_wp2
  go_loopw [13] (fun i wr => ∃ k q : Nat, k ≤ l.length ∧ i = .int .i64 k ∧ wr = w.drewN q) (fun i _ => l.length - (intOf i).toNat)
  case atStart => exact ⟨0, 0, Nat.zero_le _, rfl, rfl⟩
  case round =>
    obtain ⟨k, q, hk, rfl, rfl⟩ := hrel
    by_cases hlt : k < l.length
    · obtain ⟨b1, o1, rfl, hb1, hc1⟩ := HS.out.resolve_left (by intro e; rw [e] at hlt; simp at hlt)
      obtain ⟨b2, o2, rfl, hb2, hc2⟩ := HS'.out.resolve_left (by intro e; rw [e] at hlt; simp at hlt)
      obtain ⟨g1, g1'⟩ := hc1 k hlt
      obtain ⟨g2, g2'⟩ := hc2 k hlt
      obtain ⟨x, hx⟩ : ∃ x, x = l.getD k (0, ByteArray.empty) := ⟨_, rfl⟩
      rw [← hx] at g1 g1' g2 g2'
      clear hc1 hc2 hx
      obtain ⟨n, s⟩ := x
      have hlt' : (k : Int) < (l.length : Int) := by omega
      go_wp2
      go_quiet (fail)
      go_wp2
      go_roundw
      case rel => exact ⟨k + 1, _, by omega, by go_num, rfl⟩
      case measure => simp [intOf]; omega
    · go_wp2
      go_ret
      exact ⟨rfl, below_drewN (Below.refl _ _) _⟩


set_option maxHeartbeats 2000000 in
set_option maxRecDepth 100000 in
theorem sameTxn_any (v1 v2 : Value) (t : Tx) (w : World) (h1 : IsTx w v1 t) (h2 : IsTx w v2 t) :
    Calls Tryz.prog 10 #[v1, v2] w fun e w' => e = .returned (.bool true) ∧ Below w.heap.size w w' := by
  obtain ⟨a, c, a', c', b, d, rfl, hm, hd, hr, n1, n2, n3⟩ := h1
  obtain ⟨A, C, A', C', B, D, rfl, hM, hD, hR, _, _, _⟩ := h2
  have HM := hide hm
  have HD := hide hd
  have HR := hide hr
  have HM' := hide hM
  have HD' := hide hD
  have HR' := hide hR
  have HN1 := hide n1
  have HN2 := hide n2
  unfold maxLen at n3
  clear hm hd hr hM hD hR n1 n2
  have hEq : ∀ w : World, (Op.equalIn 10000 26 (.agg #[.bool t.h0.on, .int .i64 t.h0.left, .bool t.h1.on, .int .i64 t.h1.left, .bool t.h2.on, .int .i64 t.h2.left]) (.agg #[.bool t.h0.on, .int .i64 t.h0.left, .bool t.h1.on, .int .i64 t.h1.left, .bool t.h2.on, .int .i64 t.h2.left])).run Tryz.prog w = .ok true w := fun w => by
    have := eqHandles 9997 t.h0.on t.h1.on t.h2.on t.h0.on t.h1.on t.h2.on t.h0.left t.h1.left t.h2.left t.h0.left t.h1.left t.h2.left w
    simpa only [beq_self_eq_true, Bool.and_self] using this
  go_enter Tryz.func10, Tryz.ntmps10
  go_wp2_with fail
  refine (sameCopies_walk _ _ _ _ t.info _ (HM.out.below (bthen (below1 _ _) (below1 _ _))) (HM'.out.below (bthen (below1 _ _) (below1 _ _))) HN1.out).mono ?_
  rintro e w1 ⟨rfl, hb1⟩
  have hs1 : w.heap.size + 1 < w1.heap.size := by have := hb1.size; simp at this; omega
  have hs1' : w.heap.size < w1.heap.size := by omega
  have K1 := hide (two1 hb1)
  have K2 := hide (two2 hb1)
  obtain ⟨⟨x0, x1, x2, x3, x4, x5, x6, x7, x8, x9⟩, _⟩ := box10 K1.out
  obtain ⟨⟨y0, y1, y2, y3, y4, y5, y6, y7, y8, y9⟩, _⟩ := box10 K2.out
  have HB1 := hide (bthen (bthen (below1 _ _) (below1 _ _)) hb1)
  clear hb1
  go_wp2_with fail
  refine (sameCopies_walk _ _ _ _ t.data _ (HD.out.below HB1.out) (HD'.out.below HB1.out) HN2.out).mono ?_
  rintro e w2 ⟨rfl, hb2⟩
  have hs2 : w.heap.size + 1 < w2.heap.size := by have := hb2.size; omega
  have hs2' : w.heap.size < w2.heap.size := by omega
  have z3 := cellKeep hb2 (by omega) x3
  have u3 := cellKeep hb2 (by omega) y3
  have HB2 := hide (bthen HB1.out hb2)
  have HR2 := hide (HR.out.below HB2.out)
  have HR2' := hide (HR'.out.below HB2.out)
  clear hb2 x0 x1 x2 x3 x4 x5 x6 x7 x8 x9 y0 y1 y2 y3 y4 y5 y6 y7 y8 y9 K1 K2
  go_wp2
  go_loopw [46] (fun i wr => ∃ k q : Nat, k ≤ t.rev.length ∧ i = .int .i64 k ∧ wr = w2.drewN q) (fun i _ => t.rev.length - (intOf i).toNat)
  case atStart => exact ⟨0, 0, Nat.zero_le _, rfl, rfl⟩
  case round =>
    obtain ⟨k, q, hk, rfl, rfl⟩ := hrel
    by_cases hlt : k < t.rev.length
    · obtain ⟨b1, o1, rfl, hb1, hc1⟩ := HR2.out.resolve_left (by intro e; rw [e] at hlt; simp at hlt)
      obtain ⟨b2, o2, rfl, hb2, hc2⟩ := HR2'.out.resolve_left (by intro e; rw [e] at hlt; simp at hlt)
      have g1 := hc1 k hlt
      have g2 := hc2 k hlt
      obtain ⟨n, hx⟩ : ∃ x, x = t.rev.getD k 0 := ⟨_, rfl⟩
      rw [← hx] at g1 g2
      clear hc1 hc2 hx
      have hlt' : (k : Int) < (t.rev.length : Int) := by omega
      go_wp2
      go_quiet (fail)
      go_wp2
      go_roundw
      case rel => exact ⟨k + 1, _, by omega, by go_num, rfl⟩
      case measure => simp [intOf]; omega
    · go_wp2
      go_ret
      exact ⟨rfl, below_drewN HB2.out _⟩


theorem alter0_any (v : Value) (t : Tx) (h b : Int) (s : ByteArray) (w : World) (hT : IsTx w v t) (r1 : t.info.length * 24 ≤ 140737488355328) (r2 : t.data.length * 24 ≤ 140737488355328) :
    Calls Tryz.prog 9 #[.int .i64 0, v, .int .i64 h, .int .i64 b, .string s] w fun e w' => ∃ v2, e = .returned (.tuple #[v2, .int .i64 (changeE t h b s)]) ∧ IsTx w' v2 (changeT t h b s) ∧ Below w.heap.size w w' ∧ (v2 = v ∨ RowsFrom w.heap.size v2 (changeT t h b s)) := by
  by_cases hr : reachE t h b = 0
  · have hc := (reach_ok hr).2.1
    rcases hc with rfl | rfl | rfl
    · cases hs : fitsB s with
      | false => exact alter0_form0 v t b s w hT r1 r2 hr hs
      | true =>
        cases hd : (textIn b t.data).isSome with
        | true => exact alter0_in0 v t b s w hT r1 r2 hr hs hd
        | false =>
          cases hi : (textIn b t.info).isSome with
          | true => exact alter0_had0 v t b s w hT r1 r2 hr hs hd hi
          | false =>
            cases ha : amongB t.rev b with
            | true => exact alter0_rev0 v t b s w hT r1 r2 hr hs hd hi ha
            | false =>
              by_cases hl : t.h0.left = 0
              · exact alter0_credit0 v t b s w hT r1 r2 hr hs hd hi ha hl
              · exact alter0_new0 v t b s w hT r1 r2 hr hs hd hi ha hl
    · cases hs : fitsB s with
      | false => exact alter0_form1 v t b s w hT r1 r2 hr hs
      | true =>
        cases hd : (textIn b t.data).isSome with
        | true => exact alter0_in1 v t b s w hT r1 r2 hr hs hd
        | false =>
          cases hi : (textIn b t.info).isSome with
          | true => exact alter0_had1 v t b s w hT r1 r2 hr hs hd hi
          | false =>
            cases ha : amongB t.rev b with
            | true => exact alter0_rev1 v t b s w hT r1 r2 hr hs hd hi ha
            | false =>
              by_cases hl : t.h1.left = 0
              · exact alter0_credit1 v t b s w hT r1 r2 hr hs hd hi ha hl
              · exact alter0_new1 v t b s w hT r1 r2 hr hs hd hi ha hl
    · cases hs : fitsB s with
      | false => exact alter0_form2 v t b s w hT r1 r2 hr hs
      | true =>
        cases hd : (textIn b t.data).isSome with
        | true => exact alter0_in2 v t b s w hT r1 r2 hr hs hd
        | false =>
          cases hi : (textIn b t.info).isSome with
          | true => exact alter0_had2 v t b s w hT r1 r2 hr hs hd hi
          | false =>
            cases ha : amongB t.rev b with
            | true => exact alter0_rev2 v t b s w hT r1 r2 hr hs hd hi ha
            | false =>
              by_cases hl : t.h2.left = 0
              · exact alter0_credit2 v t b s w hT r1 r2 hr hs hd hi ha hl
              · exact alter0_new2 v t b s w hT r1 r2 hr hs hd hi ha hl
  · have e : changeE t h b s = reachE t h b := by rw [changeE, if_pos hr]
    have e2 : changeT t h b s = t := by rw [changeT, if_neg (by rw [e]; exact hr)]
    rw [e, e2]
    exact alter_no 0 v t h b s w hT r1 r2 hr

theorem alter2_any (v : Value) (t : Tx) (h b : Int) (s : ByteArray) (w : World) (hT : IsTx w v t) (r1 : t.info.length * 24 ≤ 140737488355328) (r2 : t.data.length * 24 ≤ 140737488355328) :
    Calls Tryz.prog 9 #[.int .i64 2, v, .int .i64 h, .int .i64 b, .string s] w fun e w' => ∃ v2, e = .returned (.tuple #[v2, .int .i64 (revokeE t h b)]) ∧ IsTx w' v2 (revokeT t h b) ∧ Below w.heap.size w w' ∧ (v2 = v ∨ RowsFrom w.heap.size v2 (revokeT t h b)) := by
  by_cases hr : reachE t h b = 0
  · have hc := (reach_ok hr).2.1
    rcases hc with rfl | rfl | rfl
    · cases ha : amongB t.rev b with
      | true => exact alter2_twice0 v t b s w hT r1 r2 hr ha
      | false =>
        cases hi : (textIn b t.info).isSome with
        | true => exact alter2_had0 v t b s w hT r1 r2 hr ha hi
        | false =>
          by_cases hl : t.h0.left = 0
          · exact alter2_credit0 v t b s w hT r1 r2 hr ha hi hl
          · exact alter2_new0 v t b s w hT r1 r2 hr ha hi hl
    · cases ha : amongB t.rev b with
      | true => exact alter2_twice1 v t b s w hT r1 r2 hr ha
      | false =>
        cases hi : (textIn b t.info).isSome with
        | true => exact alter2_had1 v t b s w hT r1 r2 hr ha hi
        | false =>
          by_cases hl : t.h1.left = 0
          · exact alter2_credit1 v t b s w hT r1 r2 hr ha hi hl
          · exact alter2_new1 v t b s w hT r1 r2 hr ha hi hl
    · cases ha : amongB t.rev b with
      | true => exact alter2_twice2 v t b s w hT r1 r2 hr ha
      | false =>
        cases hi : (textIn b t.info).isSome with
        | true => exact alter2_had2 v t b s w hT r1 r2 hr ha hi
        | false =>
          by_cases hl : t.h2.left = 0
          · exact alter2_credit2 v t b s w hT r1 r2 hr ha hi hl
          · exact alter2_new2 v t b s w hT r1 r2 hr ha hi hl
  · have e : revokeE t h b = reachE t h b := by rw [revokeE, if_pos hr]
    have e2 : revokeT t h b = t := by rw [revokeT, if_neg (by rw [e]; exact hr)]
    rw [e, e2]
    exact alter_no 2 v t h b s w hT r1 r2 hr

theorem blk_lt {w : World} {B : Nat} {o : Obj} (h : w.heap[B]? = some o) : B < w.heap.size := (Array.getElem?_eq_some_iff.1 h).1
theorem heap_set10 (w : World) {B k : Nat} (h : k ≠ B) (v0 v1 v2 v3 v4 v5 v6 v7 v8 v9 : Value) : ((((((((((w.setCell ⟨B, 0, none⟩ v0).setCell ⟨B, 1, none⟩ v1).setCell ⟨B, 2, none⟩ v2).setCell ⟨B, 3, none⟩ v3).setCell ⟨B, 4, none⟩ v4).setCell ⟨B, 5, none⟩ v5).setCell ⟨B, 6, none⟩ v6).setCell ⟨B, 7, none⟩ v7).setCell ⟨B, 8, none⟩ v8).setCell ⟨B, 9, none⟩ v9).heap[k]? = w.heap[k]? := by
  iterate 10 (rw [Below.heap_setCell _ _ _ _ (by exact h)])
theorem size_set10 (w : World) (B : Nat) (v0 v1 v2 v3 v4 v5 v6 v7 v8 v9 : Value) : ((((((((((w.setCell ⟨B, 0, none⟩ v0).setCell ⟨B, 1, none⟩ v1).setCell ⟨B, 2, none⟩ v2).setCell ⟨B, 3, none⟩ v3).setCell ⟨B, 4, none⟩ v4).setCell ⟨B, 5, none⟩ v5).setCell ⟨B, 6, none⟩ v6).setCell ⟨B, 7, none⟩ v7).setCell ⟨B, 8, none⟩ v8).setCell ⟨B, 9, none⟩ v9).heap.size = w.heap.size := by
  simp only [World.size_setCell]
/-- Rows under ten writes into a block that holds none of them. -/
theorem IsTx.putO {w w1 : World} {B base : Nat} {v u : Value} {x t : Tx} (h : IsTx w v x) (hd : v = u ∨ RowsFrom base v x) (h1 : IsTx w1 u t) (hB1 : w1.heap.size ≤ B) (hB2 : B < base) (v0 v1 v2 v3 v4 v5 v6 v7 v8 v9 : Value) : IsTx ((((((((((w.setCell ⟨B, 0, none⟩ v0).setCell ⟨B, 1, none⟩ v1).setCell ⟨B, 2, none⟩ v2).setCell ⟨B, 3, none⟩ v3).setCell ⟨B, 4, none⟩ v4).setCell ⟨B, 5, none⟩ v5).setCell ⟨B, 6, none⟩ v6).setCell ⟨B, 7, none⟩ v7).setCell ⟨B, 8, none⟩ v8).setCell ⟨B, 9, none⟩ v9) v x := by
  rcases hd with e | e
  · rw [← e] at h1
    exact h.setOld10 h1 hB1 _ _ _ _ _ _ _ _ _ _
  · exact h.set10 e hB2 _ _ _ _ _ _ _ _ _ _

set_option maxHeartbeats 8000000 in
set_option maxRecDepth 100000 in
theorem alters_walk (v : Value) (t : Tx) (h b : Int) (s : ByteArray) (w : World) (hT : IsTx w v t) (r1 : t.info.length * 24 ≤ 140737488355328) (r2 : t.data.length * 24 ≤ 140737488355328) (r3 : t.rev.length * 8 ≤ 140737488355328) (_hs : s.size ≤ maxLen) :
    Calls Tryz.prog 3 #[v, .int .i64 h, .int .i64 b, .string s] w fun e w' => e = .returned (.bool true) ∧ Below w.heap.size w w' := by
  have HT := hide hT
  obtain ⟨a0, a1, a2, a3, a4, a5, rfl, _, _, _, _, _, _⟩ := hT
  have HC0 : Hid (∀ W v, IsTx W v t → Calls Tryz.prog 8 #[v, .int .i64 h, .int .i64 b, .string s] W fun e w' => ∃ v2, e = .returned (.tuple #[v2, .int .i64 (changeE t h b s)]) ∧ IsTx w' v2 (changeT t h b s) ∧ Below W.heap.size W w' ∧ (v2 = v ∨ RowsFrom W.heap.size v2 (changeT t h b s))) := fun W v hW => tChange_all v t h b s W hW r1 r2
  have HA0 : Hid (∀ W v, IsTx W v t → Calls Tryz.prog 9 #[.int .i64 0, v, .int .i64 h, .int .i64 b, .string s] W fun e w' => ∃ v2, e = .returned (.tuple #[v2, .int .i64 (changeE t h b s)]) ∧ IsTx w' v2 (changeT t h b s) ∧ Below W.heap.size W w' ∧ (v2 = v ∨ RowsFrom W.heap.size v2 (changeT t h b s))) := fun W v hW => alter0_any v t h b s W hW r1 r2
  have HC1 : Hid (∀ W v, IsTx W v t → Calls Tryz.prog 11 #[v, .int .i64 h, .int .i64 b, .string s] W fun e w' => ∃ v2, e = .returned (.tuple #[v2, .int .i64 (fillE t h b s)]) ∧ IsTx w' v2 (fillT t h b s) ∧ Below W.heap.size W w' ∧ (v2 = v ∨ RowsFrom W.heap.size v2 (fillT t h b s))) := fun W v hW => tFill_all v t h b s W hW r1 r2
  have HA1 : Hid (∀ W v, IsTx W v t → Calls Tryz.prog 9 #[.int .i64 1, v, .int .i64 h, .int .i64 b, .string s] W fun e w' => ∃ v2, e = .returned (.tuple #[v2, .int .i64 (fillE t h b s)]) ∧ IsTx w' v2 (fillT t h b s) ∧ Below W.heap.size W w' ∧ (v2 = v ∨ RowsFrom W.heap.size v2 (fillT t h b s))) := fun W v hW => alter1_any v t h b s W hW r1 r2
  have HC2 : Hid (∀ W v, IsTx W v t → Calls Tryz.prog 12 #[v, .int .i64 h, .int .i64 b] W fun e w' => ∃ v2, e = .returned (.tuple #[v2, .int .i64 (revokeE t h b)]) ∧ IsTx w' v2 (revokeT t h b) ∧ Below W.heap.size W w' ∧ (v2 = v ∨ RowsFrom W.heap.size v2 (revokeT t h b))) := fun W v hW => tRevoke_all v t h b W hW r1 r2
  have HA2 : Hid (∀ W v, IsTx W v t → Calls Tryz.prog 9 #[.int .i64 2, v, .int .i64 h, .int .i64 b, .string s] W fun e w' => ∃ v2, e = .returned (.tuple #[v2, .int .i64 (revokeE t h b)]) ∧ IsTx w' v2 (revokeT t h b) ∧ Below W.heap.size W w' ∧ (v2 = v ∨ RowsFrom W.heap.size v2 (revokeT t h b))) := fun W v hW => alter2_any v t h b s W hW r1 r2
  generalize changeE t h b s = e0 at *
  generalize changeT t h b s = X at *
  generalize fillE t h b s = e1 at *
  generalize fillT t h b s = Y at *
  generalize revokeE t h b = e2 at *
  generalize revokeT t h b = Z at *
  go_enter Tryz.func3, Tryz.ntmps3
  go_wp2_with fail
  refine (copyTxn_any _ t _ (HT.out.below (below1 _ _)) r1 r2 r3).mono ?_
  rintro e w1 ⟨v1, rfl, hc, hb1⟩
  have HC := hide hc.is
  have hA := hc.is
  obtain ⟨b0, b1, b2, b3, b4, b5, rfl, _, _, _, _, _, _⟩ := hA
  have K0 := hide (one1 hb1)
  have HB := hide (bthen (below1 _ _) hb1)
  replace HT := hide (HT.out.below HB.out)
  have o01 : w.heap.size < w1.heap.size := blk_lt K0.out
  clear hb1 hc
  obtain ⟨⟨xc0, xc1, xc2, xc3, xc4, xc5, xc6, xc7, xc8, xc9⟩, xf⟩ := box10 K0.out
  go_wp2_with fail
  refine (HC0.out _ _ (HC.out.below (below1 _ _))).mono ?_
  rintro e w2 ⟨v2, rfl, hA, hb2, _⟩
  have HX := hide hA
  obtain ⟨c0, c1, c2, c3, c4, c5, rfl, _, _, _, _, _, _⟩ := hA
  clear xc0 xc1 xc2 xc3 xc4 xc5 xc6 xc7 xc8 xc9 xf
  have K1 := hide (one1 hb2)
  have hS := bthen (below1 _ _) hb2
  replace K0 := hide (boxKeep hS (blk_lt K0.out) K0.out)
  replace HT := hide (HT.out.below hS)
  replace HC := hide (HC.out.below hS)
  replace HB := hide (bthen HB.out hS)
  have o12 : w1.heap.size < w2.heap.size := blk_lt K1.out
  have o02 : w.heap.size < w2.heap.size := by omega
  have HTo := HT
  have HCo := HC
  clear hb2 hS
  obtain ⟨⟨xc0, xc1, xc2, xc3, xc4, xc5, xc6, xc7, xc8, xc9⟩, xf⟩ := box10 K0.out
  obtain ⟨⟨yc0, yc1, yc2, yc3, yc4, yc5, yc6, yc7, yc8, yc9⟩, yf⟩ := box10 K1.out
  go_wp2_with fail
  refine (HA0.out _ _ (HT.out.below (below1 _ _))).mono ?_
  rintro e w3 ⟨v3, rfl, hA, hb3, _⟩
  have HY := hide hA
  obtain ⟨d0, d1, d2, d3, d4, d5, rfl, _, _, _, _, _, _⟩ := hA
  clear xc0 xc1 xc2 xc3 xc4 xc5 xc6 xc7 xc8 xc9 xf
  clear yc0 yc1 yc2 yc3 yc4 yc5 yc6 yc7 yc8 yc9 yf
  have K2 := hide (one1 hb3)
  have hS := bthen (below1 _ _) hb3
  replace K0 := hide (boxKeep hS (blk_lt K0.out) K0.out)
  replace K1 := hide (boxKeep hS (blk_lt K1.out) K1.out)
  replace HT := hide (HT.out.below hS)
  replace HC := hide (HC.out.below hS)
  replace HX := hide (HX.out.below hS)
  replace HB := hide (bthen HB.out hS)
  have o23 : w2.heap.size < w3.heap.size := blk_lt K2.out
  have o03 : w.heap.size < w3.heap.size := by omega
  have o13 : w1.heap.size < w3.heap.size := by omega
  clear hb3 hS
  obtain ⟨⟨zc0, zc1, zc2, zc3, zc4, zc5, zc6, zc7, zc8, zc9⟩, zf⟩ := box10 K2.out
  go_wp2_with fail
  refine (sameTxn_any _ _ X _ (HX.out.below (below1 _ _)) (HY.out.below (below1 _ _))).mono ?_
  rintro e w4 ⟨rfl, hb4⟩
  clear zc0 zc1 zc2 zc3 zc4 zc5 zc6 zc7 zc8 zc9 zf
  have K3 := hide (one1 hb4)
  have hS := bthen (below1 _ _) hb4
  clear HX HY
  replace K0 := hide (boxKeep hS (blk_lt K0.out) K0.out)
  replace K1 := hide (boxKeep hS (blk_lt K1.out) K1.out)
  replace K2 := hide (boxKeep hS (blk_lt K2.out) K2.out)
  replace HT := hide (HT.out.below hS)
  replace HC := hide (HC.out.below hS)
  replace HB := hide (bthen HB.out hS)
  clear hb4 hS
  obtain ⟨⟨yc0, yc1, yc2, yc3, yc4, yc5, yc6, yc7, yc8, yc9⟩, yf⟩ := box10 K1.out
  go_wp2_with fail
  have hb3 : w3.heap.size < w4.heap.size := blk_lt K3.out
  have hb2 : w2.heap.size < w4.heap.size := by omega
  refine (HC1.out _ _ HC.out).mono ?_
  rintro e w5 ⟨v2, rfl, hA, hb, hD⟩
  have HX := hide hA
  have DX := hide hD
  obtain ⟨f0, f1, f2, f3, f4, f5, rfl, _, _, _, _, _, _⟩ := hA
  clear yc0 yc1 yc2 yc3 yc4 yc5 yc6 yc7 yc8 yc9 yf
  replace K0 := hide (boxKeep hb (blk_lt K0.out) K0.out)
  replace K1 := hide (boxKeep hb (blk_lt K1.out) K1.out)
  replace K2 := hide (boxKeep hb (blk_lt K2.out) K2.out)
  replace K3 := hide (boxKeep hb (blk_lt K3.out) K3.out)
  replace HT := hide (HT.out.below hb)
  replace HC := hide (HC.out.below hb)
  replace HB := hide (bthen HB.out hb)
  clear hb hD
  obtain ⟨⟨xc0, xc1, xc2, xc3, xc4, xc5, xc6, xc7, xc8, xc9⟩, xf⟩ := box10 K0.out
  obtain ⟨⟨zc0, zc1, zc2, zc3, zc4, zc5, zc6, zc7, zc8, zc9⟩, zf⟩ := box10 K2.out
  go_wp2_with fail
  clear xc0 xc1 xc2 xc3 xc4 xc5 xc6 xc7 xc8 xc9 xf
  clear zc0 zc1 zc2 zc3 zc4 zc5 zc6 zc7 zc8 zc9 zf
  obtain ⟨w6, hw⟩ : ∃ w6, w6 = ((((((((((w5.setCell ⟨w2.heap.size, 0, none⟩ (.int .i64 Y.seq)).setCell ⟨w2.heap.size, 1, none⟩ (.slice f0 Y.info.length f1)).setCell ⟨w2.heap.size, 2, none⟩ (.slice f2 Y.data.length f3)).setCell ⟨w2.heap.size, 3, none⟩ (.slice f4 Y.rev.length f5)).setCell ⟨w2.heap.size, 4, none⟩ (.bool Y.h0.on)).setCell ⟨w2.heap.size, 5, none⟩ (.int .i64 Y.h0.left)).setCell ⟨w2.heap.size, 6, none⟩ (.bool Y.h1.on)).setCell ⟨w2.heap.size, 7, none⟩ (.int .i64 Y.h1.left)).setCell ⟨w2.heap.size, 8, none⟩ (.bool Y.h2.on)).setCell ⟨w2.heap.size, 9, none⟩ (.int .i64 Y.h2.left)) := ⟨_, rfl⟩
  replace K0 : Hid (w6.heap[w.heap.size]? = some (Obj.cells #[.int .i64 t.seq, .slice a0 t.info.length a1, .slice a2 t.data.length a3, .slice a4 t.rev.length a5, .bool t.h0.on, .int .i64 t.h0.left, .bool t.h1.on, .int .i64 t.h1.left, .bool t.h2.on, .int .i64 t.h2.left] 28 (0, 0))) := by rw [Hid, hw]; exact (heap_set10 w5 (by omega) _ _ _ _ _ _ _ _ _ _).trans K0.out
  replace K1 : Hid (w6.heap[w1.heap.size]? = some (Obj.cells #[.int .i64 t.seq, .slice b0 t.info.length b1, .slice b2 t.data.length b3, .slice b4 t.rev.length b5, .bool t.h0.on, .int .i64 t.h0.left, .bool t.h1.on, .int .i64 t.h1.left, .bool t.h2.on, .int .i64 t.h2.left] 28 (0, 0))) := by rw [Hid, hw]; exact (heap_set10 w5 (by omega) _ _ _ _ _ _ _ _ _ _).trans K1.out
  replace K2 : Hid (w6.heap[w2.heap.size]? = some (Obj.cells #[.int .i64 Y.seq, .slice f0 Y.info.length f1, .slice f2 Y.data.length f3, .slice f4 Y.rev.length f5, .bool Y.h0.on, .int .i64 Y.h0.left, .bool Y.h1.on, .int .i64 Y.h1.left, .bool Y.h2.on, .int .i64 Y.h2.left] 28 (0, 0))) := by rw [Hid, hw]; exact box10Set K2.out _ _ _ _ _ _ _ _ _ _
  replace K3 : Hid (w6.heap[w3.heap.size]? = some (Obj.cells #[.int .i64 X.seq, .slice d0 X.info.length d1, .slice d2 X.data.length d3, .slice d4 X.rev.length d5, .bool X.h0.on, .int .i64 X.h0.left, .bool X.h1.on, .int .i64 X.h1.left, .bool X.h2.on, .int .i64 X.h2.left] 28 (0, 0))) := by rw [Hid, hw]; exact (heap_set10 w5 (by omega) _ _ _ _ _ _ _ _ _ _).trans K3.out
  replace HT : Hid (IsTx w6 (.agg #[.int .i64 t.seq, .slice a0 t.info.length a1, .slice a2 t.data.length a3, .slice a4 t.rev.length a5, .bool t.h0.on, .int .i64 t.h0.left, .bool t.h1.on, .int .i64 t.h1.left, .bool t.h2.on, .int .i64 t.h2.left]) t) := by rw [Hid, hw]; exact HT.out.setOld10 HTo.out (by omega) _ _ _ _ _ _ _ _ _ _
  replace HC : Hid (IsTx w6 (.agg #[.int .i64 t.seq, .slice b0 t.info.length b1, .slice b2 t.data.length b3, .slice b4 t.rev.length b5, .bool t.h0.on, .int .i64 t.h0.left, .bool t.h1.on, .int .i64 t.h1.left, .bool t.h2.on, .int .i64 t.h2.left]) t) := by rw [Hid, hw]; exact HC.out.setOld10 HCo.out (by omega) _ _ _ _ _ _ _ _ _ _
  replace HX : Hid (IsTx w6 (.agg #[.int .i64 Y.seq, .slice f0 Y.info.length f1, .slice f2 Y.data.length f3, .slice f4 Y.rev.length f5, .bool Y.h0.on, .int .i64 Y.h0.left, .bool Y.h1.on, .int .i64 Y.h1.left, .bool Y.h2.on, .int .i64 Y.h2.left]) Y) := by rw [Hid, hw]; exact HX.out.putO DX.out HCo.out (by omega) hb2 _ _ _ _ _ _ _ _ _ _
  replace HB : Hid (Below w.heap.size w w6) := by rw [Hid, hw]; exact Below.set10 HB.out (by omega) _ _ _ _ _ _ _ _ _ _
  rw [← hw]
  clear hw
  have hd3 : w3.heap.size < w6.heap.size := blk_lt K3.out
  refine (HA1.out _ _ HT.out).mono ?_
  rintro e w7 ⟨v2, rfl, hA, hb, hD⟩
  have HY := hide hA
  have DY := hide hD
  obtain ⟨g0, g1, g2, g3, g4, g5, rfl, _, _, _, _, _, _⟩ := hA
  replace K0 := hide (boxKeep hb (blk_lt K0.out) K0.out)
  replace K1 := hide (boxKeep hb (blk_lt K1.out) K1.out)
  replace K2 := hide (boxKeep hb (blk_lt K2.out) K2.out)
  replace K3 := hide (boxKeep hb (blk_lt K3.out) K3.out)
  replace HT := hide (HT.out.below hb)
  replace HC := hide (HC.out.below hb)
  replace HX := hide (HX.out.below hb)
  replace HB := hide (bthen HB.out hb)
  clear hb hD
  obtain ⟨⟨zc0, zc1, zc2, zc3, zc4, zc5, zc6, zc7, zc8, zc9⟩, zf⟩ := box10 K2.out
  obtain ⟨⟨uc0, uc1, uc2, uc3, uc4, uc5, uc6, uc7, uc8, uc9⟩, uf⟩ := box10 K3.out
  go_wp2_with fail
  clear zc0 zc1 zc2 zc3 zc4 zc5 zc6 zc7 zc8 zc9 zf
  clear uc0 uc1 uc2 uc3 uc4 uc5 uc6 uc7 uc8 uc9 uf
  obtain ⟨w8, hw⟩ : ∃ w8, w8 = ((((((((((w7.setCell ⟨w3.heap.size, 0, none⟩ (.int .i64 Y.seq)).setCell ⟨w3.heap.size, 1, none⟩ (.slice g0 Y.info.length g1)).setCell ⟨w3.heap.size, 2, none⟩ (.slice g2 Y.data.length g3)).setCell ⟨w3.heap.size, 3, none⟩ (.slice g4 Y.rev.length g5)).setCell ⟨w3.heap.size, 4, none⟩ (.bool Y.h0.on)).setCell ⟨w3.heap.size, 5, none⟩ (.int .i64 Y.h0.left)).setCell ⟨w3.heap.size, 6, none⟩ (.bool Y.h1.on)).setCell ⟨w3.heap.size, 7, none⟩ (.int .i64 Y.h1.left)).setCell ⟨w3.heap.size, 8, none⟩ (.bool Y.h2.on)).setCell ⟨w3.heap.size, 9, none⟩ (.int .i64 Y.h2.left)) := ⟨_, rfl⟩
  replace K0 : Hid (w8.heap[w.heap.size]? = some (Obj.cells #[.int .i64 t.seq, .slice a0 t.info.length a1, .slice a2 t.data.length a3, .slice a4 t.rev.length a5, .bool t.h0.on, .int .i64 t.h0.left, .bool t.h1.on, .int .i64 t.h1.left, .bool t.h2.on, .int .i64 t.h2.left] 28 (0, 0))) := by rw [Hid, hw]; exact (heap_set10 w7 (by omega) _ _ _ _ _ _ _ _ _ _).trans K0.out
  replace K1 : Hid (w8.heap[w1.heap.size]? = some (Obj.cells #[.int .i64 t.seq, .slice b0 t.info.length b1, .slice b2 t.data.length b3, .slice b4 t.rev.length b5, .bool t.h0.on, .int .i64 t.h0.left, .bool t.h1.on, .int .i64 t.h1.left, .bool t.h2.on, .int .i64 t.h2.left] 28 (0, 0))) := by rw [Hid, hw]; exact (heap_set10 w7 (by omega) _ _ _ _ _ _ _ _ _ _).trans K1.out
  replace K2 : Hid (w8.heap[w2.heap.size]? = some (Obj.cells #[.int .i64 Y.seq, .slice f0 Y.info.length f1, .slice f2 Y.data.length f3, .slice f4 Y.rev.length f5, .bool Y.h0.on, .int .i64 Y.h0.left, .bool Y.h1.on, .int .i64 Y.h1.left, .bool Y.h2.on, .int .i64 Y.h2.left] 28 (0, 0))) := by rw [Hid, hw]; exact (heap_set10 w7 (by omega) _ _ _ _ _ _ _ _ _ _).trans K2.out
  replace K3 : Hid (w8.heap[w3.heap.size]? = some (Obj.cells #[.int .i64 Y.seq, .slice g0 Y.info.length g1, .slice g2 Y.data.length g3, .slice g4 Y.rev.length g5, .bool Y.h0.on, .int .i64 Y.h0.left, .bool Y.h1.on, .int .i64 Y.h1.left, .bool Y.h2.on, .int .i64 Y.h2.left] 28 (0, 0))) := by rw [Hid, hw]; exact box10Set K3.out _ _ _ _ _ _ _ _ _ _
  replace HT : Hid (IsTx w8 (.agg #[.int .i64 t.seq, .slice a0 t.info.length a1, .slice a2 t.data.length a3, .slice a4 t.rev.length a5, .bool t.h0.on, .int .i64 t.h0.left, .bool t.h1.on, .int .i64 t.h1.left, .bool t.h2.on, .int .i64 t.h2.left]) t) := by rw [Hid, hw]; exact HT.out.setOld10 HTo.out (by omega) _ _ _ _ _ _ _ _ _ _
  replace HC : Hid (IsTx w8 (.agg #[.int .i64 t.seq, .slice b0 t.info.length b1, .slice b2 t.data.length b3, .slice b4 t.rev.length b5, .bool t.h0.on, .int .i64 t.h0.left, .bool t.h1.on, .int .i64 t.h1.left, .bool t.h2.on, .int .i64 t.h2.left]) t) := by rw [Hid, hw]; exact HC.out.setOld10 HCo.out (by omega) _ _ _ _ _ _ _ _ _ _
  replace HX : Hid (IsTx w8 (.agg #[.int .i64 Y.seq, .slice f0 Y.info.length f1, .slice f2 Y.data.length f3, .slice f4 Y.rev.length f5, .bool Y.h0.on, .int .i64 Y.h0.left, .bool Y.h1.on, .int .i64 Y.h1.left, .bool Y.h2.on, .int .i64 Y.h2.left]) Y) := by rw [Hid, hw]; exact HX.out.putO DX.out HCo.out (by omega) hb3 _ _ _ _ _ _ _ _ _ _
  replace HY : Hid (IsTx w8 (.agg #[.int .i64 Y.seq, .slice g0 Y.info.length g1, .slice g2 Y.data.length g3, .slice g4 Y.rev.length g5, .bool Y.h0.on, .int .i64 Y.h0.left, .bool Y.h1.on, .int .i64 Y.h1.left, .bool Y.h2.on, .int .i64 Y.h2.left]) Y) := by rw [Hid, hw]; exact HY.out.putO DY.out HTo.out (by omega) hd3 _ _ _ _ _ _ _ _ _ _
  replace HB : Hid (Below w.heap.size w w8) := by rw [Hid, hw]; exact Below.set10 HB.out (by omega) _ _ _ _ _ _ _ _ _ _
  rw [← hw]
  clear hw
  refine (sameTxn_any _ _ Y _ HX.out HY.out).mono ?_
  rintro e w9 ⟨rfl, hb⟩
  clear HX HY DX DY hb2 hb3 hd3
  replace K0 := hide (boxKeep hb (blk_lt K0.out) K0.out)
  replace K1 := hide (boxKeep hb (blk_lt K1.out) K1.out)
  replace K2 := hide (boxKeep hb (blk_lt K2.out) K2.out)
  replace K3 := hide (boxKeep hb (blk_lt K3.out) K3.out)
  replace HT := hide (HT.out.below hb)
  replace HC := hide (HC.out.below hb)
  replace HB := hide (bthen HB.out hb)
  clear hb
  obtain ⟨⟨yc0, yc1, yc2, yc3, yc4, yc5, yc6, yc7, yc8, yc9⟩, yf⟩ := box10 K1.out
  go_wp2_with fail
  have hb3 : w3.heap.size < w9.heap.size := blk_lt K3.out
  have hb2 : w2.heap.size < w9.heap.size := by omega
  refine (HC2.out _ _ HC.out).mono ?_
  rintro e w10 ⟨v2, rfl, hA, hb, hD⟩
  have HX := hide hA
  have DX := hide hD
  obtain ⟨k0, k1, k2, k3, k4, k5, rfl, _, _, _, _, _, _⟩ := hA
  clear yc0 yc1 yc2 yc3 yc4 yc5 yc6 yc7 yc8 yc9 yf
  replace K0 := hide (boxKeep hb (blk_lt K0.out) K0.out)
  replace K1 := hide (boxKeep hb (blk_lt K1.out) K1.out)
  replace K2 := hide (boxKeep hb (blk_lt K2.out) K2.out)
  replace K3 := hide (boxKeep hb (blk_lt K3.out) K3.out)
  replace HT := hide (HT.out.below hb)
  replace HC := hide (HC.out.below hb)
  replace HB := hide (bthen HB.out hb)
  clear hb hD
  obtain ⟨⟨xc0, xc1, xc2, xc3, xc4, xc5, xc6, xc7, xc8, xc9⟩, xf⟩ := box10 K0.out
  obtain ⟨⟨zc0, zc1, zc2, zc3, zc4, zc5, zc6, zc7, zc8, zc9⟩, zf⟩ := box10 K2.out
  go_wp2_with fail
  clear xc0 xc1 xc2 xc3 xc4 xc5 xc6 xc7 xc8 xc9 xf
  clear zc0 zc1 zc2 zc3 zc4 zc5 zc6 zc7 zc8 zc9 zf
  obtain ⟨w11, hw⟩ : ∃ w11, w11 = ((((((((((w10.setCell ⟨w2.heap.size, 0, none⟩ (.int .i64 Z.seq)).setCell ⟨w2.heap.size, 1, none⟩ (.slice k0 Z.info.length k1)).setCell ⟨w2.heap.size, 2, none⟩ (.slice k2 Z.data.length k3)).setCell ⟨w2.heap.size, 3, none⟩ (.slice k4 Z.rev.length k5)).setCell ⟨w2.heap.size, 4, none⟩ (.bool Z.h0.on)).setCell ⟨w2.heap.size, 5, none⟩ (.int .i64 Z.h0.left)).setCell ⟨w2.heap.size, 6, none⟩ (.bool Z.h1.on)).setCell ⟨w2.heap.size, 7, none⟩ (.int .i64 Z.h1.left)).setCell ⟨w2.heap.size, 8, none⟩ (.bool Z.h2.on)).setCell ⟨w2.heap.size, 9, none⟩ (.int .i64 Z.h2.left)) := ⟨_, rfl⟩
  replace K0 : Hid (w11.heap[w.heap.size]? = some (Obj.cells #[.int .i64 t.seq, .slice a0 t.info.length a1, .slice a2 t.data.length a3, .slice a4 t.rev.length a5, .bool t.h0.on, .int .i64 t.h0.left, .bool t.h1.on, .int .i64 t.h1.left, .bool t.h2.on, .int .i64 t.h2.left] 28 (0, 0))) := by rw [Hid, hw]; exact (heap_set10 w10 (by omega) _ _ _ _ _ _ _ _ _ _).trans K0.out
  replace K1 : Hid (w11.heap[w1.heap.size]? = some (Obj.cells #[.int .i64 t.seq, .slice b0 t.info.length b1, .slice b2 t.data.length b3, .slice b4 t.rev.length b5, .bool t.h0.on, .int .i64 t.h0.left, .bool t.h1.on, .int .i64 t.h1.left, .bool t.h2.on, .int .i64 t.h2.left] 28 (0, 0))) := by rw [Hid, hw]; exact (heap_set10 w10 (by omega) _ _ _ _ _ _ _ _ _ _).trans K1.out
  replace K2 : Hid (w11.heap[w2.heap.size]? = some (Obj.cells #[.int .i64 Z.seq, .slice k0 Z.info.length k1, .slice k2 Z.data.length k3, .slice k4 Z.rev.length k5, .bool Z.h0.on, .int .i64 Z.h0.left, .bool Z.h1.on, .int .i64 Z.h1.left, .bool Z.h2.on, .int .i64 Z.h2.left] 28 (0, 0))) := by rw [Hid, hw]; exact box10Set K2.out _ _ _ _ _ _ _ _ _ _
  replace K3 : Hid (w11.heap[w3.heap.size]? = some (Obj.cells #[.int .i64 Y.seq, .slice g0 Y.info.length g1, .slice g2 Y.data.length g3, .slice g4 Y.rev.length g5, .bool Y.h0.on, .int .i64 Y.h0.left, .bool Y.h1.on, .int .i64 Y.h1.left, .bool Y.h2.on, .int .i64 Y.h2.left] 28 (0, 0))) := by rw [Hid, hw]; exact (heap_set10 w10 (by omega) _ _ _ _ _ _ _ _ _ _).trans K3.out
  replace HT : Hid (IsTx w11 (.agg #[.int .i64 t.seq, .slice a0 t.info.length a1, .slice a2 t.data.length a3, .slice a4 t.rev.length a5, .bool t.h0.on, .int .i64 t.h0.left, .bool t.h1.on, .int .i64 t.h1.left, .bool t.h2.on, .int .i64 t.h2.left]) t) := by rw [Hid, hw]; exact HT.out.setOld10 HTo.out (by omega) _ _ _ _ _ _ _ _ _ _
  replace HC : Hid (IsTx w11 (.agg #[.int .i64 t.seq, .slice b0 t.info.length b1, .slice b2 t.data.length b3, .slice b4 t.rev.length b5, .bool t.h0.on, .int .i64 t.h0.left, .bool t.h1.on, .int .i64 t.h1.left, .bool t.h2.on, .int .i64 t.h2.left]) t) := by rw [Hid, hw]; exact HC.out.setOld10 HCo.out (by omega) _ _ _ _ _ _ _ _ _ _
  replace HX : Hid (IsTx w11 (.agg #[.int .i64 Z.seq, .slice k0 Z.info.length k1, .slice k2 Z.data.length k3, .slice k4 Z.rev.length k5, .bool Z.h0.on, .int .i64 Z.h0.left, .bool Z.h1.on, .int .i64 Z.h1.left, .bool Z.h2.on, .int .i64 Z.h2.left]) Z) := by rw [Hid, hw]; exact HX.out.putO DX.out HCo.out (by omega) hb2 _ _ _ _ _ _ _ _ _ _
  replace HB : Hid (Below w.heap.size w w11) := by rw [Hid, hw]; exact Below.set10 HB.out (by omega) _ _ _ _ _ _ _ _ _ _
  rw [← hw]
  clear hw
  have hd3 : w3.heap.size < w11.heap.size := blk_lt K3.out
  refine (HA2.out _ _ HT.out).mono ?_
  rintro e w12 ⟨v2, rfl, hA, hb, hD⟩
  have HY := hide hA
  have DY := hide hD
  obtain ⟨l0, l1, l2, l3, l4, l5, rfl, _, _, _, _, _, _⟩ := hA
  replace K0 := hide (boxKeep hb (blk_lt K0.out) K0.out)
  replace K1 := hide (boxKeep hb (blk_lt K1.out) K1.out)
  replace K2 := hide (boxKeep hb (blk_lt K2.out) K2.out)
  replace K3 := hide (boxKeep hb (blk_lt K3.out) K3.out)
  replace HT := hide (HT.out.below hb)
  replace HC := hide (HC.out.below hb)
  replace HX := hide (HX.out.below hb)
  replace HB := hide (bthen HB.out hb)
  clear hb hD
  obtain ⟨⟨yc0, yc1, yc2, yc3, yc4, yc5, yc6, yc7, yc8, yc9⟩, yf⟩ := box10 K1.out
  obtain ⟨⟨uc0, uc1, uc2, uc3, uc4, uc5, uc6, uc7, uc8, uc9⟩, uf⟩ := box10 K3.out
  go_wp2_with fail
  clear yc0 yc1 yc2 yc3 yc4 yc5 yc6 yc7 yc8 yc9 yf
  clear uc0 uc1 uc2 uc3 uc4 uc5 uc6 uc7 uc8 uc9 uf
  obtain ⟨w13, hw⟩ : ∃ w13, w13 = ((((((((((w12.setCell ⟨w3.heap.size, 0, none⟩ (.int .i64 Z.seq)).setCell ⟨w3.heap.size, 1, none⟩ (.slice l0 Z.info.length l1)).setCell ⟨w3.heap.size, 2, none⟩ (.slice l2 Z.data.length l3)).setCell ⟨w3.heap.size, 3, none⟩ (.slice l4 Z.rev.length l5)).setCell ⟨w3.heap.size, 4, none⟩ (.bool Z.h0.on)).setCell ⟨w3.heap.size, 5, none⟩ (.int .i64 Z.h0.left)).setCell ⟨w3.heap.size, 6, none⟩ (.bool Z.h1.on)).setCell ⟨w3.heap.size, 7, none⟩ (.int .i64 Z.h1.left)).setCell ⟨w3.heap.size, 8, none⟩ (.bool Z.h2.on)).setCell ⟨w3.heap.size, 9, none⟩ (.int .i64 Z.h2.left)) := ⟨_, rfl⟩
  replace K0 : Hid (w13.heap[w.heap.size]? = some (Obj.cells #[.int .i64 t.seq, .slice a0 t.info.length a1, .slice a2 t.data.length a3, .slice a4 t.rev.length a5, .bool t.h0.on, .int .i64 t.h0.left, .bool t.h1.on, .int .i64 t.h1.left, .bool t.h2.on, .int .i64 t.h2.left] 28 (0, 0))) := by rw [Hid, hw]; exact (heap_set10 w12 (by omega) _ _ _ _ _ _ _ _ _ _).trans K0.out
  replace K1 : Hid (w13.heap[w1.heap.size]? = some (Obj.cells #[.int .i64 t.seq, .slice b0 t.info.length b1, .slice b2 t.data.length b3, .slice b4 t.rev.length b5, .bool t.h0.on, .int .i64 t.h0.left, .bool t.h1.on, .int .i64 t.h1.left, .bool t.h2.on, .int .i64 t.h2.left] 28 (0, 0))) := by rw [Hid, hw]; exact (heap_set10 w12 (by omega) _ _ _ _ _ _ _ _ _ _).trans K1.out
  replace K2 : Hid (w13.heap[w2.heap.size]? = some (Obj.cells #[.int .i64 Z.seq, .slice k0 Z.info.length k1, .slice k2 Z.data.length k3, .slice k4 Z.rev.length k5, .bool Z.h0.on, .int .i64 Z.h0.left, .bool Z.h1.on, .int .i64 Z.h1.left, .bool Z.h2.on, .int .i64 Z.h2.left] 28 (0, 0))) := by rw [Hid, hw]; exact (heap_set10 w12 (by omega) _ _ _ _ _ _ _ _ _ _).trans K2.out
  replace K3 : Hid (w13.heap[w3.heap.size]? = some (Obj.cells #[.int .i64 Z.seq, .slice l0 Z.info.length l1, .slice l2 Z.data.length l3, .slice l4 Z.rev.length l5, .bool Z.h0.on, .int .i64 Z.h0.left, .bool Z.h1.on, .int .i64 Z.h1.left, .bool Z.h2.on, .int .i64 Z.h2.left] 28 (0, 0))) := by rw [Hid, hw]; exact box10Set K3.out _ _ _ _ _ _ _ _ _ _
  replace HT : Hid (IsTx w13 (.agg #[.int .i64 t.seq, .slice a0 t.info.length a1, .slice a2 t.data.length a3, .slice a4 t.rev.length a5, .bool t.h0.on, .int .i64 t.h0.left, .bool t.h1.on, .int .i64 t.h1.left, .bool t.h2.on, .int .i64 t.h2.left]) t) := by rw [Hid, hw]; exact HT.out.setOld10 HTo.out (by omega) _ _ _ _ _ _ _ _ _ _
  replace HC : Hid (IsTx w13 (.agg #[.int .i64 t.seq, .slice b0 t.info.length b1, .slice b2 t.data.length b3, .slice b4 t.rev.length b5, .bool t.h0.on, .int .i64 t.h0.left, .bool t.h1.on, .int .i64 t.h1.left, .bool t.h2.on, .int .i64 t.h2.left]) t) := by rw [Hid, hw]; exact HC.out.setOld10 HCo.out (by omega) _ _ _ _ _ _ _ _ _ _
  replace HX : Hid (IsTx w13 (.agg #[.int .i64 Z.seq, .slice k0 Z.info.length k1, .slice k2 Z.data.length k3, .slice k4 Z.rev.length k5, .bool Z.h0.on, .int .i64 Z.h0.left, .bool Z.h1.on, .int .i64 Z.h1.left, .bool Z.h2.on, .int .i64 Z.h2.left]) Z) := by rw [Hid, hw]; exact HX.out.putO DX.out HCo.out (by omega) hb3 _ _ _ _ _ _ _ _ _ _
  replace HY : Hid (IsTx w13 (.agg #[.int .i64 Z.seq, .slice l0 Z.info.length l1, .slice l2 Z.data.length l3, .slice l4 Z.rev.length l5, .bool Z.h0.on, .int .i64 Z.h0.left, .bool Z.h1.on, .int .i64 Z.h1.left, .bool Z.h2.on, .int .i64 Z.h2.left]) Z) := by rw [Hid, hw]; exact HY.out.putO DY.out HTo.out (by omega) hd3 _ _ _ _ _ _ _ _ _ _
  replace HB : Hid (Below w.heap.size w w13) := by rw [Hid, hw]; exact Below.set10 HB.out (by omega) _ _ _ _ _ _ _ _ _ _
  rw [← hw]
  clear hw
  refine (tGet_any b0 b1 t.info b _ HC.out.seg.1 HC.out.seg.2.1).mono ?_
  rintro e w14 ⟨rfl, hb⟩
  clear DX DY hb2 hb3 hd3
  replace K0 := hide (boxKeep hb (blk_lt K0.out) K0.out)
  replace K1 := hide (boxKeep hb (blk_lt K1.out) K1.out)
  replace K2 := hide (boxKeep hb (blk_lt K2.out) K2.out)
  replace K3 := hide (boxKeep hb (blk_lt K3.out) K3.out)
  replace HT := hide (HT.out.below hb)
  replace HC := hide (HC.out.below hb)
  replace HX := hide (HX.out.below hb)
  replace HY := hide (HY.out.below hb)
  replace HB := hide (bthen HB.out hb)
  clear hb
  obtain ⟨⟨xc0, xc1, xc2, xc3, xc4, xc5, xc6, xc7, xc8, xc9⟩, xf⟩ := box10 K0.out
  go_wp2_with fail
  refine (textOf_any a0 a1 t.info b _ HT.out.seg.1 HT.out.seg.2.1).mono ?_
  rintro e w15 ⟨rfl, hb⟩
  clear xc0 xc1 xc2 xc3 xc4 xc5 xc6 xc7 xc8 xc9 xf
  replace K0 := hide (boxKeep hb (blk_lt K0.out) K0.out)
  replace K1 := hide (boxKeep hb (blk_lt K1.out) K1.out)
  replace K2 := hide (boxKeep hb (blk_lt K2.out) K2.out)
  replace K3 := hide (boxKeep hb (blk_lt K3.out) K3.out)
  replace HT := hide (HT.out.below hb)
  replace HC := hide (HC.out.below hb)
  replace HX := hide (HX.out.below hb)
  replace HY := hide (HY.out.below hb)
  replace HB := hide (bthen HB.out hb)
  clear hb
  generalize (textIn b t.info).getD ⟨#[]⟩ = tx
  generalize (textIn b t.info).isSome = tb
  obtain ⟨⟨zc0, zc1, zc2, zc3, zc4, zc5, zc6, zc7, zc8, zc9⟩, zf⟩ := box10 K2.out
  obtain ⟨⟨uc0, uc1, uc2, uc3, uc4, uc5, uc6, uc7, uc8, uc9⟩, uf⟩ := box10 K3.out
  go_wp2_with fail
  refine (sameTxn_any _ _ Z _ HX.out HY.out).mono ?_
  rintro e w16 ⟨rfl, hb⟩
  clear zc0 zc1 zc2 zc3 zc4 zc5 zc6 zc7 zc8 zc9 zf
  clear uc0 uc1 uc2 uc3 uc4 uc5 uc6 uc7 uc8 uc9 uf
  replace K0 := hide (boxKeep hb (blk_lt K0.out) K0.out)
  replace K1 := hide (boxKeep hb (blk_lt K1.out) K1.out)
  replace HT := hide (HT.out.below hb)
  replace HC := hide (HC.out.below hb)
  replace HB := hide (bthen HB.out hb)
  clear hb HX HY
  obtain ⟨⟨xc0, xc1, xc2, xc3, xc4, xc5, xc6, xc7, xc8, xc9⟩, xf⟩ := box10 K0.out
  obtain ⟨⟨yc0, yc1, yc2, yc3, yc4, yc5, yc6, yc7, yc8, yc9⟩, yf⟩ := box10 K1.out
  go_wp2_with fail
  refine (sameTxn_any _ _ t _ HC.out HT.out).mono ?_
  rintro e w17 ⟨rfl, hb⟩
  replace HB := hide (bthen HB.out hb)
  clear hb
  go_wp2_with fail
  refine (namesL_any _).mono ?_
  rintro e w18 ⟨rfl, hb⟩
  go_wp2
  go_ret
  exact ⟨rfl, bthen HB.out hb⟩

end Go.Proofs.YtjnpndfpajjihabGreat
