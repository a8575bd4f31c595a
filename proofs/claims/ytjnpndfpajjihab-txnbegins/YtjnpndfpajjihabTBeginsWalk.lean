/-
  The walk of the statement TxnBegins: it says true at every transaction, handle and numbers.
-/
import Derived.Test.YtjnpndfpajjihabTOwn
import Derived.Test.YtjnpndfpajjihabTRefBegin
import Derived.Test.YtjnpndfpajjihabTStop
import Derived.Test.YtjnpndfpajjihabTCopy
import Derived.Test.YtjnpndfpajjihabTSame
import Derived.Test.YtjnpndfpajjihabTNamesAll
import Derived.Deep.RegionHeld3
namespace Go.Proofs.Ytjnpndfpajjihab
open Go.RowKit

set_option maxHeartbeats 4000000 in
set_option maxRecDepth 100000 in
theorem begins_walk (v : Value) (t : Tx) (h n free : Int) (w : World) (hT : IsTx w v t) (r1 : t.info.length * 24 ≤ 140737488355328) (r2 : t.data.length * 24 ≤ 140737488355328) (r3 : t.rev.length * 8 ≤ 140737488355328) :
    Calls Try.prog 4 #[v, .int .i64 h, .int .i64 n, .int .i64 free] w fun e w' => e = .returned (.bool true) ∧ Below w.heap.size w w' := by
  have HT := hide hT
  obtain ⟨a0, a1, a2, a3, a4, a5, rfl, _, _, _, _, _, _⟩ := hT
  go_enter Try.func4, Try.ntmps4
  go_wp2_with fail
  refine (copyTxn_any _ t _ (HT.out.below (below1 _ _)) r1 r2 r3).mono ?_
  rintro e w1 ⟨v1, rfl, hc, hb1⟩
  have HC := hide hc.is
  obtain ⟨b0, b1, b2, b3, b4, b5, rfl, _, _, _, _, _, _⟩ := hc.is
  have K0 := hide (one1 hb1)
  have hs0 : w.heap.size < w1.heap.size := by have := hb1.size; simp at this; omega
  have HB := hide (bthen (below1 _ _) hb1)
  have HT1 := hide (HT.out.below HB.out)
  clear hb1 hc HT
  obtain ⟨⟨x0, x1, x2, x3, x4, x5, x6, x7, x8, x9⟩, _⟩ := box10 K0.out
  -- Begin
  go_wp2_with fail
  refine (tBegin_any _ t h n free _ (HC.out.below (below1 _ _)) r1 r2).mono ?_
  rintro e w2 ⟨v2, rfl, hA, hb2⟩
  have HA := hide hA
  obtain ⟨c0, c1, c2, c3, c4, c5, rfl, _, _, _, _, _, _⟩ := hA
  clear x0 x1 x2 x3 x4 x5 x6 x7 x8 x9
  have K1 := hide (one1 hb2)
  have hs1 : w1.heap.size < w2.heap.size := by have := hb2.size; simp at this; omega
  have hS := bthen (below1 _ _) hb2
  have hz2 := hS.size
  replace K0 := hide (boxKeep hS hs0 K0.out)
  replace hs0 := Nat.lt_of_lt_of_le hs0 hz2
  replace HC := hide (HC.out.below hS)
  replace HT1 := hide (HT1.out.below hS)
  replace HB := hide (bthen HB.out hS)
  clear hb2 hS
  obtain ⟨⟨x0, x1, x2, x3, x4, x5, x6, x7, x8, x9⟩, _⟩ := box10 K0.out
  -- BeginTxn
  go_wp2_with fail
  refine (beginTxn_any _ t h n free _ (HT1.out.below (below1 _ _)) r1 r2).mono ?_
  rintro e w3 ⟨v3, rfl, hA, hb3⟩
  have HA' := hide hA
  obtain ⟨d0, d1, d2, d3, d4, d5, rfl, _, _, _, _, _, _⟩ := hA
  generalize beginE t h n free = be
  generalize beginT t h n free = tb at *
  clear x0 x1 x2 x3 x4 x5 x6 x7 x8 x9
  have K2 := hide (one1 hb3)
  have hs2 : w2.heap.size < w3.heap.size := by have := hb3.size; simp at this; omega
  have hS := bthen (below1 _ _) hb3
  have hz3 := hS.size
  replace K0 := hide (boxKeep hS hs0 K0.out)
  replace hs0 := Nat.lt_of_lt_of_le hs0 hz3
  replace K1 := hide (boxKeep hS hs1 K1.out)
  replace hs1 := Nat.lt_of_lt_of_le hs1 hz3
  replace HC := hide (HC.out.below hS)
  replace HT1 := hide (HT1.out.below hS)
  replace HA := hide (HA.out.below hS)
  replace HB := hide (bthen HB.out hS)
  clear hb3 hS
  obtain ⟨⟨x0, x1, x2, x3, x4, x5, x6, x7, x8, x9⟩, _⟩ := box10 K1.out
  -- Stop
  go_wp2_with fail
  refine (tStop_any _ t h _ (HC.out.below (below1 _ _)) r1 r2).mono ?_
  rintro e w4 ⟨v4, rfl, hA, hb4⟩
  have HU := hide hA
  obtain ⟨f0, f1, f2, f3, f4, f5, rfl, _, _, _, _, _, _⟩ := hA
  clear x0 x1 x2 x3 x4 x5 x6 x7 x8 x9
  have K3 := hide (one1 hb4)
  have hs3 : w3.heap.size < w4.heap.size := by have := hb4.size; simp at this; omega
  have hS := bthen (below1 _ _) hb4
  have hz4 := hS.size
  replace K0 := hide (boxKeep hS hs0 K0.out)
  replace hs0 := Nat.lt_of_lt_of_le hs0 hz4
  replace K1 := hide (boxKeep hS hs1 K1.out)
  replace hs1 := Nat.lt_of_lt_of_le hs1 hz4
  replace K2 := hide (boxKeep hS hs2 K2.out)
  replace hs2 := Nat.lt_of_lt_of_le hs2 hz4
  replace HC := hide (HC.out.below hS)
  replace HT1 := hide (HT1.out.below hS)
  replace HA := hide (HA.out.below hS)
  replace HA' := hide (HA'.out.below hS)
  replace HB := hide (bthen HB.out hS)
  clear hb4 hS
  obtain ⟨⟨x0, x1, x2, x3, x4, x5, x6, x7, x8, x9⟩, _⟩ := box10 K0.out
  -- StopTxn
  go_wp2_with fail
  refine (stopTxn_any _ t h _ (HT1.out.below (below1 _ _)) r1 r2).mono ?_
  rintro e w5 ⟨v5, rfl, hA, hb5⟩
  have HU' := hide hA
  obtain ⟨g0, g1, g2, g3, g4, g5, rfl, _, _, _, _, _, _⟩ := hA
  generalize stopE t h = se
  generalize stopT t h = ts at *
  clear x0 x1 x2 x3 x4 x5 x6 x7 x8 x9
  have K4 := hide (one1 hb5)
  have hs4 : w4.heap.size < w5.heap.size := by have := hb5.size; simp at this; omega
  have hS := bthen (below1 _ _) hb5
  have hz5 := hS.size
  replace K0 := hide (boxKeep hS hs0 K0.out)
  replace hs0 := Nat.lt_of_lt_of_le hs0 hz5
  replace K1 := hide (boxKeep hS hs1 K1.out)
  replace hs1 := Nat.lt_of_lt_of_le hs1 hz5
  replace K2 := hide (boxKeep hS hs2 K2.out)
  replace hs2 := Nat.lt_of_lt_of_le hs2 hz5
  replace K3 := hide (boxKeep hS hs3 K3.out)
  replace hs3 := Nat.lt_of_lt_of_le hs3 hz5
  replace HC := hide (HC.out.below hS)
  replace HT1 := hide (HT1.out.below hS)
  replace HA := hide (HA.out.below hS)
  replace HA' := hide (HA'.out.below hS)
  replace HU := hide (HU.out.below hS)
  replace HB := hide (bthen HB.out hS)
  clear hb5 hS
  -- SameTxn of the two beginnings
  obtain ⟨⟨x0, x1, x2, x3, x4, x5, x6, x7, x8, x9⟩, _⟩ := box10 K2.out
  obtain ⟨⟨y0, y1, y2, y3, y4, y5, y6, y7, y8, y9⟩, _⟩ := box10 K3.out
  go_wp2_with fail
  refine (sameTxn_any _ _ tb _ (HA.out.below (below1 _ _)) (HA'.out.below (below1 _ _))).mono ?_
  rintro e w6 ⟨rfl, hb6⟩
  clear x0 x1 x2 x3 x4 x5 x6 x7 x8 x9 y0 y1 y2 y3 y4 y5 y6 y7 y8 y9
  have K5 := hide (one1 hb6)
  have hs5 : w5.heap.size < w6.heap.size := by have := hb6.size; simp at this; omega
  have hS := bthen (below1 _ _) hb6
  have hz6 := hS.size
  replace K0 := hide (boxKeep hS hs0 K0.out)
  replace hs0 := Nat.lt_of_lt_of_le hs0 hz6
  replace K1 := hide (boxKeep hS hs1 K1.out)
  replace hs1 := Nat.lt_of_lt_of_le hs1 hz6
  replace K2 := hide (boxKeep hS hs2 K2.out)
  replace hs2 := Nat.lt_of_lt_of_le hs2 hz6
  replace K3 := hide (boxKeep hS hs3 K3.out)
  replace hs3 := Nat.lt_of_lt_of_le hs3 hz6
  replace K4 := hide (boxKeep hS hs4 K4.out)
  replace hs4 := Nat.lt_of_lt_of_le hs4 hz6
  replace HC := hide (HC.out.below hS)
  replace HT1 := hide (HT1.out.below hS)
  replace HU := hide (HU.out.below hS)
  replace HU' := hide (HU'.out.below hS)
  replace HB := hide (bthen HB.out hS)
  clear hb6 hS
  -- SameTxn of the two stops
  obtain ⟨⟨x0, x1, x2, x3, x4, x5, x6, x7, x8, x9⟩, _⟩ := box10 K4.out
  obtain ⟨⟨y0, y1, y2, y3, y4, y5, y6, y7, y8, y9⟩, _⟩ := box10 K5.out
  go_wp2_with fail
  refine (sameTxn_any _ _ ts _ HU.out HU'.out).mono ?_
  rintro e w7 ⟨rfl, hb7⟩
  clear x0 x1 x2 x3 x4 x5 x6 x7 x8 x9 y0 y1 y2 y3 y4 y5 y6 y7 y8 y9
  replace K0 := hide (boxKeep hb7 hs0 K0.out)
  replace K1 := hide (boxKeep hb7 hs1 K1.out)
  replace hs0 := Nat.lt_of_lt_of_le hs0 hb7.size
  replace hs1 := Nat.lt_of_lt_of_le hs1 hb7.size
  replace HC := hide (HC.out.below hb7)
  replace HT1 := hide (HT1.out.below hb7)
  replace HB := hide (bthen HB.out hb7)
  clear hb7 K2 K3 K4 K5 hs2 hs3 hs4 hs5 HA HA' HU HU'
  -- SameTxn of the copy
  obtain ⟨⟨x0, x1, x2, x3, x4, x5, x6, x7, x8, x9⟩, _⟩ := box10 K1.out
  obtain ⟨⟨y0, y1, y2, y3, y4, y5, y6, y7, y8, y9⟩, _⟩ := box10 K0.out
  go_wp2_with fail
  refine (sameTxn_any _ _ t _ HC.out HT1.out).mono ?_
  rintro e w8 ⟨rfl, hb8⟩
  clear x0 x1 x2 x3 x4 x5 x6 x7 x8 x9 y0 y1 y2 y3 y4 y5 y6 y7 y8 y9
  replace K0 := hide (boxKeep hb8 hs0 K0.out)
  replace K1 := hide (boxKeep hb8 hs1 K1.out)
  replace hs0 := Nat.lt_of_lt_of_le hs0 hb8.size
  replace hs1 := Nat.lt_of_lt_of_le hs1 hb8.size
  replace HC := hide (HC.out.below hb8)
  replace HT1 := hide (HT1.out.below hb8)
  replace HB := hide (bthen HB.out hb8)
  clear hb8
  go_wp2
  have HALL : Hid (∀ w', Below w8.heap.size w8 w' → Hid (Below w8.heap.size w8 w') ∧ w'.cell? ⟨w.heap.size, 0, none⟩ = some (.int .i64 t.seq) ∧ w'.cell? ⟨w.heap.size, 1, none⟩ = some (.slice a0 t.info.length a1) ∧ w'.cell? ⟨w.heap.size, 2, none⟩ = some (.slice a2 t.data.length a3) ∧ w'.cell? ⟨w.heap.size, 3, none⟩ = some (.slice a4 t.rev.length a5) ∧ w'.cell? ⟨w.heap.size, 4, none⟩ = some (.bool t.h0.on) ∧ w'.cell? ⟨w.heap.size, 5, none⟩ = some (.int .i64 t.h0.left) ∧ w'.cell? ⟨w.heap.size, 6, none⟩ = some (.bool t.h1.on) ∧ w'.cell? ⟨w.heap.size, 7, none⟩ = some (.int .i64 t.h1.left) ∧ w'.cell? ⟨w.heap.size, 8, none⟩ = some (.bool t.h2.on) ∧ w'.cell? ⟨w.heap.size, 9, none⟩ = some (.int .i64 t.h2.left) ∧ w'.cell? ⟨w1.heap.size, 0, none⟩ = some (.int .i64 t.seq) ∧ w'.cell? ⟨w1.heap.size, 1, none⟩ = some (.slice b0 t.info.length b1) ∧ w'.cell? ⟨w1.heap.size, 2, none⟩ = some (.slice b2 t.data.length b3) ∧ w'.cell? ⟨w1.heap.size, 3, none⟩ = some (.slice b4 t.rev.length b5) ∧ w'.cell? ⟨w1.heap.size, 4, none⟩ = some (.bool t.h0.on) ∧ w'.cell? ⟨w1.heap.size, 5, none⟩ = some (.int .i64 t.h0.left) ∧ w'.cell? ⟨w1.heap.size, 6, none⟩ = some (.bool t.h1.on) ∧ w'.cell? ⟨w1.heap.size, 7, none⟩ = some (.int .i64 t.h1.left) ∧ w'.cell? ⟨w1.heap.size, 8, none⟩ = some (.bool t.h2.on) ∧ w'.cell? ⟨w1.heap.size, 9, none⟩ = some (.int .i64 t.h2.left)) := by
    intro w' hb
    obtain ⟨⟨x0, x1, x2, x3, x4, x5, x6, x7, x8, x9⟩, _⟩ := box10 (boxKeep hb hs0 K0.out)
    obtain ⟨⟨y0, y1, y2, y3, y4, y5, y6, y7, y8, y9⟩, _⟩ := box10 (boxKeep hb hs1 K1.out)
    exact ⟨hb, x0, x1, x2, x3, x4, x5, x6, x7, x8, x9, y0, y1, y2, y3, y4, y5, y6, y7, y8, y9⟩
  go_region_held3 (fun w' => Hid (Below w8.heap.size w8 w') ∧ w'.cell? ⟨w.heap.size, 0, none⟩ = some (.int .i64 t.seq) ∧ w'.cell? ⟨w.heap.size, 1, none⟩ = some (.slice a0 t.info.length a1) ∧ w'.cell? ⟨w.heap.size, 2, none⟩ = some (.slice a2 t.data.length a3) ∧ w'.cell? ⟨w.heap.size, 3, none⟩ = some (.slice a4 t.rev.length a5) ∧ w'.cell? ⟨w.heap.size, 4, none⟩ = some (.bool t.h0.on) ∧ w'.cell? ⟨w.heap.size, 5, none⟩ = some (.int .i64 t.h0.left) ∧ w'.cell? ⟨w.heap.size, 6, none⟩ = some (.bool t.h1.on) ∧ w'.cell? ⟨w.heap.size, 7, none⟩ = some (.int .i64 t.h1.left) ∧ w'.cell? ⟨w.heap.size, 8, none⟩ = some (.bool t.h2.on) ∧ w'.cell? ⟨w.heap.size, 9, none⟩ = some (.int .i64 t.h2.left) ∧ w'.cell? ⟨w1.heap.size, 0, none⟩ = some (.int .i64 t.seq) ∧ w'.cell? ⟨w1.heap.size, 1, none⟩ = some (.slice b0 t.info.length b1) ∧ w'.cell? ⟨w1.heap.size, 2, none⟩ = some (.slice b2 t.data.length b3) ∧ w'.cell? ⟨w1.heap.size, 3, none⟩ = some (.slice b4 t.rev.length b5) ∧ w'.cell? ⟨w1.heap.size, 4, none⟩ = some (.bool t.h0.on) ∧ w'.cell? ⟨w1.heap.size, 5, none⟩ = some (.int .i64 t.h0.left) ∧ w'.cell? ⟨w1.heap.size, 6, none⟩ = some (.bool t.h1.on) ∧ w'.cell? ⟨w1.heap.size, 7, none⟩ = some (.int .i64 t.h1.left) ∧ w'.cell? ⟨w1.heap.size, 8, none⟩ = some (.bool t.h2.on) ∧ w'.cell? ⟨w1.heap.size, 9, none⟩ = some (.int .i64 t.h2.left))
    (first | exact HALL.out _ ((Below.refl _ _).drew) | (refine HALL.out _ ?_; assumption))
    (first
      | (go_at_call 22; (have hnow := (‹Hid (Below w8.heap.size w8 _) ∧ _›).1); have HNOW := hide hnow.out; refine (tGood_any _ t _ (HC.out.below hnow.out) r1 r2).mono ?_; clear hnow; rintro e w10 ⟨rfl, hb10⟩; have hbN := bthen HNOW.out hb10; clear hb10 HNOW)
      | (go_at_call 23; (have hnow := (‹Hid (Below w8.heap.size w8 _) ∧ _›).1); have HNOW := hide hnow.out; refine (goodTxn_any _ t _ (HT1.out.below hnow.out) r1 r2).mono ?_; clear hnow; rintro e w10 ⟨rfl, hb10⟩; have hbN := bthen HNOW.out hb10; clear hb10 HNOW)
      | (go_at_call 24; (have hnow := (‹Hid (Below w8.heap.size w8 _) ∧ _›).1); have HNOW := hide hnow.out; refine (tAsked_any _ t _ (HC.out.below hnow.out)).mono ?_; clear hnow; rintro e w10 ⟨rfl, hb10⟩; have hbN := bthen HNOW.out hb10; clear hb10 HNOW)
      | (go_at_call 25; (have hnow := (‹Hid (Below w8.heap.size w8 _) ∧ _›).1); have HNOW := hide hnow.out; refine (askedOf_any _ t _ (HT1.out.below hnow.out)).mono ?_; clear hnow; rintro e w10 ⟨rfl, hb10⟩; have hbN := bthen HNOW.out hb10; clear hb10 HNOW)
      | (go_at_call 26; (have hnow := (‹Hid (Below w8.heap.size w8 _) ∧ _›).1); have HNOW := hide hnow.out; refine (tOpen_any _ t _ (HC.out.below hnow.out)).mono ?_; clear hnow; rintro e w10 ⟨rfl, hb10⟩; have hbN := bthen HNOW.out hb10; clear hb10 HNOW)
      | (go_at_call 27; (have hnow := (‹Hid (Below w8.heap.size w8 _) ∧ _›).1); have HNOW := hide hnow.out; refine (openOf_any _ t _ (HT1.out.below hnow.out)).mono ?_; clear hnow; rintro e w10 ⟨rfl, hb10⟩; have hbN := bthen HNOW.out hb10; clear hb10 HNOW)
      | (go_at_call 28; (have hnow := (‹Hid (Below w8.heap.size w8 _) ∧ _›).1); have HNOW := hide hnow.out; refine (namesL_any _).mono ?_; clear hnow; rintro e w10 ⟨rfl, hb10⟩; have hbN := bthen HNOW.out hb10; clear hb10 HNOW))
  go_wp2
  go_ret
  refine ⟨rfl, bthen HB.out ?_⟩
  assumption

end Go.Proofs.Ytjnpndfpajjihab
