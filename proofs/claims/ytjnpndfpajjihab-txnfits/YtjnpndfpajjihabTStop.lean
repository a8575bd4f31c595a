/-
  The walk of package txn's Stop.
-/
import Derived.Test.YtjnpndfpajjihabTOwn
import Derived.Test.YtjnpndfpajjihabTBegin
namespace Go.Proofs.Ytjnpndfpajjihab
open Go.RowKit

set_option maxHeartbeats 2000000 in
set_option maxRecDepth 100000 in
theorem tStop_bad (v : Value) (t : Tx) (h : Int) (w : World) (hT : IsTx w v t) (r1 : t.info.length * 24 ≤ 140737488355328) (r2 : t.data.length * 24 ≤ 140737488355328) (hg : goodX t = false) :
    Calls Try.prog 19 #[v, .int .i64 h] w fun e w' => ∃ v2, e = .returned (.tuple #[v2, .int .i64 (stopE t h)]) ∧ IsTx w' v2 (stopT t h) ∧ Below w.heap.size w w' ∧ (v2 = v ∨ RowsFromR w.heap.size v2 (stopT t h)) := by
  have HT := hide hT
  obtain ⟨a, c, a', c', r, d, rfl, hM, hD, hR, n1, n2, n3⟩ := hT
  have N1 := hide n1
  have N2 := hide n2
  have N3 := hide n3
  clear hM hD hR n1 n2 n3
  go_enter Try.func19, Try.ntmps19
  go_wp2_with fail
  refine (tGood_any _ t _ (HT.out.below (bthen (below1 _ _) (below1 _ _))) r1 r2).mono ?_
  rintro e w1 ⟨rfl, hb1⟩
  have hs1 : w.heap.size + 1 < w1.heap.size := by have := hb1.size; simp at this; omega
  have hs1' : w.heap.size < w1.heap.size := by omega
  have K1 := hide (two1 hb1)
  have K2 := hide (two2 hb1)
  obtain ⟨⟨x0, x1, x2, x3, x4, x5, x6, x7, x8, x9⟩, _⟩ := box10 K1.out
  obtain ⟨⟨y0, y1, y2, y3, y4, y5, y6, y7, y8, y9⟩, ff⟩ := box10 K2.out
  have HB1 := hide (bthen (bthen (below1 _ _) (below1 _ _)) hb1)
  clear hb1
  have HE : Hid (stopE t h = 2) := by rw [Hid, stopE, if_pos hg]
  have HTT : Hid (stopT t h = t) := by rw [Hid, stopT, HE.out]; rfl
  go_wp2
  refine bodyPost_ret (v := .tuple #[.agg #[.int .i64 t.seq, .slice a t.info.length c, .slice a' t.data.length c', .slice r t.rev.length d, .bool t.h0.on, .int .i64 t.h0.left, .bool t.h1.on, .int .i64 t.h1.left, .bool t.h2.on, .int .i64 t.h2.left], .int .i64 2]) (by simp [results, Try.results19, go_sem, y0, y1, y2, y3, y4, y5, y6, y7, y8, y9]) rfl ⟨_, by rw [HE.out], ?_⟩
  refine ⟨?_, ?_, .inl rfl⟩
  · rw [HTT.out]
    refine HT.out.below ?_
    repeat refine Below.setCell ?_ (by simp) _
    exact HB1.out
  · repeat refine Below.setCell ?_ (by simp) _
    exact HB1.out

set_option maxHeartbeats 2000000 in
set_option maxRecDepth 100000 in
theorem tStop_none (v : Value) (t : Tx) (h : Int) (w : World) (hT : IsTx w v t) (r1 : t.info.length * 24 ≤ 140737488355328) (r2 : t.data.length * 24 ≤ 140737488355328) (hg : goodX t = true) (ho : onB t h = false) :
    Calls Try.prog 19 #[v, .int .i64 h] w fun e w' => ∃ v2, e = .returned (.tuple #[v2, .int .i64 (stopE t h)]) ∧ IsTx w' v2 (stopT t h) ∧ Below w.heap.size w w' ∧ (v2 = v ∨ RowsFromR w.heap.size v2 (stopT t h)) := by
  have HT := hide hT
  obtain ⟨a, c, a', c', r, d, rfl, hM, hD, hR, n1, n2, n3⟩ := hT
  have N1 := hide n1
  have N2 := hide n2
  have N3 := hide n3
  clear hM hD hR n1 n2 n3
  go_enter Try.func19, Try.ntmps19
  go_wp2_with fail
  refine (tGood_any _ t _ (HT.out.below (bthen (below1 _ _) (below1 _ _))) r1 r2).mono ?_
  rintro e w1 ⟨rfl, hb1⟩
  have hs1 : w.heap.size + 1 < w1.heap.size := by have := hb1.size; simp at this; omega
  have hs1' : w.heap.size < w1.heap.size := by omega
  have K1 := hide (two1 hb1)
  have K2 := hide (two2 hb1)
  obtain ⟨⟨x0, x1, x2, x3, x4, x5, x6, x7, x8, x9⟩, _⟩ := box10 K1.out
  obtain ⟨⟨y0, y1, y2, y3, y4, y5, y6, y7, y8, y9⟩, ff⟩ := box10 K2.out
  have HB1 := hide (bthen (bthen (below1 _ _) (below1 _ _)) hb1)
  clear hb1
  have HE : Hid (stopE t h = 4) := by
    rw [Hid, stopE, if_neg (by rw [hg]; simp), if_pos]
    by_cases e : 0 ≤ h ∧ h ≤ 2
    · rw [onB, withinB_iff.2 e, Bool.true_and] at ho
      exact .inr (.inr ho)
    · omega
  have HTT : Hid (stopT t h = t) := by rw [Hid, stopT, HE.out]; rfl
  go_wp2_with fail
  refine (isOn_any _ t h _ (HT.out.below HB1.out)).mono ?_
  rintro e w2 ⟨rfl, hb2⟩
  have hs2 : w.heap.size + 1 < w2.heap.size := by have := hb2.size; omega
  have hs2' : w.heap.size < w2.heap.size := by omega
  have K1' := hide (boxKeep hb2 hs1' K1.out)
  have K2' := hide (boxKeep hb2 hs1 K2.out)
  have HB2 := hide (bthen HB1.out hb2)
  clear x0 x1 x2 x3 x4 x5 x6 x7 x8 x9 y0 y1 y2 y3 y4 y5 y6 y7 y8 y9 ff hb2 K1 K2 HB1
  obtain ⟨⟨x0, x1, x2, x3, x4, x5, x6, x7, x8, x9⟩, _⟩ := box10 K1'.out
  obtain ⟨⟨y0, y1, y2, y3, y4, y5, y6, y7, y8, y9⟩, ff⟩ := box10 K2'.out
  go_wp2
  refine bodyPost_ret (v := .tuple #[.agg #[.int .i64 t.seq, .slice a t.info.length c, .slice a' t.data.length c', .slice r t.rev.length d, .bool t.h0.on, .int .i64 t.h0.left, .bool t.h1.on, .int .i64 t.h1.left, .bool t.h2.on, .int .i64 t.h2.left], .int .i64 4]) (by simp [results, Try.results19, go_sem, y0, y1, y2, y3, y4, y5, y6, y7, y8, y9]) rfl ⟨_, by rw [HE.out], ?_⟩
  refine ⟨?_, ?_, .inl rfl⟩
  · rw [HTT.out]
    refine HT.out.below ?_
    repeat refine Below.setCell ?_ (by simp) _
    exact HB2.out
  · repeat refine Below.setCell ?_ (by simp) _
    exact HB2.out

set_option maxHeartbeats 2000000 in
set_option maxRecDepth 100000 in
theorem tStop_ok0 (v : Value) (t : Tx) (w : World) (hT : IsTx w v t) (r1 : t.info.length * 24 ≤ 140737488355328) (r2 : t.data.length * 24 ≤ 140737488355328) (hg : goodX t = true) (ho : onB t 0 = true) :
    Calls Try.prog 19 #[v, .int .i64 0] w fun e w' => ∃ v2, e = .returned (.tuple #[v2, .int .i64 (stopE t 0)]) ∧ IsTx w' v2 (stopT t 0) ∧ Below w.heap.size w w' ∧ (v2 = v ∨ RowsFromR w.heap.size v2 (stopT t 0)) := by
  have hsm := good_small hg
  have HT := hide hT
  obtain ⟨a, c, a', c', r, d, rfl, hM, hD, hR, n1, n2, n3⟩ := hT
  have N1 := hide n1
  have N2 := hide n2
  have N3 := hide n3
  clear hM hD hR n1 n2 n3
  go_enter Try.func19, Try.ntmps19
  go_wp2_with fail
  refine (tGood_any _ t _ (HT.out.below (bthen (below1 _ _) (below1 _ _))) r1 r2).mono ?_
  rintro e w1 ⟨rfl, hb1⟩
  have hs1 : w.heap.size + 1 < w1.heap.size := by have := hb1.size; simp at this; omega
  have hs1' : w.heap.size < w1.heap.size := by omega
  have K1 := hide (two1 hb1)
  have K2 := hide (two2 hb1)
  obtain ⟨⟨x0, x1, x2, x3, x4, x5, x6, x7, x8, x9⟩, _⟩ := box10 K1.out
  obtain ⟨⟨y0, y1, y2, y3, y4, y5, y6, y7, y8, y9⟩, ff⟩ := box10 K2.out
  have HB1 := hide (bthen (bthen (below1 _ _) (below1 _ _)) hb1)
  clear hb1
  have HE : Hid (stopE t 0 = 0) := by
    rw [Hid, stopE, if_neg (by rw [hg]; simp), if_neg]
    have : (hdAt t 0).on = true := ho
    rw [this]; simp
  have HTT : Hid (stopT t 0 = { t with h0 := ⟨false, 0⟩ }) := by rw [Hid, stopT, HE.out]; rfl
  go_wp2_with fail
  refine (isOn_any _ t 0 _ (HT.out.below HB1.out)).mono ?_
  rintro e w2 ⟨rfl, hb2⟩
  have hs2 : w.heap.size + 1 < w2.heap.size := by have := hb2.size; omega
  have hs2' : w.heap.size < w2.heap.size := by omega
  have K1' := hide (boxKeep hb2 hs1' K1.out)
  have K2' := hide (boxKeep hb2 hs1 K2.out)
  have HB2 := hide (bthen HB1.out hb2)
  clear x0 x1 x2 x3 x4 x5 x6 x7 x8 x9 y0 y1 y2 y3 y4 y5 y6 y7 y8 y9 ff hb2 K1 K2 HB1
  obtain ⟨⟨x0, x1, x2, x3, x4, x5, x6, x7, x8, x9⟩, _⟩ := box10 K1'.out
  obtain ⟨⟨y0, y1, y2, y3, y4, y5, y6, y7, y8, y9⟩, ff⟩ := box10 K2'.out
  go_wp2_with fail
  refine (fresh_any _ t _ (HT.out.below HB2.out) (by omega) (by omega) (by omega)).mono ?_
  rintro e w4 ⟨va, vd, vr, rfl, hbx, hb4⟩
  obtain ⟨a1, c1, rfl, _, _⟩ := SegC.of_owns hbx.2.1
  obtain ⟨a2, c2, rfl, _, _⟩ := SegC.of_owns hbx.2.2.1
  obtain ⟨a3, c3, rfl, _, _⟩ := SegI.of_owns hbx.2.2.2
  have BX := hide hbx
  have hs4 := hbx.lt
  have HB4 := hide (bthen HB2.out hb4)
  have K2'' := hide (boxKeep hb4 hs2 K2'.out)
  clear x0 x1 x2 x3 x4 x5 x6 x7 x8 x9 y0 y1 y2 y3 y4 y5 y6 y7 y8 y9 ff hb4 hbx HB2
  obtain ⟨⟨y0, y1, y2, y3, y4, y5, y6, y7, y8, y9⟩, ff⟩ := box10 K2''.out
  obtain ⟨⟨z0, z1, z2, z3, z4, z5, z6, z7, z8, z9⟩, gf⟩ := box10 BX.out.1
  have HX : Hid (BoxTx ((w4.setCell ⟨w2.heap.size, 4, none⟩ (.bool false)).setCell ⟨w2.heap.size, 5, none⟩ (.int .i64 0)) w2.heap.size { t with h0 := ⟨false, 0⟩ } (.slice a1 t.info.length c1) (.slice a2 t.data.length c2) (.slice a3 t.rev.length c3)) := (BX.out.set (t' := { t with h0 := ⟨false, t.h0.left⟩ }) 4 (.bool false) rfl BX.out.2.1 BX.out.2.2.1 BX.out.2.2.2).set (t' := { t with h0 := ⟨false, 0⟩ }) 5 (.int .i64 0) rfl (ownsRow_setCell_below BX.out.2.1 (by simp) _) (ownsRow_setCell_below BX.out.2.2.1 (by simp) _) (ownsRow_setCell_below BX.out.2.2.2 (by simp) _)
  go_wp2
  refine bodyPost_ret (v := .tuple #[.agg #[.int .i64 t.seq, .slice a1 t.info.length c1, .slice a2 t.data.length c2, .slice a3 t.rev.length c3, .bool false, .int .i64 0, .bool t.h1.on, .int .i64 t.h1.left, .bool t.h2.on, .int .i64 t.h2.left], .int .i64 0]) (by simp [results, Try.results19, go_sem, y0, y1, y2, y3, y4, y5, y6, y7, y8, y9]) rfl ⟨_, by rw [HE.out], ?_⟩
  rw [HTT.out]
  refine ⟨?_, ?_, .inr (HX.out.fromR (t := { t with h0 := ⟨false, 0⟩ }) (by omega))⟩
  · refine BoxTx.is (t := { t with h0 := ⟨false, 0⟩ }) (B := w2.heap.size) ?_ N1.out N2.out N3.out
    repeat refine BoxTx.other ?_ (by simp; omega) _
    exact HX.out
  · repeat refine Below.setCell ?_ (by simp; try omega) _
    exact HB4.out

set_option maxHeartbeats 2000000 in
set_option maxRecDepth 100000 in
theorem tStop_ok1 (v : Value) (t : Tx) (w : World) (hT : IsTx w v t) (r1 : t.info.length * 24 ≤ 140737488355328) (r2 : t.data.length * 24 ≤ 140737488355328) (hg : goodX t = true) (ho : onB t 1 = true) :
    Calls Try.prog 19 #[v, .int .i64 1] w fun e w' => ∃ v2, e = .returned (.tuple #[v2, .int .i64 (stopE t 1)]) ∧ IsTx w' v2 (stopT t 1) ∧ Below w.heap.size w w' ∧ (v2 = v ∨ RowsFromR w.heap.size v2 (stopT t 1)) := by
  have hsm := good_small hg
  have HT := hide hT
  obtain ⟨a, c, a', c', r, d, rfl, hM, hD, hR, n1, n2, n3⟩ := hT
  have N1 := hide n1
  have N2 := hide n2
  have N3 := hide n3
  clear hM hD hR n1 n2 n3
  go_enter Try.func19, Try.ntmps19
  go_wp2_with fail
  refine (tGood_any _ t _ (HT.out.below (bthen (below1 _ _) (below1 _ _))) r1 r2).mono ?_
  rintro e w1 ⟨rfl, hb1⟩
  have hs1 : w.heap.size + 1 < w1.heap.size := by have := hb1.size; simp at this; omega
  have hs1' : w.heap.size < w1.heap.size := by omega
  have K1 := hide (two1 hb1)
  have K2 := hide (two2 hb1)
  obtain ⟨⟨x0, x1, x2, x3, x4, x5, x6, x7, x8, x9⟩, _⟩ := box10 K1.out
  obtain ⟨⟨y0, y1, y2, y3, y4, y5, y6, y7, y8, y9⟩, ff⟩ := box10 K2.out
  have HB1 := hide (bthen (bthen (below1 _ _) (below1 _ _)) hb1)
  clear hb1
  have HE : Hid (stopE t 1 = 0) := by
    rw [Hid, stopE, if_neg (by rw [hg]; simp), if_neg]
    have : (hdAt t 1).on = true := ho
    rw [this]; simp
  have HTT : Hid (stopT t 1 = { t with h1 := ⟨false, 0⟩ }) := by rw [Hid, stopT, HE.out]; rfl
  go_wp2_with fail
  refine (isOn_any _ t 1 _ (HT.out.below HB1.out)).mono ?_
  rintro e w2 ⟨rfl, hb2⟩
  have hs2 : w.heap.size + 1 < w2.heap.size := by have := hb2.size; omega
  have hs2' : w.heap.size < w2.heap.size := by omega
  have K1' := hide (boxKeep hb2 hs1' K1.out)
  have K2' := hide (boxKeep hb2 hs1 K2.out)
  have HB2 := hide (bthen HB1.out hb2)
  clear x0 x1 x2 x3 x4 x5 x6 x7 x8 x9 y0 y1 y2 y3 y4 y5 y6 y7 y8 y9 ff hb2 K1 K2 HB1
  obtain ⟨⟨x0, x1, x2, x3, x4, x5, x6, x7, x8, x9⟩, _⟩ := box10 K1'.out
  obtain ⟨⟨y0, y1, y2, y3, y4, y5, y6, y7, y8, y9⟩, ff⟩ := box10 K2'.out
  go_wp2_with fail
  refine (fresh_any _ t _ (HT.out.below HB2.out) (by omega) (by omega) (by omega)).mono ?_
  rintro e w4 ⟨va, vd, vr, rfl, hbx, hb4⟩
  obtain ⟨a1, c1, rfl, _, _⟩ := SegC.of_owns hbx.2.1
  obtain ⟨a2, c2, rfl, _, _⟩ := SegC.of_owns hbx.2.2.1
  obtain ⟨a3, c3, rfl, _, _⟩ := SegI.of_owns hbx.2.2.2
  have BX := hide hbx
  have hs4 := hbx.lt
  have HB4 := hide (bthen HB2.out hb4)
  have K2'' := hide (boxKeep hb4 hs2 K2'.out)
  clear x0 x1 x2 x3 x4 x5 x6 x7 x8 x9 y0 y1 y2 y3 y4 y5 y6 y7 y8 y9 ff hb4 hbx HB2
  obtain ⟨⟨y0, y1, y2, y3, y4, y5, y6, y7, y8, y9⟩, ff⟩ := box10 K2''.out
  obtain ⟨⟨z0, z1, z2, z3, z4, z5, z6, z7, z8, z9⟩, gf⟩ := box10 BX.out.1
  have HX : Hid (BoxTx ((w4.setCell ⟨w2.heap.size, 6, none⟩ (.bool false)).setCell ⟨w2.heap.size, 7, none⟩ (.int .i64 0)) w2.heap.size { t with h1 := ⟨false, 0⟩ } (.slice a1 t.info.length c1) (.slice a2 t.data.length c2) (.slice a3 t.rev.length c3)) := (BX.out.set (t' := { t with h1 := ⟨false, t.h1.left⟩ }) 6 (.bool false) rfl BX.out.2.1 BX.out.2.2.1 BX.out.2.2.2).set (t' := { t with h1 := ⟨false, 0⟩ }) 7 (.int .i64 0) rfl (ownsRow_setCell_below BX.out.2.1 (by simp) _) (ownsRow_setCell_below BX.out.2.2.1 (by simp) _) (ownsRow_setCell_below BX.out.2.2.2 (by simp) _)
  go_wp2
  refine bodyPost_ret (v := .tuple #[.agg #[.int .i64 t.seq, .slice a1 t.info.length c1, .slice a2 t.data.length c2, .slice a3 t.rev.length c3, .bool t.h0.on, .int .i64 t.h0.left, .bool false, .int .i64 0, .bool t.h2.on, .int .i64 t.h2.left], .int .i64 0]) (by simp [results, Try.results19, go_sem, y0, y1, y2, y3, y4, y5, y6, y7, y8, y9]) rfl ⟨_, by rw [HE.out], ?_⟩
  rw [HTT.out]
  refine ⟨?_, ?_, .inr (HX.out.fromR (t := { t with h1 := ⟨false, 0⟩ }) (by omega))⟩
  · refine BoxTx.is (t := { t with h1 := ⟨false, 0⟩ }) (B := w2.heap.size) ?_ N1.out N2.out N3.out
    repeat refine BoxTx.other ?_ (by simp; omega) _
    exact HX.out
  · repeat refine Below.setCell ?_ (by simp; try omega) _
    exact HB4.out

set_option maxHeartbeats 2000000 in
set_option maxRecDepth 100000 in
theorem tStop_ok2 (v : Value) (t : Tx) (w : World) (hT : IsTx w v t) (r1 : t.info.length * 24 ≤ 140737488355328) (r2 : t.data.length * 24 ≤ 140737488355328) (hg : goodX t = true) (ho : onB t 2 = true) :
    Calls Try.prog 19 #[v, .int .i64 2] w fun e w' => ∃ v2, e = .returned (.tuple #[v2, .int .i64 (stopE t 2)]) ∧ IsTx w' v2 (stopT t 2) ∧ Below w.heap.size w w' ∧ (v2 = v ∨ RowsFromR w.heap.size v2 (stopT t 2)) := by
  have hsm := good_small hg
  have HT := hide hT
  obtain ⟨a, c, a', c', r, d, rfl, hM, hD, hR, n1, n2, n3⟩ := hT
  have N1 := hide n1
  have N2 := hide n2
  have N3 := hide n3
  clear hM hD hR n1 n2 n3
  go_enter Try.func19, Try.ntmps19
  go_wp2_with fail
  refine (tGood_any _ t _ (HT.out.below (bthen (below1 _ _) (below1 _ _))) r1 r2).mono ?_
  rintro e w1 ⟨rfl, hb1⟩
  have hs1 : w.heap.size + 1 < w1.heap.size := by have := hb1.size; simp at this; omega
  have hs1' : w.heap.size < w1.heap.size := by omega
  have K1 := hide (two1 hb1)
  have K2 := hide (two2 hb1)
  obtain ⟨⟨x0, x1, x2, x3, x4, x5, x6, x7, x8, x9⟩, _⟩ := box10 K1.out
  obtain ⟨⟨y0, y1, y2, y3, y4, y5, y6, y7, y8, y9⟩, ff⟩ := box10 K2.out
  have HB1 := hide (bthen (bthen (below1 _ _) (below1 _ _)) hb1)
  clear hb1
  have HE : Hid (stopE t 2 = 0) := by
    rw [Hid, stopE, if_neg (by rw [hg]; simp), if_neg]
    have : (hdAt t 2).on = true := ho
    rw [this]; simp
  have HTT : Hid (stopT t 2 = { t with h2 := ⟨false, 0⟩ }) := by rw [Hid, stopT, HE.out]; rfl
  go_wp2_with fail
  refine (isOn_any _ t 2 _ (HT.out.below HB1.out)).mono ?_
  rintro e w2 ⟨rfl, hb2⟩
  have hs2 : w.heap.size + 1 < w2.heap.size := by have := hb2.size; omega
  have hs2' : w.heap.size < w2.heap.size := by omega
  have K1' := hide (boxKeep hb2 hs1' K1.out)
  have K2' := hide (boxKeep hb2 hs1 K2.out)
  have HB2 := hide (bthen HB1.out hb2)
  clear x0 x1 x2 x3 x4 x5 x6 x7 x8 x9 y0 y1 y2 y3 y4 y5 y6 y7 y8 y9 ff hb2 K1 K2 HB1
  obtain ⟨⟨x0, x1, x2, x3, x4, x5, x6, x7, x8, x9⟩, _⟩ := box10 K1'.out
  obtain ⟨⟨y0, y1, y2, y3, y4, y5, y6, y7, y8, y9⟩, ff⟩ := box10 K2'.out
  go_wp2_with fail
  refine (fresh_any _ t _ (HT.out.below HB2.out) (by omega) (by omega) (by omega)).mono ?_
  rintro e w4 ⟨va, vd, vr, rfl, hbx, hb4⟩
  obtain ⟨a1, c1, rfl, _, _⟩ := SegC.of_owns hbx.2.1
  obtain ⟨a2, c2, rfl, _, _⟩ := SegC.of_owns hbx.2.2.1
  obtain ⟨a3, c3, rfl, _, _⟩ := SegI.of_owns hbx.2.2.2
  have BX := hide hbx
  have hs4 := hbx.lt
  have HB4 := hide (bthen HB2.out hb4)
  have K2'' := hide (boxKeep hb4 hs2 K2'.out)
  clear x0 x1 x2 x3 x4 x5 x6 x7 x8 x9 y0 y1 y2 y3 y4 y5 y6 y7 y8 y9 ff hb4 hbx HB2
  obtain ⟨⟨y0, y1, y2, y3, y4, y5, y6, y7, y8, y9⟩, ff⟩ := box10 K2''.out
  obtain ⟨⟨z0, z1, z2, z3, z4, z5, z6, z7, z8, z9⟩, gf⟩ := box10 BX.out.1
  have HX : Hid (BoxTx ((w4.setCell ⟨w2.heap.size, 8, none⟩ (.bool false)).setCell ⟨w2.heap.size, 9, none⟩ (.int .i64 0)) w2.heap.size { t with h2 := ⟨false, 0⟩ } (.slice a1 t.info.length c1) (.slice a2 t.data.length c2) (.slice a3 t.rev.length c3)) := (BX.out.set (t' := { t with h2 := ⟨false, t.h2.left⟩ }) 8 (.bool false) rfl BX.out.2.1 BX.out.2.2.1 BX.out.2.2.2).set (t' := { t with h2 := ⟨false, 0⟩ }) 9 (.int .i64 0) rfl (ownsRow_setCell_below BX.out.2.1 (by simp) _) (ownsRow_setCell_below BX.out.2.2.1 (by simp) _) (ownsRow_setCell_below BX.out.2.2.2 (by simp) _)
  go_wp2
  refine bodyPost_ret (v := .tuple #[.agg #[.int .i64 t.seq, .slice a1 t.info.length c1, .slice a2 t.data.length c2, .slice a3 t.rev.length c3, .bool t.h0.on, .int .i64 t.h0.left, .bool t.h1.on, .int .i64 t.h1.left, .bool false, .int .i64 0], .int .i64 0]) (by simp [results, Try.results19, go_sem, y0, y1, y2, y3, y4, y5, y6, y7, y8, y9]) rfl ⟨_, by rw [HE.out], ?_⟩
  rw [HTT.out]
  refine ⟨?_, ?_, .inr (HX.out.fromR (t := { t with h2 := ⟨false, 0⟩ }) (by omega))⟩
  · refine BoxTx.is (t := { t with h2 := ⟨false, 0⟩ }) (B := w2.heap.size) ?_ N1.out N2.out N3.out
    repeat refine BoxTx.other ?_ (by simp; omega) _
    exact HX.out
  · repeat refine Below.setCell ?_ (by simp; try omega) _
    exact HB4.out

set_option maxHeartbeats 2000000 in
set_option maxRecDepth 100000 in
theorem tStop_room (v : Value) (t : Tx) (h : Int) (w : World) (hT : IsTx w v t) (r1 : t.info.length * 24 ≤ 140737488355328) (r2 : t.data.length * 24 ≤ 140737488355328) :
    Calls Try.prog 19 #[v, .int .i64 h] w fun e w' => ∃ v2, e = .returned (.tuple #[v2, .int .i64 (stopE t h)]) ∧ IsTx w' v2 (stopT t h) ∧ Below w.heap.size w w' ∧ (v2 = v ∨ RowsFromR w.heap.size v2 (stopT t h)) := by
  cases hg : goodX t with
  | false => exact tStop_bad v t h w hT r1 r2 hg
  | true =>
    cases ho : onB t h with
    | false => exact tStop_none v t h w hT r1 r2 hg ho
    | true =>
      have hw : withinB h 0 2 = true := by rw [onB] at ho; exact (Bool.and_eq_true _ _ ▸ ho : _ ∧ _).1
      have hr := withinB_iff.1 hw
      have hc : h = 0 ∨ h = 1 ∨ h = 2 := by omega
      rcases hc with rfl | rfl | rfl
      · exact tStop_ok0 v t w hT r1 r2 hg ho
      · exact tStop_ok1 v t w hT r1 r2 hg ho
      · exact tStop_ok2 v t w hT r1 r2 hg ho
theorem tStop_all (v : Value) (t : Tx) (h : Int) (w : World) (hT : IsTx w v t) (r1 : t.info.length * 24 ≤ 140737488355328) (r2 : t.data.length * 24 ≤ 140737488355328) :
    Calls Try.prog 19 #[v, .int .i64 h] w fun e w' => ∃ v2, e = .returned (.tuple #[v2, .int .i64 (stopE t h)]) ∧ IsTx w' v2 (stopT t h) ∧ Below w.heap.size w w' ∧ (v2 = v ∨ RowsFrom w.heap.size v2 (stopT t h)) :=
  (tStop_room v t h w hT r1 r2).mono fun _ _ ⟨v2, h1, h2, h3, h4⟩ => ⟨v2, h1, h2, h3, h4.imp id (·.1)⟩
theorem tStop_any (v : Value) (t : Tx) (h : Int) (w : World) (hT : IsTx w v t) (r1 : t.info.length * 24 ≤ 140737488355328) (r2 : t.data.length * 24 ≤ 140737488355328) :
    Calls Try.prog 19 #[v, .int .i64 h] w fun e w' => ∃ v2, e = .returned (.tuple #[v2, .int .i64 (stopE t h)]) ∧ IsTx w' v2 (stopT t h) ∧ Below w.heap.size w w' :=
  (tStop_all v t h w hT r1 r2).mono fun _ _ ⟨v2, h1, h2, h3, _⟩ => ⟨v2, h1, h2, h3⟩

end Go.Proofs.Ytjnpndfpajjihab
