/-
  The walk of package txn's Begin.
-/
import Derived.Test.YtjnpndfpajjihabTFrom
import Derived.Test.YtjnpndfpajjihabTOwn
import Derived.Test.YtjnpndfpajjihabTReach
namespace Go.Proofs.Ytjnpndfpajjihab
open Go.RowKit



set_option maxHeartbeats 2000000 in
set_option maxRecDepth 100000 in
theorem tBegin_bad (v : Value) (t : Tx) (h n free : Int) (w : World) (hT : IsTx w v t) (r1 : t.info.length * 24 ≤ 140737488355328) (r2 : t.data.length * 24 ≤ 140737488355328) (hg : goodX t = false) :
    Calls Try.prog 17 #[v, .int .i64 h, .int .i64 n, .int .i64 free] w fun e w' => ∃ v2, e = .returned (.tuple #[v2, .int .i64 (beginE t h n free)]) ∧ IsTx w' v2 (beginT t h n free) ∧ Below w.heap.size w w' ∧ (v2 = v ∨ RowsFromR w.heap.size v2 (beginT t h n free)) := by
  have HT := hide hT
  obtain ⟨a, c, a', c', r, d, rfl, hM, hD, hR, n1, n2, n3⟩ := hT
  have N1 := hide n1
  have N2 := hide n2
  have N3 := hide n3
  clear hM hD hR n1 n2 n3
  go_enter Try.func17, Try.ntmps17
  go_wp2_with fail
  refine (tGood_any _ t _ (HT.out.below (bthen (below1 _ _) (below1 _ _))) r1 r2).mono ?_
  rintro e w1 ⟨rfl, hb1⟩
  have hs1 : w.heap.size + 1 < w1.heap.size := by have := hb1.size; simp at this; omega
  have hs1' : w.heap.size < w1.heap.size := by omega
  have K1 := hide (two1 hb1)
  have K2 := hide (two2 hb1)
  obtain ⟨⟨x0, x1, x2, x3, x4, x5, x6, x7, x8, x9⟩, _⟩ := box10 K1.out
  obtain ⟨⟨y0, y1, y2, y3, y4, y5, y6, y7, y8, y9⟩, ff⟩ := box10 K2.out
  have HB1 := hide (bthen (bthen (below1 _ _) (below1 _ _)) hb1)
  clear hb1
  have HE : Hid (beginE t h n free = 2) := by rw [Hid, beginE, if_pos hg]
  have HTT : Hid (beginT t h n free = t) := by rw [Hid, beginT, HE.out]; rfl
  go_wp2
  refine bodyPost_ret (v := .tuple #[.agg #[.int .i64 t.seq, .slice a t.info.length c, .slice a' t.data.length c', .slice r t.rev.length d, .bool t.h0.on, .int .i64 t.h0.left, .bool t.h1.on, .int .i64 t.h1.left, .bool t.h2.on, .int .i64 t.h2.left], .int .i64 2]) (by simp [results, Try.results17, go_sem, y0, y1, y2, y3, y4, y5, y6, y7, y8, y9]) rfl ⟨_, by rw [HE.out], ?_⟩
  refine ⟨?_, ?_, .inl rfl⟩
  · rw [HTT.out]
    refine HT.out.below ?_
    repeat refine Below.setCell ?_ (by simp) _
    exact HB1.out
  · repeat refine Below.setCell ?_ (by simp) _
    exact HB1.out

set_option maxHeartbeats 2000000 in
set_option maxRecDepth 100000 in
theorem tBegin_none (v : Value) (t : Tx) (h n free : Int) (w : World) (hT : IsTx w v t) (r1 : t.info.length * 24 ≤ 140737488355328) (r2 : t.data.length * 24 ≤ 140737488355328) (hg : goodX t = true) (hw : withinB h 0 2 = false) :
    Calls Try.prog 17 #[v, .int .i64 h, .int .i64 n, .int .i64 free] w fun e w' => ∃ v2, e = .returned (.tuple #[v2, .int .i64 (beginE t h n free)]) ∧ IsTx w' v2 (beginT t h n free) ∧ Below w.heap.size w w' ∧ (v2 = v ∨ RowsFromR w.heap.size v2 (beginT t h n free)) := by
  have HT := hide hT
  obtain ⟨a, c, a', c', r, d, rfl, hM, hD, hR, n1, n2, n3⟩ := hT
  have N1 := hide n1
  have N2 := hide n2
  have N3 := hide n3
  clear hM hD hR n1 n2 n3
  go_enter Try.func17, Try.ntmps17
  go_wp2_with fail
  refine (tGood_any _ t _ (HT.out.below (bthen (below1 _ _) (below1 _ _))) r1 r2).mono ?_
  rintro e w1 ⟨rfl, hb1⟩
  have hs1 : w.heap.size + 1 < w1.heap.size := by have := hb1.size; simp at this; omega
  have hs1' : w.heap.size < w1.heap.size := by omega
  have K1 := hide (two1 hb1)
  have K2 := hide (two2 hb1)
  obtain ⟨⟨x0, x1, x2, x3, x4, x5, x6, x7, x8, x9⟩, _⟩ := box10 K1.out
  obtain ⟨⟨y0, y1, y2, y3, y4, y5, y6, y7, y8, y9⟩, ff⟩ := box10 K2.out
  have HB1 := hide (bthen (bthen (below1 _ _) (below1 _ _)) hb1)
  clear hb1
  have hno : h < 0 ∨ 2 < h := by
    by_cases e : 0 ≤ h ∧ h ≤ 2
    · rw [withinB_iff.2 e] at hw; cases hw
    · omega
  have HE : Hid (beginE t h n free = 4) := by rw [Hid, beginE, if_neg (by rw [hg]; simp), if_pos hno]
  have HTT : Hid (beginT t h n free = t) := by rw [Hid, beginT, HE.out]; rfl
  clear hno
  go_wp2_with (go_at_call 63; refine (isHandle_any _ _).mono ?_; rintro e w' ⟨rfl, rfl⟩)
  refine bodyPost_ret (v := .tuple #[.agg #[.int .i64 t.seq, .slice a t.info.length c, .slice a' t.data.length c', .slice r t.rev.length d, .bool t.h0.on, .int .i64 t.h0.left, .bool t.h1.on, .int .i64 t.h1.left, .bool t.h2.on, .int .i64 t.h2.left], .int .i64 4]) (by simp [results, Try.results17, go_sem, y0, y1, y2, y3, y4, y5, y6, y7, y8, y9]) rfl ⟨_, by rw [HE.out], ?_⟩
  refine ⟨?_, ?_, .inl rfl⟩
  · rw [HTT.out]
    refine HT.out.below ?_
    repeat refine Below.setCell ?_ (by simp) _
    exact HB1.out
  · repeat refine Below.setCell ?_ (by simp) _
    exact HB1.out

set_option maxHeartbeats 2000000 in
set_option maxRecDepth 100000 in
theorem tBegin_on0 (v : Value) (t : Tx) (n free : Int) (w : World) (hT : IsTx w v t) (r1 : t.info.length * 24 ≤ 140737488355328) (r2 : t.data.length * 24 ≤ 140737488355328) (hg : goodX t = true) (ho : t.h0.on = true) :
    Calls Try.prog 17 #[v, .int .i64 0, .int .i64 n, .int .i64 free] w fun e w' => ∃ v2, e = .returned (.tuple #[v2, .int .i64 (beginE t 0 n free)]) ∧ IsTx w' v2 (beginT t 0 n free) ∧ Below w.heap.size w w' ∧ (v2 = v ∨ RowsFromR w.heap.size v2 (beginT t 0 n free)) := by
  have HO := hide ho
  clear ho
  have HT := hide hT
  obtain ⟨a, c, a', c', r, d, rfl, hM, hD, hR, n1, n2, n3⟩ := hT
  have N1 := hide n1
  have N2 := hide n2
  have N3 := hide n3
  clear hM hD hR n1 n2 n3
  go_enter Try.func17, Try.ntmps17
  go_wp2_with fail
  refine (tGood_any _ t _ (HT.out.below (bthen (below1 _ _) (below1 _ _))) r1 r2).mono ?_
  rintro e w1 ⟨rfl, hb1⟩
  have hs1 : w.heap.size + 1 < w1.heap.size := by have := hb1.size; simp at this; omega
  have hs1' : w.heap.size < w1.heap.size := by omega
  have K1 := hide (two1 hb1)
  have K2 := hide (two2 hb1)
  obtain ⟨⟨x0, x1, x2, x3, x4, x5, x6, x7, x8, x9⟩, _⟩ := box10 K1.out
  obtain ⟨⟨y0, y1, y2, y3, y4, y5, y6, y7, y8, y9⟩, ff⟩ := box10 K2.out
  have HB1 := hide (bthen (bthen (below1 _ _) (below1 _ _)) hb1)
  clear hb1
  have ho := HO.out
  have HE : Hid (beginE t 0 n free = 5) := by rw [Hid, beginE, if_neg (by rw [hg]; simp), if_neg (by omega), show hdAt t 0 = t.h0 from rfl, if_pos ho]
  have HTT : Hid (beginT t 0 n free = t) := by rw [Hid, beginT, HE.out]; rfl
  have hw : withinB 0 0 2 = true := rfl
  go_wp2_with (go_at_call 63; refine (isHandle_any _ _).mono ?_; rintro e w' ⟨rfl, rfl⟩)
  refine bodyPost_ret (v := .tuple #[.agg #[.int .i64 t.seq, .slice a t.info.length c, .slice a' t.data.length c', .slice r t.rev.length d, .bool t.h0.on, .int .i64 t.h0.left, .bool t.h1.on, .int .i64 t.h1.left, .bool t.h2.on, .int .i64 t.h2.left], .int .i64 5]) (by simp [results, Try.results17, go_sem, y0, y1, y2, y3, y4, y5, y6, y7, y8, y9, ho]) rfl ⟨_, by rw [HE.out], ?_⟩
  refine ⟨?_, ?_, .inl rfl⟩
  · rw [HTT.out]
    refine HT.out.below ?_
    repeat refine Below.setCell ?_ (by simp) _
    exact HB1.out
  · repeat refine Below.setCell ?_ (by simp) _
    exact HB1.out

set_option maxHeartbeats 2000000 in
set_option maxRecDepth 100000 in
theorem tBegin_off0 (v : Value) (t : Tx) (n free : Int) (w : World) (hT : IsTx w v t) (r1 : t.info.length * 24 ≤ 140737488355328) (r2 : t.data.length * 24 ≤ 140737488355328) (hg : goodX t = true) (ho : t.h0.on = false) :
    Calls Try.prog 17 #[v, .int .i64 0, .int .i64 n, .int .i64 free] w fun e w' => ∃ v2, e = .returned (.tuple #[v2, .int .i64 (beginE t 0 n free)]) ∧ IsTx w' v2 (beginT t 0 n free) ∧ Below w.heap.size w w' ∧ (v2 = v ∨ RowsFromR w.heap.size v2 (beginT t 0 n free)) := by
  have hsm := good_small hg
  have hak := good_asked hg
  have HO := hide ho
  clear ho
  have HT := hide hT
  obtain ⟨a, c, a', c', r, d, rfl, hM, hD, hR, n1, n2, n3⟩ := hT
  have N1 := hide n1
  have N2 := hide n2
  have N3 := hide n3
  clear hM hD hR n1 n2 n3
  go_enter Try.func17, Try.ntmps17
  go_wp2_with fail
  refine (tGood_any _ t _ (HT.out.below (bthen (below1 _ _) (below1 _ _))) r1 r2).mono ?_
  rintro e w1 ⟨rfl, hb1⟩
  have hs1 : w.heap.size + 1 < w1.heap.size := by have := hb1.size; simp at this; omega
  have hs1' : w.heap.size < w1.heap.size := by omega
  have K1 := hide (two1 hb1)
  have K2 := hide (two2 hb1)
  obtain ⟨⟨x0, x1, x2, x3, x4, x5, x6, x7, x8, x9⟩, _⟩ := box10 K1.out
  obtain ⟨⟨y0, y1, y2, y3, y4, y5, y6, y7, y8, y9⟩, ff⟩ := box10 K2.out
  have HB1 := hide (bthen (bthen (below1 _ _) (below1 _ _)) hb1)
  clear hb1
  have ho := HO.out
  have NG : ¬ goodX t = false := by rw [hg]; simp
  have NO : ¬ (hdAt t 0).on = true := by rw [show hdAt t 0 = t.h0 from rfl, ho]; simp
  have HTo : Hid (IsTx w (.agg #[.int .i64 t.seq, .slice a t.info.length c, .slice a' t.data.length c', .slice r t.rev.length d, .bool false, .int .i64 t.h0.left, .bool t.h1.on, .int .i64 t.h1.left, .bool t.h2.on, .int .i64 t.h2.left]) t) := by have := HT.out; rw [ho] at this; exact this
  have hw : withinB 0 0 2 = true := rfl
  cases hq : withinB n 0 12 with
  | false =>
    have hno : n < 0 ∨ 12 < n := by
      by_cases e : 0 ≤ n ∧ n ≤ 12
      · rw [withinB_iff.2 e] at hq; cases hq
      · omega
    have HE : Hid (beginE t 0 n free = 2) := by rw [Hid, beginE, if_neg NG, if_neg (by omega), if_neg NO, if_pos hno]
    have HTT : Hid (beginT t 0 n free = t) := by rw [Hid, beginT, HE.out]; rfl
    clear NG NO hno hak hsm
    go_wp2_with (first | (go_at_call 63; refine (isHandle_any _ _).mono ?_; rintro e w' ⟨rfl, rfl⟩) | (go_at_call 64; refine (tWithin_any _ _ _ _).mono ?_; rintro e w' ⟨rfl, rfl⟩))
    refine bodyPost_ret (v := .tuple #[.agg #[.int .i64 t.seq, .slice a t.info.length c, .slice a' t.data.length c', .slice r t.rev.length d, .bool t.h0.on, .int .i64 t.h0.left, .bool t.h1.on, .int .i64 t.h1.left, .bool t.h2.on, .int .i64 t.h2.left], .int .i64 2]) (by simp [results, Try.results17, go_sem, y0, y1, y2, y3, y4, y5, y6, y7, y8, y9, ho]) rfl ⟨_, by rw [HE.out], ?_⟩
    refine ⟨?_, ?_, .inl rfl⟩
    · rw [HTT.out]
      refine HT.out.below ?_
      repeat refine Below.setCell ?_ (by simp) _
      exact HB1.out
    · repeat refine Below.setCell ?_ (by simp) _
      exact HB1.out
  | true =>
    have hnr := withinB_iff.1 hq
    have NN : ¬ (n < 0 ∨ 12 < n) := by omega
    go_wp2_with (first | (go_at_call 63; refine (isHandle_any _ _).mono ?_; rintro e w' ⟨rfl, rfl⟩) | (go_at_call 64; refine (tWithin_any _ _ _ _).mono ?_; rintro e w' ⟨rfl, rfl⟩))
    refine (tAsked_any _ t _ (HTo.out.below HB1.out)).mono ?_
    rintro e w2 ⟨rfl, hb2⟩
    have hs2 : w.heap.size + 1 < w2.heap.size := by have := hb2.size; omega
    have hs2' : w.heap.size < w2.heap.size := by omega
    have K1' := hide (boxKeep hb2 hs1' K1.out)
    have K2' := hide (boxKeep hb2 hs1 K2.out)
    have HB2 := hide (bthen HB1.out hb2)
    clear x0 x1 x2 x3 x4 x5 x6 x7 x8 x9 y0 y1 y2 y3 y4 y5 y6 y7 y8 y9 ff hb2 K1 K2 HB1
    obtain ⟨⟨x0, x1, x2, x3, x4, x5, x6, x7, x8, x9⟩, _⟩ := box10 K1'.out
    obtain ⟨⟨y0, y1, y2, y3, y4, y5, y6, y7, y8, y9⟩, ff⟩ := box10 K2'.out
    have hlo := hak.2.1
    have hhi := hak.2.2
    have HE0 : Hid (beginE t 0 n free = if 24 < askedN t + n ∨ free < mostN (askedN t + n) then 6 else 0) := by rw [Hid, beginE, if_neg NG, if_neg (by omega), if_neg NO, if_neg NN]
    obtain ⟨q, hqq⟩ : ∃ q, q = askedN t := ⟨_, rfl⟩
    rw [← hqq] at HE0 hlo hhi
    rw [← hqq]
    clear hak NG NO NN hqq hq
    cases hrm : (decide (q + n ≤ 24) && decide (mostN (q + n) ≤ free)) with
    | false =>
      have HE : Hid (beginE t 0 n free = 6) := by
        rw [Hid, HE0.out, if_pos]
        by_cases e : q + n ≤ 24
        · rw [show decide (q + n ≤ 24) = true from by simpa using e, Bool.true_and] at hrm
          simp at hrm; omega
        · omega
      have HTT : Hid (beginT t 0 n free = t) := by rw [Hid, beginT, HE.out]; rfl
      have hroom := room_any (q + n) free w2
      rw [hrm] at hroom
      clear hrm HE0
      go_wp2_with fail
      refine hroom.mono ?_
      rintro e w3 ⟨rfl, rfl⟩
      go_wp2
      refine bodyPost_ret (v := .tuple #[.agg #[.int .i64 t.seq, .slice a t.info.length c, .slice a' t.data.length c', .slice r t.rev.length d, .bool t.h0.on, .int .i64 t.h0.left, .bool t.h1.on, .int .i64 t.h1.left, .bool t.h2.on, .int .i64 t.h2.left], .int .i64 6]) (by simp [results, Try.results17, go_sem, y0, y1, y2, y3, y4, y5, y6, y7, y8, y9, ho]) rfl ⟨_, by rw [HE.out], ?_⟩
      refine ⟨?_, ?_, .inl rfl⟩
      · rw [HTT.out]
        refine HT.out.below ?_
        repeat refine Below.setCell ?_ (by simp) _
        exact HB2.out
      · repeat refine Below.setCell ?_ (by simp) _
        exact HB2.out
    | true =>
      have HE : Hid (beginE t 0 n free = 0) := by
        rw [Hid, HE0.out, if_neg]
        simp at hrm
        omega
      have HTT : Hid (beginT t 0 n free = { t with h0 := ⟨true, n⟩ }) := by rw [Hid, beginT, HE.out]; rfl
      have hroom := room_any (q + n) free w2
      rw [hrm] at hroom
      clear hrm HE0
      go_wp2_with fail
      refine hroom.mono ?_
      rintro e w3 ⟨rfl, rfl⟩
      go_wp2_with fail
      refine (fresh_any _ t _ (HTo.out.below HB2.out) (by omega) (by omega) (by omega)).mono ?_
      rintro e w4 ⟨va, vd, vr, rfl, hbx, hb4⟩
      obtain ⟨a1, c1, rfl, _, _⟩ := SegC.of_owns hbx.2.1
      obtain ⟨a2, c2, rfl, _, _⟩ := SegC.of_owns hbx.2.2.1
      obtain ⟨a3, c3, rfl, _, _⟩ := SegI.of_owns hbx.2.2.2
      have BX := hide hbx
      have hs4 := hbx.lt
      have HB4 := hide (bthen HB2.out hb4)
      have K2'' := hide (boxKeep hb4 hs2 K2'.out)
      clear x0 x1 x2 x3 x4 x5 x6 x7 x8 x9 y0 y1 y2 y3 y4 y5 y6 y7 y8 y9 ff hb4 hbx HB2
      obtain ⟨⟨y0, y1, y2, y3, y4, y5, y6, y7, y8, y9⟩, ff⟩ := box10 K2''.out
      obtain ⟨⟨z0, z1, z2, z3, z4, z5, z6, z7, z8, z9⟩, gf⟩ := box10 BX.out.1
      have HX : Hid (BoxTx ((w4.setCell ⟨w2.heap.size, 4, none⟩ (.bool true)).setCell ⟨w2.heap.size, 5, none⟩ (.int .i64 n)) w2.heap.size { t with h0 := ⟨true, n⟩ } (.slice a1 t.info.length c1) (.slice a2 t.data.length c2) (.slice a3 t.rev.length c3)) := (BX.out.set (t' := { t with h0 := ⟨true, t.h0.left⟩ }) 4 (.bool true) rfl BX.out.2.1 BX.out.2.2.1 BX.out.2.2.2).set (t' := { t with h0 := ⟨true, n⟩ }) 5 (.int .i64 n) rfl (ownsRow_setCell_below BX.out.2.1 (by simp) _) (ownsRow_setCell_below BX.out.2.2.1 (by simp) _) (ownsRow_setCell_below BX.out.2.2.2 (by simp) _)
      go_wp2
      refine bodyPost_ret (v := .tuple #[.agg #[.int .i64 t.seq, .slice a1 t.info.length c1, .slice a2 t.data.length c2, .slice a3 t.rev.length c3, .bool true, .int .i64 n, .bool t.h1.on, .int .i64 t.h1.left, .bool t.h2.on, .int .i64 t.h2.left], .int .i64 0]) (by simp [results, Try.results17, go_sem, y0, y1, y2, y3, y4, y5, y6, y7, y8, y9]) rfl ⟨_, by rw [HE.out], ?_⟩
      rw [HTT.out]
      refine ⟨?_, ?_, .inr (HX.out.fromR (t := { t with h0 := ⟨true, n⟩ }) (by omega))⟩
      · refine BoxTx.is (t := { t with h0 := ⟨true, n⟩ }) (B := w2.heap.size) ?_ N1.out N2.out N3.out
        repeat refine BoxTx.other ?_ (by simp; omega) _
        exact HX.out
      · repeat refine Below.setCell ?_ (by simp; try omega) _
        exact HB4.out

set_option maxHeartbeats 2000000 in
set_option maxRecDepth 100000 in
theorem tBegin_on1 (v : Value) (t : Tx) (n free : Int) (w : World) (hT : IsTx w v t) (r1 : t.info.length * 24 ≤ 140737488355328) (r2 : t.data.length * 24 ≤ 140737488355328) (hg : goodX t = true) (ho : t.h1.on = true) :
    Calls Try.prog 17 #[v, .int .i64 1, .int .i64 n, .int .i64 free] w fun e w' => ∃ v2, e = .returned (.tuple #[v2, .int .i64 (beginE t 1 n free)]) ∧ IsTx w' v2 (beginT t 1 n free) ∧ Below w.heap.size w w' ∧ (v2 = v ∨ RowsFromR w.heap.size v2 (beginT t 1 n free)) := by
  have HO := hide ho
  clear ho
  have HT := hide hT
  obtain ⟨a, c, a', c', r, d, rfl, hM, hD, hR, n1, n2, n3⟩ := hT
  have N1 := hide n1
  have N2 := hide n2
  have N3 := hide n3
  clear hM hD hR n1 n2 n3
  go_enter Try.func17, Try.ntmps17
  go_wp2_with fail
  refine (tGood_any _ t _ (HT.out.below (bthen (below1 _ _) (below1 _ _))) r1 r2).mono ?_
  rintro e w1 ⟨rfl, hb1⟩
  have hs1 : w.heap.size + 1 < w1.heap.size := by have := hb1.size; simp at this; omega
  have hs1' : w.heap.size < w1.heap.size := by omega
  have K1 := hide (two1 hb1)
  have K2 := hide (two2 hb1)
  obtain ⟨⟨x0, x1, x2, x3, x4, x5, x6, x7, x8, x9⟩, _⟩ := box10 K1.out
  obtain ⟨⟨y0, y1, y2, y3, y4, y5, y6, y7, y8, y9⟩, ff⟩ := box10 K2.out
  have HB1 := hide (bthen (bthen (below1 _ _) (below1 _ _)) hb1)
  clear hb1
  have ho := HO.out
  have HE : Hid (beginE t 1 n free = 5) := by rw [Hid, beginE, if_neg (by rw [hg]; simp), if_neg (by omega), show hdAt t 1 = t.h1 from rfl, if_pos ho]
  have HTT : Hid (beginT t 1 n free = t) := by rw [Hid, beginT, HE.out]; rfl
  have hw : withinB 1 0 2 = true := rfl
  go_wp2_with (go_at_call 63; refine (isHandle_any _ _).mono ?_; rintro e w' ⟨rfl, rfl⟩)
  refine bodyPost_ret (v := .tuple #[.agg #[.int .i64 t.seq, .slice a t.info.length c, .slice a' t.data.length c', .slice r t.rev.length d, .bool t.h0.on, .int .i64 t.h0.left, .bool t.h1.on, .int .i64 t.h1.left, .bool t.h2.on, .int .i64 t.h2.left], .int .i64 5]) (by simp [results, Try.results17, go_sem, y0, y1, y2, y3, y4, y5, y6, y7, y8, y9, ho]) rfl ⟨_, by rw [HE.out], ?_⟩
  refine ⟨?_, ?_, .inl rfl⟩
  · rw [HTT.out]
    refine HT.out.below ?_
    repeat refine Below.setCell ?_ (by simp) _
    exact HB1.out
  · repeat refine Below.setCell ?_ (by simp) _
    exact HB1.out

set_option maxHeartbeats 2000000 in
set_option maxRecDepth 100000 in
theorem tBegin_off1 (v : Value) (t : Tx) (n free : Int) (w : World) (hT : IsTx w v t) (r1 : t.info.length * 24 ≤ 140737488355328) (r2 : t.data.length * 24 ≤ 140737488355328) (hg : goodX t = true) (ho : t.h1.on = false) :
    Calls Try.prog 17 #[v, .int .i64 1, .int .i64 n, .int .i64 free] w fun e w' => ∃ v2, e = .returned (.tuple #[v2, .int .i64 (beginE t 1 n free)]) ∧ IsTx w' v2 (beginT t 1 n free) ∧ Below w.heap.size w w' ∧ (v2 = v ∨ RowsFromR w.heap.size v2 (beginT t 1 n free)) := by
  have hsm := good_small hg
  have hak := good_asked hg
  have HO := hide ho
  clear ho
  have HT := hide hT
  obtain ⟨a, c, a', c', r, d, rfl, hM, hD, hR, n1, n2, n3⟩ := hT
  have N1 := hide n1
  have N2 := hide n2
  have N3 := hide n3
  clear hM hD hR n1 n2 n3
  go_enter Try.func17, Try.ntmps17
  go_wp2_with fail
  refine (tGood_any _ t _ (HT.out.below (bthen (below1 _ _) (below1 _ _))) r1 r2).mono ?_
  rintro e w1 ⟨rfl, hb1⟩
  have hs1 : w.heap.size + 1 < w1.heap.size := by have := hb1.size; simp at this; omega
  have hs1' : w.heap.size < w1.heap.size := by omega
  have K1 := hide (two1 hb1)
  have K2 := hide (two2 hb1)
  obtain ⟨⟨x0, x1, x2, x3, x4, x5, x6, x7, x8, x9⟩, _⟩ := box10 K1.out
  obtain ⟨⟨y0, y1, y2, y3, y4, y5, y6, y7, y8, y9⟩, ff⟩ := box10 K2.out
  have HB1 := hide (bthen (bthen (below1 _ _) (below1 _ _)) hb1)
  clear hb1
  have ho := HO.out
  have NG : ¬ goodX t = false := by rw [hg]; simp
  have NO : ¬ (hdAt t 1).on = true := by rw [show hdAt t 1 = t.h1 from rfl, ho]; simp
  have HTo : Hid (IsTx w (.agg #[.int .i64 t.seq, .slice a t.info.length c, .slice a' t.data.length c', .slice r t.rev.length d, .bool t.h0.on, .int .i64 t.h0.left, .bool false, .int .i64 t.h1.left, .bool t.h2.on, .int .i64 t.h2.left]) t) := by have := HT.out; rw [ho] at this; exact this
  have hw : withinB 1 0 2 = true := rfl
  cases hq : withinB n 0 12 with
  | false =>
    have hno : n < 0 ∨ 12 < n := by
      by_cases e : 0 ≤ n ∧ n ≤ 12
      · rw [withinB_iff.2 e] at hq; cases hq
      · omega
    have HE : Hid (beginE t 1 n free = 2) := by rw [Hid, beginE, if_neg NG, if_neg (by omega), if_neg NO, if_pos hno]
    have HTT : Hid (beginT t 1 n free = t) := by rw [Hid, beginT, HE.out]; rfl
    clear NG NO hno hak hsm
    go_wp2_with (first | (go_at_call 63; refine (isHandle_any _ _).mono ?_; rintro e w' ⟨rfl, rfl⟩) | (go_at_call 64; refine (tWithin_any _ _ _ _).mono ?_; rintro e w' ⟨rfl, rfl⟩))
    refine bodyPost_ret (v := .tuple #[.agg #[.int .i64 t.seq, .slice a t.info.length c, .slice a' t.data.length c', .slice r t.rev.length d, .bool t.h0.on, .int .i64 t.h0.left, .bool t.h1.on, .int .i64 t.h1.left, .bool t.h2.on, .int .i64 t.h2.left], .int .i64 2]) (by simp [results, Try.results17, go_sem, y0, y1, y2, y3, y4, y5, y6, y7, y8, y9, ho]) rfl ⟨_, by rw [HE.out], ?_⟩
    refine ⟨?_, ?_, .inl rfl⟩
    · rw [HTT.out]
      refine HT.out.below ?_
      repeat refine Below.setCell ?_ (by simp) _
      exact HB1.out
    · repeat refine Below.setCell ?_ (by simp) _
      exact HB1.out
  | true =>
    have hnr := withinB_iff.1 hq
    have NN : ¬ (n < 0 ∨ 12 < n) := by omega
    go_wp2_with (first | (go_at_call 63; refine (isHandle_any _ _).mono ?_; rintro e w' ⟨rfl, rfl⟩) | (go_at_call 64; refine (tWithin_any _ _ _ _).mono ?_; rintro e w' ⟨rfl, rfl⟩))
    refine (tAsked_any _ t _ (HTo.out.below HB1.out)).mono ?_
    rintro e w2 ⟨rfl, hb2⟩
    have hs2 : w.heap.size + 1 < w2.heap.size := by have := hb2.size; omega
    have hs2' : w.heap.size < w2.heap.size := by omega
    have K1' := hide (boxKeep hb2 hs1' K1.out)
    have K2' := hide (boxKeep hb2 hs1 K2.out)
    have HB2 := hide (bthen HB1.out hb2)
    clear x0 x1 x2 x3 x4 x5 x6 x7 x8 x9 y0 y1 y2 y3 y4 y5 y6 y7 y8 y9 ff hb2 K1 K2 HB1
    obtain ⟨⟨x0, x1, x2, x3, x4, x5, x6, x7, x8, x9⟩, _⟩ := box10 K1'.out
    obtain ⟨⟨y0, y1, y2, y3, y4, y5, y6, y7, y8, y9⟩, ff⟩ := box10 K2'.out
    have hlo := hak.2.1
    have hhi := hak.2.2
    have HE0 : Hid (beginE t 1 n free = if 24 < askedN t + n ∨ free < mostN (askedN t + n) then 6 else 0) := by rw [Hid, beginE, if_neg NG, if_neg (by omega), if_neg NO, if_neg NN]
    obtain ⟨q, hqq⟩ : ∃ q, q = askedN t := ⟨_, rfl⟩
    rw [← hqq] at HE0 hlo hhi
    rw [← hqq]
    clear hak NG NO NN hqq hq
    cases hrm : (decide (q + n ≤ 24) && decide (mostN (q + n) ≤ free)) with
    | false =>
      have HE : Hid (beginE t 1 n free = 6) := by
        rw [Hid, HE0.out, if_pos]
        by_cases e : q + n ≤ 24
        · rw [show decide (q + n ≤ 24) = true from by simpa using e, Bool.true_and] at hrm
          simp at hrm; omega
        · omega
      have HTT : Hid (beginT t 1 n free = t) := by rw [Hid, beginT, HE.out]; rfl
      have hroom := room_any (q + n) free w2
      rw [hrm] at hroom
      clear hrm HE0
      go_wp2_with fail
      refine hroom.mono ?_
      rintro e w3 ⟨rfl, rfl⟩
      go_wp2
      refine bodyPost_ret (v := .tuple #[.agg #[.int .i64 t.seq, .slice a t.info.length c, .slice a' t.data.length c', .slice r t.rev.length d, .bool t.h0.on, .int .i64 t.h0.left, .bool t.h1.on, .int .i64 t.h1.left, .bool t.h2.on, .int .i64 t.h2.left], .int .i64 6]) (by simp [results, Try.results17, go_sem, y0, y1, y2, y3, y4, y5, y6, y7, y8, y9, ho]) rfl ⟨_, by rw [HE.out], ?_⟩
      refine ⟨?_, ?_, .inl rfl⟩
      · rw [HTT.out]
        refine HT.out.below ?_
        repeat refine Below.setCell ?_ (by simp) _
        exact HB2.out
      · repeat refine Below.setCell ?_ (by simp) _
        exact HB2.out
    | true =>
      have HE : Hid (beginE t 1 n free = 0) := by
        rw [Hid, HE0.out, if_neg]
        simp at hrm
        omega
      have HTT : Hid (beginT t 1 n free = { t with h1 := ⟨true, n⟩ }) := by rw [Hid, beginT, HE.out]; rfl
      have hroom := room_any (q + n) free w2
      rw [hrm] at hroom
      clear hrm HE0
      go_wp2_with fail
      refine hroom.mono ?_
      rintro e w3 ⟨rfl, rfl⟩
      go_wp2_with fail
      refine (fresh_any _ t _ (HTo.out.below HB2.out) (by omega) (by omega) (by omega)).mono ?_
      rintro e w4 ⟨va, vd, vr, rfl, hbx, hb4⟩
      obtain ⟨a1, c1, rfl, _, _⟩ := SegC.of_owns hbx.2.1
      obtain ⟨a2, c2, rfl, _, _⟩ := SegC.of_owns hbx.2.2.1
      obtain ⟨a3, c3, rfl, _, _⟩ := SegI.of_owns hbx.2.2.2
      have BX := hide hbx
      have hs4 := hbx.lt
      have HB4 := hide (bthen HB2.out hb4)
      have K2'' := hide (boxKeep hb4 hs2 K2'.out)
      clear x0 x1 x2 x3 x4 x5 x6 x7 x8 x9 y0 y1 y2 y3 y4 y5 y6 y7 y8 y9 ff hb4 hbx HB2
      obtain ⟨⟨y0, y1, y2, y3, y4, y5, y6, y7, y8, y9⟩, ff⟩ := box10 K2''.out
      obtain ⟨⟨z0, z1, z2, z3, z4, z5, z6, z7, z8, z9⟩, gf⟩ := box10 BX.out.1
      have HX : Hid (BoxTx ((w4.setCell ⟨w2.heap.size, 6, none⟩ (.bool true)).setCell ⟨w2.heap.size, 7, none⟩ (.int .i64 n)) w2.heap.size { t with h1 := ⟨true, n⟩ } (.slice a1 t.info.length c1) (.slice a2 t.data.length c2) (.slice a3 t.rev.length c3)) := (BX.out.set (t' := { t with h1 := ⟨true, t.h1.left⟩ }) 6 (.bool true) rfl BX.out.2.1 BX.out.2.2.1 BX.out.2.2.2).set (t' := { t with h1 := ⟨true, n⟩ }) 7 (.int .i64 n) rfl (ownsRow_setCell_below BX.out.2.1 (by simp) _) (ownsRow_setCell_below BX.out.2.2.1 (by simp) _) (ownsRow_setCell_below BX.out.2.2.2 (by simp) _)
      go_wp2
      refine bodyPost_ret (v := .tuple #[.agg #[.int .i64 t.seq, .slice a1 t.info.length c1, .slice a2 t.data.length c2, .slice a3 t.rev.length c3, .bool t.h0.on, .int .i64 t.h0.left, .bool true, .int .i64 n, .bool t.h2.on, .int .i64 t.h2.left], .int .i64 0]) (by simp [results, Try.results17, go_sem, y0, y1, y2, y3, y4, y5, y6, y7, y8, y9]) rfl ⟨_, by rw [HE.out], ?_⟩
      rw [HTT.out]
      refine ⟨?_, ?_, .inr (HX.out.fromR (t := { t with h1 := ⟨true, n⟩ }) (by omega))⟩
      · refine BoxTx.is (t := { t with h1 := ⟨true, n⟩ }) (B := w2.heap.size) ?_ N1.out N2.out N3.out
        repeat refine BoxTx.other ?_ (by simp; omega) _
        exact HX.out
      · repeat refine Below.setCell ?_ (by simp; try omega) _
        exact HB4.out

set_option maxHeartbeats 2000000 in
set_option maxRecDepth 100000 in
theorem tBegin_on2 (v : Value) (t : Tx) (n free : Int) (w : World) (hT : IsTx w v t) (r1 : t.info.length * 24 ≤ 140737488355328) (r2 : t.data.length * 24 ≤ 140737488355328) (hg : goodX t = true) (ho : t.h2.on = true) :
    Calls Try.prog 17 #[v, .int .i64 2, .int .i64 n, .int .i64 free] w fun e w' => ∃ v2, e = .returned (.tuple #[v2, .int .i64 (beginE t 2 n free)]) ∧ IsTx w' v2 (beginT t 2 n free) ∧ Below w.heap.size w w' ∧ (v2 = v ∨ RowsFromR w.heap.size v2 (beginT t 2 n free)) := by
  have HO := hide ho
  clear ho
  have HT := hide hT
  obtain ⟨a, c, a', c', r, d, rfl, hM, hD, hR, n1, n2, n3⟩ := hT
  have N1 := hide n1
  have N2 := hide n2
  have N3 := hide n3
  clear hM hD hR n1 n2 n3
  go_enter Try.func17, Try.ntmps17
  go_wp2_with fail
  refine (tGood_any _ t _ (HT.out.below (bthen (below1 _ _) (below1 _ _))) r1 r2).mono ?_
  rintro e w1 ⟨rfl, hb1⟩
  have hs1 : w.heap.size + 1 < w1.heap.size := by have := hb1.size; simp at this; omega
  have hs1' : w.heap.size < w1.heap.size := by omega
  have K1 := hide (two1 hb1)
  have K2 := hide (two2 hb1)
  obtain ⟨⟨x0, x1, x2, x3, x4, x5, x6, x7, x8, x9⟩, _⟩ := box10 K1.out
  obtain ⟨⟨y0, y1, y2, y3, y4, y5, y6, y7, y8, y9⟩, ff⟩ := box10 K2.out
  have HB1 := hide (bthen (bthen (below1 _ _) (below1 _ _)) hb1)
  clear hb1
  have ho := HO.out
  have HE : Hid (beginE t 2 n free = 5) := by rw [Hid, beginE, if_neg (by rw [hg]; simp), if_neg (by omega), show hdAt t 2 = t.h2 from rfl, if_pos ho]
  have HTT : Hid (beginT t 2 n free = t) := by rw [Hid, beginT, HE.out]; rfl
  have hw : withinB 2 0 2 = true := rfl
  go_wp2_with (go_at_call 63; refine (isHandle_any _ _).mono ?_; rintro e w' ⟨rfl, rfl⟩)
  refine bodyPost_ret (v := .tuple #[.agg #[.int .i64 t.seq, .slice a t.info.length c, .slice a' t.data.length c', .slice r t.rev.length d, .bool t.h0.on, .int .i64 t.h0.left, .bool t.h1.on, .int .i64 t.h1.left, .bool t.h2.on, .int .i64 t.h2.left], .int .i64 5]) (by simp [results, Try.results17, go_sem, y0, y1, y2, y3, y4, y5, y6, y7, y8, y9, ho]) rfl ⟨_, by rw [HE.out], ?_⟩
  refine ⟨?_, ?_, .inl rfl⟩
  · rw [HTT.out]
    refine HT.out.below ?_
    repeat refine Below.setCell ?_ (by simp) _
    exact HB1.out
  · repeat refine Below.setCell ?_ (by simp) _
    exact HB1.out

set_option maxHeartbeats 2000000 in
set_option maxRecDepth 100000 in
theorem tBegin_off2 (v : Value) (t : Tx) (n free : Int) (w : World) (hT : IsTx w v t) (r1 : t.info.length * 24 ≤ 140737488355328) (r2 : t.data.length * 24 ≤ 140737488355328) (hg : goodX t = true) (ho : t.h2.on = false) :
    Calls Try.prog 17 #[v, .int .i64 2, .int .i64 n, .int .i64 free] w fun e w' => ∃ v2, e = .returned (.tuple #[v2, .int .i64 (beginE t 2 n free)]) ∧ IsTx w' v2 (beginT t 2 n free) ∧ Below w.heap.size w w' ∧ (v2 = v ∨ RowsFromR w.heap.size v2 (beginT t 2 n free)) := by
  have hsm := good_small hg
  have hak := good_asked hg
  have HO := hide ho
  clear ho
  have HT := hide hT
  obtain ⟨a, c, a', c', r, d, rfl, hM, hD, hR, n1, n2, n3⟩ := hT
  have N1 := hide n1
  have N2 := hide n2
  have N3 := hide n3
  clear hM hD hR n1 n2 n3
  go_enter Try.func17, Try.ntmps17
  go_wp2_with fail
  refine (tGood_any _ t _ (HT.out.below (bthen (below1 _ _) (below1 _ _))) r1 r2).mono ?_
  rintro e w1 ⟨rfl, hb1⟩
  have hs1 : w.heap.size + 1 < w1.heap.size := by have := hb1.size; simp at this; omega
  have hs1' : w.heap.size < w1.heap.size := by omega
  have K1 := hide (two1 hb1)
  have K2 := hide (two2 hb1)
  obtain ⟨⟨x0, x1, x2, x3, x4, x5, x6, x7, x8, x9⟩, _⟩ := box10 K1.out
  obtain ⟨⟨y0, y1, y2, y3, y4, y5, y6, y7, y8, y9⟩, ff⟩ := box10 K2.out
  have HB1 := hide (bthen (bthen (below1 _ _) (below1 _ _)) hb1)
  clear hb1
  have ho := HO.out
  have NG : ¬ goodX t = false := by rw [hg]; simp
  have NO : ¬ (hdAt t 2).on = true := by rw [show hdAt t 2 = t.h2 from rfl, ho]; simp
  have HTo : Hid (IsTx w (.agg #[.int .i64 t.seq, .slice a t.info.length c, .slice a' t.data.length c', .slice r t.rev.length d, .bool t.h0.on, .int .i64 t.h0.left, .bool t.h1.on, .int .i64 t.h1.left, .bool false, .int .i64 t.h2.left]) t) := by have := HT.out; rw [ho] at this; exact this
  have hw : withinB 2 0 2 = true := rfl
  cases hq : withinB n 0 12 with
  | false =>
    have hno : n < 0 ∨ 12 < n := by
      by_cases e : 0 ≤ n ∧ n ≤ 12
      · rw [withinB_iff.2 e] at hq; cases hq
      · omega
    have HE : Hid (beginE t 2 n free = 2) := by rw [Hid, beginE, if_neg NG, if_neg (by omega), if_neg NO, if_pos hno]
    have HTT : Hid (beginT t 2 n free = t) := by rw [Hid, beginT, HE.out]; rfl
    clear NG NO hno hak hsm
    go_wp2_with (first | (go_at_call 63; refine (isHandle_any _ _).mono ?_; rintro e w' ⟨rfl, rfl⟩) | (go_at_call 64; refine (tWithin_any _ _ _ _).mono ?_; rintro e w' ⟨rfl, rfl⟩))
    refine bodyPost_ret (v := .tuple #[.agg #[.int .i64 t.seq, .slice a t.info.length c, .slice a' t.data.length c', .slice r t.rev.length d, .bool t.h0.on, .int .i64 t.h0.left, .bool t.h1.on, .int .i64 t.h1.left, .bool t.h2.on, .int .i64 t.h2.left], .int .i64 2]) (by simp [results, Try.results17, go_sem, y0, y1, y2, y3, y4, y5, y6, y7, y8, y9, ho]) rfl ⟨_, by rw [HE.out], ?_⟩
    refine ⟨?_, ?_, .inl rfl⟩
    · rw [HTT.out]
      refine HT.out.below ?_
      repeat refine Below.setCell ?_ (by simp) _
      exact HB1.out
    · repeat refine Below.setCell ?_ (by simp) _
      exact HB1.out
  | true =>
    have hnr := withinB_iff.1 hq
    have NN : ¬ (n < 0 ∨ 12 < n) := by omega
    go_wp2_with (first | (go_at_call 63; refine (isHandle_any _ _).mono ?_; rintro e w' ⟨rfl, rfl⟩) | (go_at_call 64; refine (tWithin_any _ _ _ _).mono ?_; rintro e w' ⟨rfl, rfl⟩))
    refine (tAsked_any _ t _ (HTo.out.below HB1.out)).mono ?_
    rintro e w2 ⟨rfl, hb2⟩
    have hs2 : w.heap.size + 1 < w2.heap.size := by have := hb2.size; omega
    have hs2' : w.heap.size < w2.heap.size := by omega
    have K1' := hide (boxKeep hb2 hs1' K1.out)
    have K2' := hide (boxKeep hb2 hs1 K2.out)
    have HB2 := hide (bthen HB1.out hb2)
    clear x0 x1 x2 x3 x4 x5 x6 x7 x8 x9 y0 y1 y2 y3 y4 y5 y6 y7 y8 y9 ff hb2 K1 K2 HB1
    obtain ⟨⟨x0, x1, x2, x3, x4, x5, x6, x7, x8, x9⟩, _⟩ := box10 K1'.out
    obtain ⟨⟨y0, y1, y2, y3, y4, y5, y6, y7, y8, y9⟩, ff⟩ := box10 K2'.out
    have hlo := hak.2.1
    have hhi := hak.2.2
    have HE0 : Hid (beginE t 2 n free = if 24 < askedN t + n ∨ free < mostN (askedN t + n) then 6 else 0) := by rw [Hid, beginE, if_neg NG, if_neg (by omega), if_neg NO, if_neg NN]
    obtain ⟨q, hqq⟩ : ∃ q, q = askedN t := ⟨_, rfl⟩
    rw [← hqq] at HE0 hlo hhi
    rw [← hqq]
    clear hak NG NO NN hqq hq
    cases hrm : (decide (q + n ≤ 24) && decide (mostN (q + n) ≤ free)) with
    | false =>
      have HE : Hid (beginE t 2 n free = 6) := by
        rw [Hid, HE0.out, if_pos]
        by_cases e : q + n ≤ 24
        · rw [show decide (q + n ≤ 24) = true from by simpa using e, Bool.true_and] at hrm
          simp at hrm; omega
        · omega
      have HTT : Hid (beginT t 2 n free = t) := by rw [Hid, beginT, HE.out]; rfl
      have hroom := room_any (q + n) free w2
      rw [hrm] at hroom
      clear hrm HE0
      go_wp2_with fail
      refine hroom.mono ?_
      rintro e w3 ⟨rfl, rfl⟩
      go_wp2
      refine bodyPost_ret (v := .tuple #[.agg #[.int .i64 t.seq, .slice a t.info.length c, .slice a' t.data.length c', .slice r t.rev.length d, .bool t.h0.on, .int .i64 t.h0.left, .bool t.h1.on, .int .i64 t.h1.left, .bool t.h2.on, .int .i64 t.h2.left], .int .i64 6]) (by simp [results, Try.results17, go_sem, y0, y1, y2, y3, y4, y5, y6, y7, y8, y9, ho]) rfl ⟨_, by rw [HE.out], ?_⟩
      refine ⟨?_, ?_, .inl rfl⟩
      · rw [HTT.out]
        refine HT.out.below ?_
        repeat refine Below.setCell ?_ (by simp) _
        exact HB2.out
      · repeat refine Below.setCell ?_ (by simp) _
        exact HB2.out
    | true =>
      have HE : Hid (beginE t 2 n free = 0) := by
        rw [Hid, HE0.out, if_neg]
        simp at hrm
        omega
      have HTT : Hid (beginT t 2 n free = { t with h2 := ⟨true, n⟩ }) := by rw [Hid, beginT, HE.out]; rfl
      have hroom := room_any (q + n) free w2
      rw [hrm] at hroom
      clear hrm HE0
      go_wp2_with fail
      refine hroom.mono ?_
      rintro e w3 ⟨rfl, rfl⟩
      go_wp2_with fail
      refine (fresh_any _ t _ (HTo.out.below HB2.out) (by omega) (by omega) (by omega)).mono ?_
      rintro e w4 ⟨va, vd, vr, rfl, hbx, hb4⟩
      obtain ⟨a1, c1, rfl, _, _⟩ := SegC.of_owns hbx.2.1
      obtain ⟨a2, c2, rfl, _, _⟩ := SegC.of_owns hbx.2.2.1
      obtain ⟨a3, c3, rfl, _, _⟩ := SegI.of_owns hbx.2.2.2
      have BX := hide hbx
      have hs4 := hbx.lt
      have HB4 := hide (bthen HB2.out hb4)
      have K2'' := hide (boxKeep hb4 hs2 K2'.out)
      clear x0 x1 x2 x3 x4 x5 x6 x7 x8 x9 y0 y1 y2 y3 y4 y5 y6 y7 y8 y9 ff hb4 hbx HB2
      obtain ⟨⟨y0, y1, y2, y3, y4, y5, y6, y7, y8, y9⟩, ff⟩ := box10 K2''.out
      obtain ⟨⟨z0, z1, z2, z3, z4, z5, z6, z7, z8, z9⟩, gf⟩ := box10 BX.out.1
      have HX : Hid (BoxTx ((w4.setCell ⟨w2.heap.size, 8, none⟩ (.bool true)).setCell ⟨w2.heap.size, 9, none⟩ (.int .i64 n)) w2.heap.size { t with h2 := ⟨true, n⟩ } (.slice a1 t.info.length c1) (.slice a2 t.data.length c2) (.slice a3 t.rev.length c3)) := (BX.out.set (t' := { t with h2 := ⟨true, t.h2.left⟩ }) 8 (.bool true) rfl BX.out.2.1 BX.out.2.2.1 BX.out.2.2.2).set (t' := { t with h2 := ⟨true, n⟩ }) 9 (.int .i64 n) rfl (ownsRow_setCell_below BX.out.2.1 (by simp) _) (ownsRow_setCell_below BX.out.2.2.1 (by simp) _) (ownsRow_setCell_below BX.out.2.2.2 (by simp) _)
      go_wp2
      refine bodyPost_ret (v := .tuple #[.agg #[.int .i64 t.seq, .slice a1 t.info.length c1, .slice a2 t.data.length c2, .slice a3 t.rev.length c3, .bool t.h0.on, .int .i64 t.h0.left, .bool t.h1.on, .int .i64 t.h1.left, .bool true, .int .i64 n], .int .i64 0]) (by simp [results, Try.results17, go_sem, y0, y1, y2, y3, y4, y5, y6, y7, y8, y9]) rfl ⟨_, by rw [HE.out], ?_⟩
      rw [HTT.out]
      refine ⟨?_, ?_, .inr (HX.out.fromR (t := { t with h2 := ⟨true, n⟩ }) (by omega))⟩
      · refine BoxTx.is (t := { t with h2 := ⟨true, n⟩ }) (B := w2.heap.size) ?_ N1.out N2.out N3.out
        repeat refine BoxTx.other ?_ (by simp; omega) _
        exact HX.out
      · repeat refine Below.setCell ?_ (by simp; try omega) _
        exact HB4.out

set_option maxHeartbeats 2000000 in
set_option maxRecDepth 100000 in
theorem tBegin_room (v : Value) (t : Tx) (h n free : Int) (w : World) (hT : IsTx w v t) (r1 : t.info.length * 24 ≤ 140737488355328) (r2 : t.data.length * 24 ≤ 140737488355328) :
    Calls Try.prog 17 #[v, .int .i64 h, .int .i64 n, .int .i64 free] w fun e w' => ∃ v2, e = .returned (.tuple #[v2, .int .i64 (beginE t h n free)]) ∧ IsTx w' v2 (beginT t h n free) ∧ Below w.heap.size w w' ∧ (v2 = v ∨ RowsFromR w.heap.size v2 (beginT t h n free)) := by
  cases hg : goodX t with
  | false => exact tBegin_bad v t h n free w hT r1 r2 hg
  | true =>
    cases hw : withinB h 0 2 with
    | false => exact tBegin_none v t h n free w hT r1 r2 hg hw
    | true =>
      have hr := withinB_iff.1 hw
      have hc : h = 0 ∨ h = 1 ∨ h = 2 := by omega
      rcases hc with rfl | rfl | rfl
      · cases ho : t.h0.on with
        | true => exact tBegin_on0 v t n free w hT r1 r2 hg ho
        | false => exact tBegin_off0 v t n free w hT r1 r2 hg ho
      · cases ho : t.h1.on with
        | true => exact tBegin_on1 v t n free w hT r1 r2 hg ho
        | false => exact tBegin_off1 v t n free w hT r1 r2 hg ho
      · cases ho : t.h2.on with
        | true => exact tBegin_on2 v t n free w hT r1 r2 hg ho
        | false => exact tBegin_off2 v t n free w hT r1 r2 hg ho

theorem tBegin_all (v : Value) (t : Tx) (h n free : Int) (w : World) (hT : IsTx w v t) (r1 : t.info.length * 24 ≤ 140737488355328) (r2 : t.data.length * 24 ≤ 140737488355328) :
    Calls Try.prog 17 #[v, .int .i64 h, .int .i64 n, .int .i64 free] w fun e w' => ∃ v2, e = .returned (.tuple #[v2, .int .i64 (beginE t h n free)]) ∧ IsTx w' v2 (beginT t h n free) ∧ Below w.heap.size w w' ∧ (v2 = v ∨ RowsFrom w.heap.size v2 (beginT t h n free)) :=
  (tBegin_room v t h n free w hT r1 r2).mono fun _ _ ⟨v2, h1, h2, h3, h4⟩ => ⟨v2, h1, h2, h3, h4.imp id (·.1)⟩
theorem tBegin_any (v : Value) (t : Tx) (h n free : Int) (w : World) (hT : IsTx w v t) (r1 : t.info.length * 24 ≤ 140737488355328) (r2 : t.data.length * 24 ≤ 140737488355328) :
    Calls Try.prog 17 #[v, .int .i64 h, .int .i64 n, .int .i64 free] w fun e w' => ∃ v2, e = .returned (.tuple #[v2, .int .i64 (beginE t h n free)]) ∧ IsTx w' v2 (beginT t h n free) ∧ Below w.heap.size w w' :=
  (tBegin_all v t h n free w hT r1 r2).mono fun _ _ ⟨v2, h1, h2, h3, _⟩ => ⟨v2, h1, h2, h3⟩

end Go.Proofs.Ytjnpndfpajjihab
