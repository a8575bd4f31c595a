/-
  The walk of the document's own Alter: Change.
-/
import Derived.Test.YtjnpndfpajjihabGreatTRefAlt
import Derived.Test.YtjnpndfpajjihabGreatTConcatI
namespace Go.Proofs.YtjnpndfpajjihabGreat
open Go.RowKit

set_option maxHeartbeats 2000000 in
set_option maxRecDepth 100000 in
theorem alter0_form2 (v : Value) (t : Tx) (b : Int) (s : ByteArray) (w : World) (hT : IsTx w v t) (r1 : t.info.length * 24 ≤ 140737488355328) (r2 : t.data.length * 24 ≤ 140737488355328) (hr : reachE t 2 b = 0) (hs : fitsB s = false) :
    Calls Tryz.prog 9 #[.int .i64 0, v, .int .i64 2, .int .i64 b, .string s] w fun e w' => ∃ v2, e = .returned (.tuple #[v2, .int .i64 (changeE t 2 b s)]) ∧ IsTx w' v2 (changeT t 2 b s) ∧ Below w.heap.size w w' ∧ (v2 = v ∨ RowsFrom w.heap.size v2 (changeT t 2 b s)) := by
  have HRZ := hide hr
  have HE : Hid (changeE t 2 b s = 1) := by rw [Hid, changeE, if_neg (by rw [HRZ.out]; simp), if_pos hs]
  clear HRZ
  have HTT : Hid (changeT t 2 b s = t) := by rw [Hid, changeT, if_neg (by rw [HE.out]; decide)]
  have hz : ¬ (s.size : Int) = 32 := by simpa [fitsB] using hs
  clear hs
  have hrk := reach_ok hr
  have hg := hrk.1
  have HO : Hid (t.h2.on = true) := hrk.2.2.1
  have hb0 := hrk.2.2.2.1
  have hb1' := hrk.2.2.2.2
  have hb : withinB b 0 11 = true := withinB_iff.2 ⟨hb0, hb1'⟩
  have hsm := good_small hg
  have hgi := ((goodX_iff t).1 hg).2.2.1
  have RI := hide hgi.1
  have RD := hide hgi.2.1
  have RR := hide hgi.2.2
  clear hrk hgi hr
  have HT := hide hT
  obtain ⟨a, c, a', c', r, d, rfl, hM, hD, hR, n1, n2, n3⟩ := hT
  have HM := hide hM
  have HD := hide hD
  have HR := hide hR
  have N1 := hide n1
  have N2 := hide n2
  have N3 := hide n3
  clear hM hD hR n1 n2 n3
  go_enter Tryz.func9, Tryz.ntmps9
  go_wp2_with fail
  refine (goodTxn_any _ t _ (HT.out.below (bthen (below1 _ _) (below1 _ _))) r1 r2).mono ?_
  rintro e w1 ⟨rfl, hb1⟩
  have hs1 : w.heap.size + 1 < w1.heap.size := by have := hb1.size; simp at this; omega
  have hs1' : w.heap.size < w1.heap.size := by omega
  have K1 := hide (two1 hb1)
  have K2 := hide (two2 hb1)
  obtain ⟨⟨x0, x1, x2, x3, x4, x5, x6, x7, x8, x9⟩, _⟩ := box10 K1.out
  obtain ⟨⟨y0, y1, y2, y3, y4, y5, y6, y7, y8, y9⟩, ff⟩ := box10 K2.out
  have HB1 := hide (bthen (bthen (below1 _ _) (below1 _ _)) hb1)
  clear hb1
  have ho := HO.out
  have HTo : Hid (IsTx w (.agg #[.int .i64 t.seq, .slice a t.info.length c, .slice a' t.data.length c', .slice r t.rev.length d, .bool t.h0.on, .int .i64 t.h0.left, .bool t.h1.on, .int .i64 t.h1.left, .bool true, .int .i64 t.h2.left]) t) := by have := HT.out; rw [ho] at this; exact this
  go_wp2_with (go_at_call 45; refine (isBlock_any _ _).mono ?_; rintro e w' ⟨rfl, rfl⟩)
  refine bodyPost_ret (v := .tuple #[.agg #[.int .i64 t.seq, .slice a t.info.length c, .slice a' t.data.length c', .slice r t.rev.length d, .bool t.h0.on, .int .i64 t.h0.left, .bool t.h1.on, .int .i64 t.h1.left, .bool t.h2.on, .int .i64 t.h2.left], .int .i64 1]) (by simp [results, Tryz.results9, go_sem, y0, y1, y2, y3, y4, y5, y6, y7, y8, y9, ho]) rfl ⟨_, by rw [HE.out], ?_⟩
  refine ⟨?_, ?_, .inl rfl⟩
  · rw [HTT.out]
    refine HT.out.below ?_
    repeat refine Below.setCell ?_ (by simp) _
    exact HB1.out
  · repeat refine Below.setCell ?_ (by simp) _
    exact HB1.out

set_option maxHeartbeats 2000000 in
set_option maxRecDepth 100000 in
theorem alter0_in2 (v : Value) (t : Tx) (b : Int) (s : ByteArray) (w : World) (hT : IsTx w v t) (r1 : t.info.length * 24 ≤ 140737488355328) (r2 : t.data.length * 24 ≤ 140737488355328) (hr : reachE t 2 b = 0) (hs : fitsB s = true) (hd : (textIn b t.data).isSome = true) :
    Calls Tryz.prog 9 #[.int .i64 0, v, .int .i64 2, .int .i64 b, .string s] w fun e w' => ∃ v2, e = .returned (.tuple #[v2, .int .i64 (changeE t 2 b s)]) ∧ IsTx w' v2 (changeT t 2 b s) ∧ Below w.heap.size w w' ∧ (v2 = v ∨ RowsFrom w.heap.size v2 (changeT t 2 b s)) := by
  have HRZ := hide hr
  have HE : Hid (changeE t 2 b s = 8) := by rw [Hid, changeE, if_neg (by rw [HRZ.out]; simp), if_neg (by rw [hs]; simp), if_pos hd]
  clear HRZ
  have HTT : Hid (changeT t 2 b s = t) := by rw [Hid, changeT, if_neg (by rw [HE.out]; decide)]
  have hz : (s.size : Int) = 32 := by simpa [fitsB] using hs
  clear hs
  have hrk := reach_ok hr
  have hg := hrk.1
  have HO : Hid (t.h2.on = true) := hrk.2.2.1
  have hb0 := hrk.2.2.2.1
  have hb1' := hrk.2.2.2.2
  have hb : withinB b 0 11 = true := withinB_iff.2 ⟨hb0, hb1'⟩
  have hsm := good_small hg
  have hgi := ((goodX_iff t).1 hg).2.2.1
  have RI := hide hgi.1
  have RD := hide hgi.2.1
  have RR := hide hgi.2.2
  clear hrk hgi hr
  have HT := hide hT
  obtain ⟨a, c, a', c', r, d, rfl, hM, hD, hR, n1, n2, n3⟩ := hT
  have HM := hide hM
  have HD := hide hD
  have HR := hide hR
  have N1 := hide n1
  have N2 := hide n2
  have N3 := hide n3
  clear hM hD hR n1 n2 n3
  go_enter Tryz.func9, Tryz.ntmps9
  go_wp2_with fail
  refine (goodTxn_any _ t _ (HT.out.below (bthen (below1 _ _) (below1 _ _))) r1 r2).mono ?_
  rintro e w1 ⟨rfl, hb1⟩
  have hs1 : w.heap.size + 1 < w1.heap.size := by have := hb1.size; simp at this; omega
  have hs1' : w.heap.size < w1.heap.size := by omega
  have K1 := hide (two1 hb1)
  have K2 := hide (two2 hb1)
  obtain ⟨⟨x0, x1, x2, x3, x4, x5, x6, x7, x8, x9⟩, _⟩ := box10 K1.out
  obtain ⟨⟨y0, y1, y2, y3, y4, y5, y6, y7, y8, y9⟩, ff⟩ := box10 K2.out
  have HB1 := hide (bthen (bthen (below1 _ _) (below1 _ _)) hb1)
  clear hb1
  have ho := HO.out
  have HTo : Hid (IsTx w (.agg #[.int .i64 t.seq, .slice a t.info.length c, .slice a' t.data.length c', .slice r t.rev.length d, .bool t.h0.on, .int .i64 t.h0.left, .bool t.h1.on, .int .i64 t.h1.left, .bool true, .int .i64 t.h2.left]) t) := by have := HT.out; rw [ho] at this; exact this
  go_wp2_with (go_at_call 45; refine (isBlock_any _ _).mono ?_; rintro e w' ⟨rfl, rfl⟩)
  refine (copyTxn_any _ t _ (HTo.out.below HB1.out) r1 r2 (by omega)).mono ?_
  rintro e w2 ⟨v2, rfl, hN, hb2⟩
  obtain ⟨a1, c1, a2, c2, a3, c3, rfl, ⟨hM1, hD1, hR1, m1, m2, m3⟩, q1, q2, q3⟩ := hN
  have Q1 : Hid (RowC w2 (w.heap.size + 2) (.slice a1 t.info.length c1) t.info) := ⟨a1, c1, rfl, hM1, fun x off e => by have := q1 x off e; omega⟩
  have Q2 : Hid (RowC w2 (w.heap.size + 2) (.slice a2 t.data.length c2) t.data) := ⟨a2, c2, rfl, hD1, fun x off e => by have := q2 x off e; omega⟩
  have Q3 : Hid (RowN w2 (w.heap.size + 2) (.slice a3 t.rev.length c3) t.rev) := ⟨a3, c3, rfl, hR1, fun x off e => by have := q3 x off e; omega⟩
  clear hM1 hD1 hR1 m1 m2 m3 q1 q2 q3 ho HTo HO
  have hs2 : w.heap.size + 1 < w2.heap.size := by have := hb2.size; omega
  have hs2' : w.heap.size < w2.heap.size := by omega
  have K1' := hide (boxKeep hb2 hs1' K1.out)
  have K2' := hide (boxKeep hb2 hs1 K2.out)
  have HB2 := hide (bthen HB1.out hb2)
  clear x0 x1 x2 x3 x4 x5 x6 x7 x8 x9 y0 y1 y2 y3 y4 y5 y6 y7 y8 y9 ff hb2 K1 K2 HB1
  obtain ⟨⟨x0, x1, x2, x3, x4, x5, x6, x7, x8, x9⟩, _⟩ := box10 K1'.out
  obtain ⟨⟨y0, y1, y2, y3, y4, y5, y6, y7, y8, y9⟩, ff⟩ := box10 K2'.out
  go_wp2_with fail
  refine (in_any a' c' t.data b _ (HD.out.below (bthen HB2.out (below1 _ _))) N2.out).mono ?_
  rintro e w4 ⟨rfl, hb4⟩
  have BX4 : Hid (w4.heap[w2.heap.size]? = some (Obj.cells #[.int .i64 t.seq, .slice a1 t.info.length c1, .slice a2 t.data.length c2, .slice a3 t.rev.length c3, .bool t.h0.on, .int .i64 t.h0.left, .bool t.h1.on, .int .i64 t.h1.left, .bool t.h2.on, .int .i64 t.h2.left] 28 (0, 0))) := one1 hb4
  have HW4 : Hid (Below w2.heap.size w2 w4) := bthen (below1 _ _) hb4
  clear hb4
  clear x0 x1 x2 x3 x4 x5 x6 x7 x8 x9 y0 y1 y2 y3 y4 y5 y6 y7 y8 y9 ff
  have KA4 := hide (boxKeep HW4.out hs2' K1'.out)
  have KB4 := hide (boxKeep HW4.out hs2 K2'.out)
  have HB4 := hide (bthen HB2.out HW4.out)
  have hs4 : w2.heap.size < w4.heap.size := (Array.getElem?_eq_some_iff.1 BX4.out).1
  obtain ⟨⟨x0, x1, x2, x3, x4, x5, x6, x7, x8, x9⟩, _⟩ := box10 KA4.out
  obtain ⟨⟨y0, y1, y2, y3, y4, y5, y6, y7, y8, y9⟩, ff⟩ := box10 KB4.out
  obtain ⟨⟨z0, z1, z2, z3, z4, z5, z6, z7, z8, z9⟩, gf⟩ := box10 BX4.out
  go_wp2
  refine bodyPost_ret (v := .tuple #[.agg #[.int .i64 t.seq, .slice a t.info.length c, .slice a' t.data.length c', .slice r t.rev.length d, .bool t.h0.on, .int .i64 t.h0.left, .bool t.h1.on, .int .i64 t.h1.left, .bool t.h2.on, .int .i64 t.h2.left], .int .i64 8]) (by simp [results, Tryz.results9, go_sem, y0, y1, y2, y3, y4, y5, y6, y7, y8, y9]) rfl ⟨_, by rw [HE.out], ?_⟩
  refine ⟨?_, ?_, .inl rfl⟩
  · rw [HTT.out]
    refine HT.out.below ?_
    repeat refine Below.setCell ?_ (by simp) _
    exact HB4.out
  · repeat refine Below.setCell ?_ (by simp) _
    exact HB4.out

set_option maxHeartbeats 2000000 in
set_option maxRecDepth 100000 in
theorem alter0_credit2 (v : Value) (t : Tx) (b : Int) (s : ByteArray) (w : World) (hT : IsTx w v t) (r1 : t.info.length * 24 ≤ 140737488355328) (r2 : t.data.length * 24 ≤ 140737488355328) (hr : reachE t 2 b = 0) (hs : fitsB s = true) (hd : (textIn b t.data).isSome = false) (hi : (textIn b t.info).isSome = false) (ha : amongB t.rev b = false) (hl : t.h2.left = 0) :
    Calls Tryz.prog 9 #[.int .i64 0, v, .int .i64 2, .int .i64 b, .string s] w fun e w' => ∃ v2, e = .returned (.tuple #[v2, .int .i64 (changeE t 2 b s)]) ∧ IsTx w' v2 (changeT t 2 b s) ∧ Below w.heap.size w w' ∧ (v2 = v ∨ RowsFrom w.heap.size v2 (changeT t 2 b s)) := by
  have HRZ := hide hr
  have HE : Hid (changeE t 2 b s = 7) := by rw [Hid, changeE, if_neg (by rw [HRZ.out]; simp), if_neg (by rw [hs]; simp), if_neg (by rw [hd]; simp), nameE, if_neg (by rw [namedB, hi, ha]; simp), if_pos (show (hdAt t 2).left = 0 from hl)]
  clear HRZ
  have HTT : Hid (changeT t 2 b s = t) := by rw [Hid, changeT, if_neg (by rw [HE.out]; decide)]
  have HL := hide hl
  clear hl
  have hz : (s.size : Int) = 32 := by simpa [fitsB] using hs
  clear hs
  have hrk := reach_ok hr
  have hg := hrk.1
  have HO : Hid (t.h2.on = true) := hrk.2.2.1
  have hb0 := hrk.2.2.2.1
  have hb1' := hrk.2.2.2.2
  have hb : withinB b 0 11 = true := withinB_iff.2 ⟨hb0, hb1'⟩
  have hsm := good_small hg
  have hgi := ((goodX_iff t).1 hg).2.2.1
  have RI := hide hgi.1
  have RD := hide hgi.2.1
  have RR := hide hgi.2.2
  clear hrk hgi hr
  have HT := hide hT
  obtain ⟨a, c, a', c', r, d, rfl, hM, hD, hR, n1, n2, n3⟩ := hT
  have HM := hide hM
  have HD := hide hD
  have HR := hide hR
  have N1 := hide n1
  have N2 := hide n2
  have N3 := hide n3
  clear hM hD hR n1 n2 n3
  go_enter Tryz.func9, Tryz.ntmps9
  go_wp2_with fail
  refine (goodTxn_any _ t _ (HT.out.below (bthen (below1 _ _) (below1 _ _))) r1 r2).mono ?_
  rintro e w1 ⟨rfl, hb1⟩
  have hs1 : w.heap.size + 1 < w1.heap.size := by have := hb1.size; simp at this; omega
  have hs1' : w.heap.size < w1.heap.size := by omega
  have K1 := hide (two1 hb1)
  have K2 := hide (two2 hb1)
  obtain ⟨⟨x0, x1, x2, x3, x4, x5, x6, x7, x8, x9⟩, _⟩ := box10 K1.out
  obtain ⟨⟨y0, y1, y2, y3, y4, y5, y6, y7, y8, y9⟩, ff⟩ := box10 K2.out
  have HB1 := hide (bthen (bthen (below1 _ _) (below1 _ _)) hb1)
  clear hb1
  have ho := HO.out
  have HTo : Hid (IsTx w (.agg #[.int .i64 t.seq, .slice a t.info.length c, .slice a' t.data.length c', .slice r t.rev.length d, .bool t.h0.on, .int .i64 t.h0.left, .bool t.h1.on, .int .i64 t.h1.left, .bool true, .int .i64 t.h2.left]) t) := by have := HT.out; rw [ho] at this; exact this
  go_wp2_with (go_at_call 45; refine (isBlock_any _ _).mono ?_; rintro e w' ⟨rfl, rfl⟩)
  refine (copyTxn_any _ t _ (HTo.out.below HB1.out) r1 r2 (by omega)).mono ?_
  rintro e w2 ⟨v2, rfl, hN, hb2⟩
  obtain ⟨a1, c1, a2, c2, a3, c3, rfl, ⟨hM1, hD1, hR1, m1, m2, m3⟩, q1, q2, q3⟩ := hN
  have Q1 : Hid (RowC w2 (w.heap.size + 2) (.slice a1 t.info.length c1) t.info) := ⟨a1, c1, rfl, hM1, fun x off e => by have := q1 x off e; omega⟩
  have Q2 : Hid (RowC w2 (w.heap.size + 2) (.slice a2 t.data.length c2) t.data) := ⟨a2, c2, rfl, hD1, fun x off e => by have := q2 x off e; omega⟩
  have Q3 : Hid (RowN w2 (w.heap.size + 2) (.slice a3 t.rev.length c3) t.rev) := ⟨a3, c3, rfl, hR1, fun x off e => by have := q3 x off e; omega⟩
  clear hM1 hD1 hR1 m1 m2 m3 q1 q2 q3 ho HTo HO
  have hs2 : w.heap.size + 1 < w2.heap.size := by have := hb2.size; omega
  have hs2' : w.heap.size < w2.heap.size := by omega
  have K1' := hide (boxKeep hb2 hs1' K1.out)
  have K2' := hide (boxKeep hb2 hs1 K2.out)
  have HB2 := hide (bthen HB1.out hb2)
  clear x0 x1 x2 x3 x4 x5 x6 x7 x8 x9 y0 y1 y2 y3 y4 y5 y6 y7 y8 y9 ff hb2 K1 K2 HB1
  obtain ⟨⟨x0, x1, x2, x3, x4, x5, x6, x7, x8, x9⟩, _⟩ := box10 K1'.out
  obtain ⟨⟨y0, y1, y2, y3, y4, y5, y6, y7, y8, y9⟩, ff⟩ := box10 K2'.out
  go_wp2_with fail
  refine (in_any a' c' t.data b _ (HD.out.below (bthen HB2.out (below1 _ _))) N2.out).mono ?_
  rintro e w4 ⟨rfl, hb4⟩
  have BX4 : Hid (w4.heap[w2.heap.size]? = some (Obj.cells #[.int .i64 t.seq, .slice a1 t.info.length c1, .slice a2 t.data.length c2, .slice a3 t.rev.length c3, .bool t.h0.on, .int .i64 t.h0.left, .bool t.h1.on, .int .i64 t.h1.left, .bool t.h2.on, .int .i64 t.h2.left] 28 (0, 0))) := one1 hb4
  have HW4 : Hid (Below w2.heap.size w2 w4) := bthen (below1 _ _) hb4
  clear hb4
  clear x0 x1 x2 x3 x4 x5 x6 x7 x8 x9 y0 y1 y2 y3 y4 y5 y6 y7 y8 y9 ff
  have KA4 := hide (boxKeep HW4.out hs2' K1'.out)
  have KB4 := hide (boxKeep HW4.out hs2 K2'.out)
  have HB4 := hide (bthen HB2.out HW4.out)
  have hs4 : w2.heap.size < w4.heap.size := (Array.getElem?_eq_some_iff.1 BX4.out).1
  obtain ⟨⟨x0, x1, x2, x3, x4, x5, x6, x7, x8, x9⟩, _⟩ := box10 KA4.out
  obtain ⟨⟨y0, y1, y2, y3, y4, y5, y6, y7, y8, y9⟩, ff⟩ := box10 KB4.out
  obtain ⟨⟨z0, z1, z2, z3, z4, z5, z6, z7, z8, z9⟩, gf⟩ := box10 BX4.out
  go_wp2_with fail
  refine (in_any a c t.info b _ (HM.out.below HB4.out) N1.out).mono ?_
  rintro e w5 ⟨rfl, hb5⟩
  have BX5 := hide (boxKeep hb5 hs4 BX4.out)
  have HW5 := hide (bthen HW4.out hb5)
  clear hb5 BX4 HW4 KA4 KB4 HB4
  clear x0 x1 x2 x3 x4 x5 x6 x7 x8 x9 y0 y1 y2 y3 y4 y5 y6 y7 y8 y9 ff z0 z1 z2 z3 z4 z5 z6 z7 z8 z9 gf
  have KA5 := hide (boxKeep HW5.out hs2' K1'.out)
  have KB5 := hide (boxKeep HW5.out hs2 K2'.out)
  have HB5 := hide (bthen HB2.out HW5.out)
  have hs5 : w2.heap.size < w5.heap.size := (Array.getElem?_eq_some_iff.1 BX5.out).1
  obtain ⟨⟨x0, x1, x2, x3, x4, x5, x6, x7, x8, x9⟩, _⟩ := box10 KA5.out
  obtain ⟨⟨y0, y1, y2, y3, y4, y5, y6, y7, y8, y9⟩, ff⟩ := box10 KB5.out
  obtain ⟨⟨z0, z1, z2, z3, z4, z5, z6, z7, z8, z9⟩, gf⟩ := box10 BX5.out
  go_wp2_with fail
  refine (among_any r d t.rev b _ (HR.out.below HB5.out) N3.out).mono ?_
  rintro e w' ⟨rfl, rfl⟩
  have hl := HL.out
  go_wp2
  refine bodyPost_ret (v := .tuple #[.agg #[.int .i64 t.seq, .slice a t.info.length c, .slice a' t.data.length c', .slice r t.rev.length d, .bool t.h0.on, .int .i64 t.h0.left, .bool t.h1.on, .int .i64 t.h1.left, .bool t.h2.on, .int .i64 t.h2.left], .int .i64 7]) (by simp [results, Tryz.results9, go_sem, y0, y1, y2, y3, y4, y5, y6, y7, y8, y9, hl]) rfl ⟨_, by rw [HE.out], ?_⟩
  refine ⟨?_, ?_, .inl rfl⟩
  · rw [HTT.out]
    refine HT.out.below ?_
    repeat refine Below.setCell ?_ (by simp) _
    exact HB5.out
  · repeat refine Below.setCell ?_ (by simp) _
    exact HB5.out

set_option maxHeartbeats 2000000 in
set_option maxRecDepth 100000 in
theorem alter0_had2 (v : Value) (t : Tx) (b : Int) (s : ByteArray) (w : World) (hT : IsTx w v t) (r1 : t.info.length * 24 ≤ 140737488355328) (r2 : t.data.length * 24 ≤ 140737488355328) (hr : reachE t 2 b = 0) (hs : fitsB s = true) (hd : (textIn b t.data).isSome = false) (hi : (textIn b t.info).isSome = true) :
    Calls Tryz.prog 9 #[.int .i64 0, v, .int .i64 2, .int .i64 b, .string s] w fun e w' => ∃ v2, e = .returned (.tuple #[v2, .int .i64 (changeE t 2 b s)]) ∧ IsTx w' v2 (changeT t 2 b s) ∧ Below w.heap.size w w' ∧ (v2 = v ∨ RowsFrom w.heap.size v2 (changeT t 2 b s)) := by
  have HRZ := hide hr
  have HE : Hid (changeE t 2 b s = 0) := by rw [Hid, changeE, if_neg (by rw [HRZ.out]; simp), if_neg (by rw [hs]; simp), if_neg (by rw [hd]; simp), nameE, if_pos (by rw [namedB, hi]; rfl)]
  clear HRZ
  have HTT : Hid (changeT t 2 b s = { t with info := putAt (·.1) t.info b (b, s), rev := dropAt id t.rev b }) := by rw [Hid, changeT, if_pos HE.out, changeY, nameT, if_pos (by rw [namedB, hi]; rfl)]
  have hz : (s.size : Int) = 32 := by simpa [fitsB] using hs
  clear hs
  have hrk := reach_ok hr
  have hg := hrk.1
  have HO : Hid (t.h2.on = true) := hrk.2.2.1
  have hb0 := hrk.2.2.2.1
  have hb1' := hrk.2.2.2.2
  have hb : withinB b 0 11 = true := withinB_iff.2 ⟨hb0, hb1'⟩
  have hsm := good_small hg
  have hgi := ((goodX_iff t).1 hg).2.2.1
  have RI := hide hgi.1
  have RD := hide hgi.2.1
  have RR := hide hgi.2.2
  clear hrk hgi hr
  have HT := hide hT
  obtain ⟨a, c, a', c', r, d, rfl, hM, hD, hR, n1, n2, n3⟩ := hT
  have HM := hide hM
  have HD := hide hD
  have HR := hide hR
  have N1 := hide n1
  have N2 := hide n2
  have N3 := hide n3
  clear hM hD hR n1 n2 n3
  go_enter Tryz.func9, Tryz.ntmps9
  go_wp2_with fail
  refine (goodTxn_any _ t _ (HT.out.below (bthen (below1 _ _) (below1 _ _))) r1 r2).mono ?_
  rintro e w1 ⟨rfl, hb1⟩
  have hs1 : w.heap.size + 1 < w1.heap.size := by have := hb1.size; simp at this; omega
  have hs1' : w.heap.size < w1.heap.size := by omega
  have K1 := hide (two1 hb1)
  have K2 := hide (two2 hb1)
  obtain ⟨⟨x0, x1, x2, x3, x4, x5, x6, x7, x8, x9⟩, _⟩ := box10 K1.out
  obtain ⟨⟨y0, y1, y2, y3, y4, y5, y6, y7, y8, y9⟩, ff⟩ := box10 K2.out
  have HB1 := hide (bthen (bthen (below1 _ _) (below1 _ _)) hb1)
  clear hb1
  have ho := HO.out
  have HTo : Hid (IsTx w (.agg #[.int .i64 t.seq, .slice a t.info.length c, .slice a' t.data.length c', .slice r t.rev.length d, .bool t.h0.on, .int .i64 t.h0.left, .bool t.h1.on, .int .i64 t.h1.left, .bool true, .int .i64 t.h2.left]) t) := by have := HT.out; rw [ho] at this; exact this
  go_wp2_with (go_at_call 45; refine (isBlock_any _ _).mono ?_; rintro e w' ⟨rfl, rfl⟩)
  refine (copyTxn_any _ t _ (HTo.out.below HB1.out) r1 r2 (by omega)).mono ?_
  rintro e w2 ⟨v2, rfl, hN, hb2⟩
  obtain ⟨a1, c1, a2, c2, a3, c3, rfl, ⟨hM1, hD1, hR1, m1, m2, m3⟩, q1, q2, q3⟩ := hN
  have Q1 : Hid (RowC w2 (w.heap.size + 2) (.slice a1 t.info.length c1) t.info) := ⟨a1, c1, rfl, hM1, fun x off e => by have := q1 x off e; omega⟩
  have Q2 : Hid (RowC w2 (w.heap.size + 2) (.slice a2 t.data.length c2) t.data) := ⟨a2, c2, rfl, hD1, fun x off e => by have := q2 x off e; omega⟩
  have Q3 : Hid (RowN w2 (w.heap.size + 2) (.slice a3 t.rev.length c3) t.rev) := ⟨a3, c3, rfl, hR1, fun x off e => by have := q3 x off e; omega⟩
  clear hM1 hD1 hR1 m1 m2 m3 q1 q2 q3 ho HTo HO
  have hs2 : w.heap.size + 1 < w2.heap.size := by have := hb2.size; omega
  have hs2' : w.heap.size < w2.heap.size := by omega
  have K1' := hide (boxKeep hb2 hs1' K1.out)
  have K2' := hide (boxKeep hb2 hs1 K2.out)
  have HB2 := hide (bthen HB1.out hb2)
  clear x0 x1 x2 x3 x4 x5 x6 x7 x8 x9 y0 y1 y2 y3 y4 y5 y6 y7 y8 y9 ff hb2 K1 K2 HB1
  obtain ⟨⟨x0, x1, x2, x3, x4, x5, x6, x7, x8, x9⟩, _⟩ := box10 K1'.out
  obtain ⟨⟨y0, y1, y2, y3, y4, y5, y6, y7, y8, y9⟩, ff⟩ := box10 K2'.out
  go_wp2_with fail
  refine (in_any a' c' t.data b _ (HD.out.below (bthen HB2.out (below1 _ _))) N2.out).mono ?_
  rintro e w4 ⟨rfl, hb4⟩
  have BX4 : Hid (w4.heap[w2.heap.size]? = some (Obj.cells #[.int .i64 t.seq, .slice a1 t.info.length c1, .slice a2 t.data.length c2, .slice a3 t.rev.length c3, .bool t.h0.on, .int .i64 t.h0.left, .bool t.h1.on, .int .i64 t.h1.left, .bool t.h2.on, .int .i64 t.h2.left] 28 (0, 0))) := one1 hb4
  have HW4 : Hid (Below w2.heap.size w2 w4) := bthen (below1 _ _) hb4
  clear hb4
  clear x0 x1 x2 x3 x4 x5 x6 x7 x8 x9 y0 y1 y2 y3 y4 y5 y6 y7 y8 y9 ff
  have KA4 := hide (boxKeep HW4.out hs2' K1'.out)
  have KB4 := hide (boxKeep HW4.out hs2 K2'.out)
  have HB4 := hide (bthen HB2.out HW4.out)
  have hs4 : w2.heap.size < w4.heap.size := (Array.getElem?_eq_some_iff.1 BX4.out).1
  obtain ⟨⟨x0, x1, x2, x3, x4, x5, x6, x7, x8, x9⟩, _⟩ := box10 KA4.out
  obtain ⟨⟨y0, y1, y2, y3, y4, y5, y6, y7, y8, y9⟩, ff⟩ := box10 KB4.out
  obtain ⟨⟨z0, z1, z2, z3, z4, z5, z6, z7, z8, z9⟩, gf⟩ := box10 BX4.out
  go_wp2_with fail
  refine (in_any a c t.info b _ (HM.out.below HB4.out) N1.out).mono ?_
  rintro e w5 ⟨rfl, hb5⟩
  have BX5 := hide (boxKeep hb5 hs4 BX4.out)
  have HW5 := hide (bthen HW4.out hb5)
  clear hb5 BX4 HW4 KA4 KB4 HB4
  clear x0 x1 x2 x3 x4 x5 x6 x7 x8 x9 y0 y1 y2 y3 y4 y5 y6 y7 y8 y9 ff z0 z1 z2 z3 z4 z5 z6 z7 z8 z9 gf
  have KA5 := hide (boxKeep HW5.out hs2' K1'.out)
  have KB5 := hide (boxKeep HW5.out hs2 K2'.out)
  have HB5 := hide (bthen HB2.out HW5.out)
  have hs5 : w2.heap.size < w5.heap.size := (Array.getElem?_eq_some_iff.1 BX5.out).1
  obtain ⟨⟨x0, x1, x2, x3, x4, x5, x6, x7, x8, x9⟩, _⟩ := box10 KA5.out
  obtain ⟨⟨y0, y1, y2, y3, y4, y5, y6, y7, y8, y9⟩, ff⟩ := box10 KB5.out
  obtain ⟨⟨z0, z1, z2, z3, z4, z5, z6, z7, z8, z9⟩, gf⟩ := box10 BX5.out
  go_wp2
  go_loopw [115] (fun i wr => ∃ j : Nat, j ≤ 12 ∧ i = .int .i64 j ∧ ∃ vr : Value, Hid (wr.heap[w2.heap.size]? = some (Obj.cells #[.int .i64 t.seq, .slice a1 t.info.length c1, .slice a2 t.data.length c2, vr, .bool t.h0.on, .int .i64 t.h0.left, .bool t.h1.on, .int .i64 t.h1.left, .bool t.h2.on, .int .i64 t.h2.left] 28 (0, 0))) ∧ Hid (wr.ownsRow (w2.heap.size + 1) 3 1 vr ((List.range j).flatMap (docR t.rev b false)).length (cellsI ((List.range j).flatMap (docR t.rev b false)))) ∧ Hid (Below w2.heap.size w2 wr)) (fun i _ => 12 - (intOf i).toNat)
  case atStart => exact ⟨0, Nat.zero_le _, rfl, .slice none 0 0, heap_setCell_same w5 w2.heap.size 3 _ _ (.slice none 0 0) BX5.out, World.ownsRow_nil _ _ _ _, (HW5.out.setCell (Nat.le_refl _) _)⟩
  case round =>
    clear x0 x1 x2 x3 x4 x5 x6 x7 x8 x9 y0 y1 y2 y3 y4 y5 y6 y7 y8 y9 ff z0 z1 z2 z3 z4 z5 z6 z7 z8 z9 gf KA5 KB5 HB5 BX5 HW5 hs5
    obtain ⟨j, hj, rfl, vr, BX8, hown, HW8⟩ := hrel
    obtain ⟨w8, rfl⟩ : ∃ w8, w8 = wr := ⟨_, rfl⟩
    have KA8 := hide (boxKeep HW8.out hs2' K1'.out)
    have KB8 := hide (boxKeep HW8.out hs2 K2'.out)
    have HB8 := hide (bthen HB2.out HW8.out)
    have hs8 : w2.heap.size < w8.heap.size := (Array.getElem?_eq_some_iff.1 BX8.out).1
    obtain ⟨⟨x0, x1, x2, x3, x4, x5, x6, x7, x8, x9⟩, _⟩ := box10 KA8.out
    obtain ⟨⟨y0, y1, y2, y3, y4, y5, y6, y7, y8, y9⟩, ff⟩ := box10 KB8.out
    obtain ⟨⟨z0, z1, z2, z3, z4, z5, z6, z7, z8, z9⟩, gf⟩ := box10 BX8.out
    by_cases hlt : j < 12
    · have hlt' : (j : Int) < 12 := by omega
      have hq := flat_le (docR t.rev b false) (docR_le t.rev b false) j
      have HF := hide (flat_succ (docR t.rev b false) j)
      generalize (List.range j).flatMap (docR t.rev b false) = q at *
      by_cases he : (j : Int) = b
      · have he' : ((j : Int) == b) = true := by simpa using he
        have HF2 : Hid ((List.range (j + 1)).flatMap (docR t.rev b false) = q) := by rw [Hid, HF.out, docR, if_neg (by simp [he])]; simp
        clear HF
        go_wp2
        go_roundw
        case rel => exact ⟨j + 1, by omega, by go_num, vr, BX8, by rw [HF2.out]; exact hown, HW8⟩
        case measure => simp [intOf]; omega
      · have he' : ((j : Int) == b) = false := by simpa using he
        go_wp2_with fail
        refine (among_any r d t.rev (j : Int) _ (HR.out.below HB8.out) N3.out).mono ?_
        rintro e w' ⟨rfl, rfl⟩
        cases hm : amongB t.rev (j : Int) with
        | false =>
          have HF2 : Hid ((List.range (j + 1)).flatMap (docR t.rev b false) = q) := by rw [Hid, HF.out, docR, if_neg (by simp [he, hm])]; simp
          clear HF
          go_wp2
          go_roundw
          case rel => exact ⟨j + 1, by omega, by go_num, vr, BX8, by rw [HF2.out]; exact hown, HW8⟩
          case measure => simp [intOf]; omega
        | true =>
          have HF2 : Hid ((List.range (j + 1)).flatMap (docR t.rev b false) = q ++ [(j : Int)]) := by rw [Hid, HF.out, docR, if_pos (.inr ⟨he, hm⟩)]
          clear HF
          go_wp2_with (at_builtin; refine wpList_appI _ _ (w2.heap.size + 1) rfl _ _ rfl _ q.length (cellsI q) rfl (owns_keep hown.out (below1 _ _)) (some ⟨w8.heap.size, 0, none⟩) 1 [(j : Int)] rfl (.inr ⟨w8.heap.size, 0, rfl, by simp, fun i hi => ?_⟩) (by simp; omega) (by have := hs8; simp; omega) (Below.refl _ _) ?_)
          · have : i = 0 := by simpa using hi
            subst this
            simp [go_sem]
          · intro v' w9 hown' hB'
            have BX9 := hide ((hB'.out.block w2.heap.size (Nat.lt_succ_self _)).trans ((Below.heap_alloc _ _ _ hs8).trans BX8.out))
            have HW9 := hide ((bthen HW8.out (below1 _ _)).trans (hB'.out.mono (Nat.le_succ _)))
            have HN9 : Hid (w9.ownsRow (w2.heap.size + 1) 3 1 v' (q ++ [(j : Int)]).length (cellsI (q ++ [(j : Int)]))) := by rw [Hid, List.length_append, cellsI_append]; exact hown'.out
            obtain ⟨q2, hq2⟩ : ∃ q2, q2 = q ++ [(j : Int)] := ⟨_, rfl⟩
            rw [← hq2] at HN9 HF2
            clear hown' hB' hq2
            obtain ⟨p9, r9, rfl, _, _⟩ := SegI.of_owns HN9.out
            clear hown BX8 HW8 KA8 KB8 HB8
            clear x0 x1 x2 x3 x4 x5 x6 x7 x8 x9 y0 y1 y2 y3 y4 y5 y6 y7 y8 y9 ff z0 z1 z2 z3 z4 z5 z6 z7 z8 z9 gf
            have KA9 := hide (boxKeep HW9.out hs2' K1'.out)
            have KB9 := hide (boxKeep HW9.out hs2 K2'.out)
            have HB9 := hide (bthen HB2.out HW9.out)
            have hs9 : w2.heap.size < w9.heap.size := (Array.getElem?_eq_some_iff.1 BX9.out).1
            obtain ⟨⟨x0, x1, x2, x3, x4, x5, x6, x7, x8, x9⟩, _⟩ := box10 KA9.out
            obtain ⟨⟨y0, y1, y2, y3, y4, y5, y6, y7, y8, y9⟩, ff⟩ := box10 KB9.out
            obtain ⟨⟨z0, z1, z2, z3, z4, z5, z6, z7, z8, z9⟩, gf⟩ := box10 BX9.out
            go_wp2
            go_roundw
            case rel => exact ⟨j + 1, by omega, by go_num, _, heap_setCell_same w9 w2.heap.size 3 _ _ _ BX9.out, by rw [HF2.out]; exact ownsRow_setCell_below HN9.out (by simp) _, HW9.out.setCell (Nat.le_refl _) _⟩
            case measure => simp [intOf]; omega
    · have e : j = 12 := by omega
      subst e
      rw [docR_drop RR.out] at hown
      obtain ⟨p3, r3, rfl, _, _⟩ := SegI.of_owns hown.out
      go_wp2_with fail
      refine (refWith_any a c t.info b s _ (HM.out.below HB8.out) N1.out).mono ?_
      rintro e w10 ⟨v10, rfl, ho10, hb10⟩
      rw [docW_all RI.out hb0 hb1' s] at ho10
      obtain ⟨p10, q10, rfl, _, _⟩ := SegC.of_owns ho10
      have HO10 := hide ho10
      have HOR := hide (owns_keep hown.out hb10)
      have BX10 := hide (boxKeep hb10 hs8 BX8.out)
      have HW10 := hide (bthen HW8.out hb10)
      clear hb10 ho10 hown BX8 HW8 KA8 KB8 HB8
      clear x0 x1 x2 x3 x4 x5 x6 x7 x8 x9 y0 y1 y2 y3 y4 y5 y6 y7 y8 y9 ff z0 z1 z2 z3 z4 z5 z6 z7 z8 z9 gf
      have KA10 := hide (boxKeep HW10.out hs2' K1'.out)
      have KB10 := hide (boxKeep HW10.out hs2 K2'.out)
      have HB10 := hide (bthen HB2.out HW10.out)
      have hs10 : w2.heap.size < w10.heap.size := (Array.getElem?_eq_some_iff.1 BX10.out).1
      obtain ⟨⟨x0, x1, x2, x3, x4, x5, x6, x7, x8, x9⟩, _⟩ := box10 KA10.out
      obtain ⟨⟨y0, y1, y2, y3, y4, y5, y6, y7, y8, y9⟩, ff⟩ := box10 KB10.out
      obtain ⟨⟨z0, z1, z2, z3, z4, z5, z6, z7, z8, z9⟩, gf⟩ := box10 BX10.out
      go_wp2
      refine bodyPost_ret (v := .tuple #[.agg #[.int .i64 t.seq, .slice p10 (putAt (·.1) t.info b (b, s)).length q10, .slice a2 t.data.length c2, .slice p3 (dropAt id t.rev b).length r3, .bool t.h0.on, .int .i64 t.h0.left, .bool t.h1.on, .int .i64 t.h1.left, .bool t.h2.on, .int .i64 t.h2.left], .int .i64 0]) (by simp [results, Tryz.results9, go_sem, y0, y1, y2, y3, y4, y5, y6, y7, y8, y9]) rfl ⟨_, by rw [HE.out], ?_⟩
      rw [HTT.out]
      refine ⟨?_, ?_, .inr (Rows3.from (lo := w.heap.size + 2) (T := t) ⟨RowC.owned HO10.out (by omega), Q2.out.below HW10.out, RowN.owned HOR.out (by omega)⟩ (by omega))⟩
      · refine Rows3.is (lo := w.heap.size + 2) (T := t) ?_ (by have := putLe (·.1) t.info b (b, s); omega) (by omega) (by have := dropLe id t.rev b; omega)
        iterate 10 (refine Rows3.set ?_ (by simp) _)
        exact ⟨RowC.owned (ownsRow_setCell_below HO10.out hs8 _) (by omega), Q2.out.below (HW10.out.setCell (Nat.le_refl _) _), RowN.owned (ownsRow_setCell_below HOR.out (by simp) _) (by omega)⟩
      · iterate 10 (refine Below.setCell ?_ (by simp) _)
        exact HB10.out.setCell (p := ⟨w2.heap.size, 1, none⟩) (by simp; omega) _

set_option maxHeartbeats 2000000 in
set_option maxRecDepth 100000 in
theorem alter0_rev2 (v : Value) (t : Tx) (b : Int) (s : ByteArray) (w : World) (hT : IsTx w v t) (r1 : t.info.length * 24 ≤ 140737488355328) (r2 : t.data.length * 24 ≤ 140737488355328) (hr : reachE t 2 b = 0) (hs : fitsB s = true) (hd : (textIn b t.data).isSome = false) (hi : (textIn b t.info).isSome = false) (ha : amongB t.rev b = true) :
    Calls Tryz.prog 9 #[.int .i64 0, v, .int .i64 2, .int .i64 b, .string s] w fun e w' => ∃ v2, e = .returned (.tuple #[v2, .int .i64 (changeE t 2 b s)]) ∧ IsTx w' v2 (changeT t 2 b s) ∧ Below w.heap.size w w' ∧ (v2 = v ∨ RowsFrom w.heap.size v2 (changeT t 2 b s)) := by
  have HRZ := hide hr
  have HE : Hid (changeE t 2 b s = 0) := by rw [Hid, changeE, if_neg (by rw [HRZ.out]; simp), if_neg (by rw [hs]; simp), if_neg (by rw [hd]; simp), nameE, if_pos (by rw [namedB, hi, ha]; rfl)]
  clear HRZ
  have HTT : Hid (changeT t 2 b s = { t with info := putAt (·.1) t.info b (b, s), rev := dropAt id t.rev b }) := by rw [Hid, changeT, if_pos HE.out, changeY, nameT, if_pos (by rw [namedB, hi, ha]; rfl)]
  have hz : (s.size : Int) = 32 := by simpa [fitsB] using hs
  clear hs
  have hrk := reach_ok hr
  have hg := hrk.1
  have HO : Hid (t.h2.on = true) := hrk.2.2.1
  have hb0 := hrk.2.2.2.1
  have hb1' := hrk.2.2.2.2
  have hb : withinB b 0 11 = true := withinB_iff.2 ⟨hb0, hb1'⟩
  have hsm := good_small hg
  have hgi := ((goodX_iff t).1 hg).2.2.1
  have RI := hide hgi.1
  have RD := hide hgi.2.1
  have RR := hide hgi.2.2
  clear hrk hgi hr
  have HT := hide hT
  obtain ⟨a, c, a', c', r, d, rfl, hM, hD, hR, n1, n2, n3⟩ := hT
  have HM := hide hM
  have HD := hide hD
  have HR := hide hR
  have N1 := hide n1
  have N2 := hide n2
  have N3 := hide n3
  clear hM hD hR n1 n2 n3
  go_enter Tryz.func9, Tryz.ntmps9
  go_wp2_with fail
  refine (goodTxn_any _ t _ (HT.out.below (bthen (below1 _ _) (below1 _ _))) r1 r2).mono ?_
  rintro e w1 ⟨rfl, hb1⟩
  have hs1 : w.heap.size + 1 < w1.heap.size := by have := hb1.size; simp at this; omega
  have hs1' : w.heap.size < w1.heap.size := by omega
  have K1 := hide (two1 hb1)
  have K2 := hide (two2 hb1)
  obtain ⟨⟨x0, x1, x2, x3, x4, x5, x6, x7, x8, x9⟩, _⟩ := box10 K1.out
  obtain ⟨⟨y0, y1, y2, y3, y4, y5, y6, y7, y8, y9⟩, ff⟩ := box10 K2.out
  have HB1 := hide (bthen (bthen (below1 _ _) (below1 _ _)) hb1)
  clear hb1
  have ho := HO.out
  have HTo : Hid (IsTx w (.agg #[.int .i64 t.seq, .slice a t.info.length c, .slice a' t.data.length c', .slice r t.rev.length d, .bool t.h0.on, .int .i64 t.h0.left, .bool t.h1.on, .int .i64 t.h1.left, .bool true, .int .i64 t.h2.left]) t) := by have := HT.out; rw [ho] at this; exact this
  go_wp2_with (go_at_call 45; refine (isBlock_any _ _).mono ?_; rintro e w' ⟨rfl, rfl⟩)
  refine (copyTxn_any _ t _ (HTo.out.below HB1.out) r1 r2 (by omega)).mono ?_
  rintro e w2 ⟨v2, rfl, hN, hb2⟩
  obtain ⟨a1, c1, a2, c2, a3, c3, rfl, ⟨hM1, hD1, hR1, m1, m2, m3⟩, q1, q2, q3⟩ := hN
  have Q1 : Hid (RowC w2 (w.heap.size + 2) (.slice a1 t.info.length c1) t.info) := ⟨a1, c1, rfl, hM1, fun x off e => by have := q1 x off e; omega⟩
  have Q2 : Hid (RowC w2 (w.heap.size + 2) (.slice a2 t.data.length c2) t.data) := ⟨a2, c2, rfl, hD1, fun x off e => by have := q2 x off e; omega⟩
  have Q3 : Hid (RowN w2 (w.heap.size + 2) (.slice a3 t.rev.length c3) t.rev) := ⟨a3, c3, rfl, hR1, fun x off e => by have := q3 x off e; omega⟩
  clear hM1 hD1 hR1 m1 m2 m3 q1 q2 q3 ho HTo HO
  have hs2 : w.heap.size + 1 < w2.heap.size := by have := hb2.size; omega
  have hs2' : w.heap.size < w2.heap.size := by omega
  have K1' := hide (boxKeep hb2 hs1' K1.out)
  have K2' := hide (boxKeep hb2 hs1 K2.out)
  have HB2 := hide (bthen HB1.out hb2)
  clear x0 x1 x2 x3 x4 x5 x6 x7 x8 x9 y0 y1 y2 y3 y4 y5 y6 y7 y8 y9 ff hb2 K1 K2 HB1
  obtain ⟨⟨x0, x1, x2, x3, x4, x5, x6, x7, x8, x9⟩, _⟩ := box10 K1'.out
  obtain ⟨⟨y0, y1, y2, y3, y4, y5, y6, y7, y8, y9⟩, ff⟩ := box10 K2'.out
  go_wp2_with fail
  refine (in_any a' c' t.data b _ (HD.out.below (bthen HB2.out (below1 _ _))) N2.out).mono ?_
  rintro e w4 ⟨rfl, hb4⟩
  have BX4 : Hid (w4.heap[w2.heap.size]? = some (Obj.cells #[.int .i64 t.seq, .slice a1 t.info.length c1, .slice a2 t.data.length c2, .slice a3 t.rev.length c3, .bool t.h0.on, .int .i64 t.h0.left, .bool t.h1.on, .int .i64 t.h1.left, .bool t.h2.on, .int .i64 t.h2.left] 28 (0, 0))) := one1 hb4
  have HW4 : Hid (Below w2.heap.size w2 w4) := bthen (below1 _ _) hb4
  clear hb4
  clear x0 x1 x2 x3 x4 x5 x6 x7 x8 x9 y0 y1 y2 y3 y4 y5 y6 y7 y8 y9 ff
  have KA4 := hide (boxKeep HW4.out hs2' K1'.out)
  have KB4 := hide (boxKeep HW4.out hs2 K2'.out)
  have HB4 := hide (bthen HB2.out HW4.out)
  have hs4 : w2.heap.size < w4.heap.size := (Array.getElem?_eq_some_iff.1 BX4.out).1
  obtain ⟨⟨x0, x1, x2, x3, x4, x5, x6, x7, x8, x9⟩, _⟩ := box10 KA4.out
  obtain ⟨⟨y0, y1, y2, y3, y4, y5, y6, y7, y8, y9⟩, ff⟩ := box10 KB4.out
  obtain ⟨⟨z0, z1, z2, z3, z4, z5, z6, z7, z8, z9⟩, gf⟩ := box10 BX4.out
  go_wp2_with fail
  refine (in_any a c t.info b _ (HM.out.below HB4.out) N1.out).mono ?_
  rintro e w5 ⟨rfl, hb5⟩
  have BX5 := hide (boxKeep hb5 hs4 BX4.out)
  have HW5 := hide (bthen HW4.out hb5)
  clear hb5 BX4 HW4 KA4 KB4 HB4
  clear x0 x1 x2 x3 x4 x5 x6 x7 x8 x9 y0 y1 y2 y3 y4 y5 y6 y7 y8 y9 ff z0 z1 z2 z3 z4 z5 z6 z7 z8 z9 gf
  have KA5 := hide (boxKeep HW5.out hs2' K1'.out)
  have KB5 := hide (boxKeep HW5.out hs2 K2'.out)
  have HB5 := hide (bthen HB2.out HW5.out)
  have hs5 : w2.heap.size < w5.heap.size := (Array.getElem?_eq_some_iff.1 BX5.out).1
  obtain ⟨⟨x0, x1, x2, x3, x4, x5, x6, x7, x8, x9⟩, _⟩ := box10 KA5.out
  obtain ⟨⟨y0, y1, y2, y3, y4, y5, y6, y7, y8, y9⟩, ff⟩ := box10 KB5.out
  obtain ⟨⟨z0, z1, z2, z3, z4, z5, z6, z7, z8, z9⟩, gf⟩ := box10 BX5.out
  go_wp2_with fail
  refine (among_any r d t.rev b _ (HR.out.below HB5.out) N3.out).mono ?_
  rintro e w' ⟨rfl, rfl⟩
  go_wp2
  go_loopw [115] (fun i wr => ∃ j : Nat, j ≤ 12 ∧ i = .int .i64 j ∧ ∃ vr : Value, Hid (wr.heap[w2.heap.size]? = some (Obj.cells #[.int .i64 t.seq, .slice a1 t.info.length c1, .slice a2 t.data.length c2, vr, .bool t.h0.on, .int .i64 t.h0.left, .bool t.h1.on, .int .i64 t.h1.left, .bool t.h2.on, .int .i64 t.h2.left] 28 (0, 0))) ∧ Hid (wr.ownsRow (w2.heap.size + 1) 3 1 vr ((List.range j).flatMap (docR t.rev b false)).length (cellsI ((List.range j).flatMap (docR t.rev b false)))) ∧ Hid (Below w2.heap.size w2 wr)) (fun i _ => 12 - (intOf i).toNat)
  case atStart => exact ⟨0, Nat.zero_le _, rfl, .slice none 0 0, heap_setCell_same w5 w2.heap.size 3 _ _ (.slice none 0 0) BX5.out, World.ownsRow_nil _ _ _ _, (HW5.out.setCell (Nat.le_refl _) _)⟩
  case round =>
    clear x0 x1 x2 x3 x4 x5 x6 x7 x8 x9 y0 y1 y2 y3 y4 y5 y6 y7 y8 y9 ff z0 z1 z2 z3 z4 z5 z6 z7 z8 z9 gf KA5 KB5 HB5 BX5 HW5 hs5
    obtain ⟨j, hj, rfl, vr, BX8, hown, HW8⟩ := hrel
    obtain ⟨w8, rfl⟩ : ∃ w8, w8 = wr := ⟨_, rfl⟩
    have KA8 := hide (boxKeep HW8.out hs2' K1'.out)
    have KB8 := hide (boxKeep HW8.out hs2 K2'.out)
    have HB8 := hide (bthen HB2.out HW8.out)
    have hs8 : w2.heap.size < w8.heap.size := (Array.getElem?_eq_some_iff.1 BX8.out).1
    obtain ⟨⟨x0, x1, x2, x3, x4, x5, x6, x7, x8, x9⟩, _⟩ := box10 KA8.out
    obtain ⟨⟨y0, y1, y2, y3, y4, y5, y6, y7, y8, y9⟩, ff⟩ := box10 KB8.out
    obtain ⟨⟨z0, z1, z2, z3, z4, z5, z6, z7, z8, z9⟩, gf⟩ := box10 BX8.out
    by_cases hlt : j < 12
    · have hlt' : (j : Int) < 12 := by omega
      have hq := flat_le (docR t.rev b false) (docR_le t.rev b false) j
      have HF := hide (flat_succ (docR t.rev b false) j)
      generalize (List.range j).flatMap (docR t.rev b false) = q at *
      by_cases he : (j : Int) = b
      · have he' : ((j : Int) == b) = true := by simpa using he
        have HF2 : Hid ((List.range (j + 1)).flatMap (docR t.rev b false) = q) := by rw [Hid, HF.out, docR, if_neg (by simp [he])]; simp
        clear HF
        go_wp2
        go_roundw
        case rel => exact ⟨j + 1, by omega, by go_num, vr, BX8, by rw [HF2.out]; exact hown, HW8⟩
        case measure => simp [intOf]; omega
      · have he' : ((j : Int) == b) = false := by simpa using he
        go_wp2_with fail
        refine (among_any r d t.rev (j : Int) _ (HR.out.below HB8.out) N3.out).mono ?_
        rintro e w' ⟨rfl, rfl⟩
        cases hm : amongB t.rev (j : Int) with
        | false =>
          have HF2 : Hid ((List.range (j + 1)).flatMap (docR t.rev b false) = q) := by rw [Hid, HF.out, docR, if_neg (by simp [he, hm])]; simp
          clear HF
          go_wp2
          go_roundw
          case rel => exact ⟨j + 1, by omega, by go_num, vr, BX8, by rw [HF2.out]; exact hown, HW8⟩
          case measure => simp [intOf]; omega
        | true =>
          have HF2 : Hid ((List.range (j + 1)).flatMap (docR t.rev b false) = q ++ [(j : Int)]) := by rw [Hid, HF.out, docR, if_pos (.inr ⟨he, hm⟩)]
          clear HF
          go_wp2_with (at_builtin; refine wpList_appI _ _ (w2.heap.size + 1) rfl _ _ rfl _ q.length (cellsI q) rfl (owns_keep hown.out (below1 _ _)) (some ⟨w8.heap.size, 0, none⟩) 1 [(j : Int)] rfl (.inr ⟨w8.heap.size, 0, rfl, by simp, fun i hi => ?_⟩) (by simp; omega) (by have := hs8; simp; omega) (Below.refl _ _) ?_)
          · have : i = 0 := by simpa using hi
            subst this
            simp [go_sem]
          · intro v' w9 hown' hB'
            have BX9 := hide ((hB'.out.block w2.heap.size (Nat.lt_succ_self _)).trans ((Below.heap_alloc _ _ _ hs8).trans BX8.out))
            have HW9 := hide ((bthen HW8.out (below1 _ _)).trans (hB'.out.mono (Nat.le_succ _)))
            have HN9 : Hid (w9.ownsRow (w2.heap.size + 1) 3 1 v' (q ++ [(j : Int)]).length (cellsI (q ++ [(j : Int)]))) := by rw [Hid, List.length_append, cellsI_append]; exact hown'.out
            obtain ⟨q2, hq2⟩ : ∃ q2, q2 = q ++ [(j : Int)] := ⟨_, rfl⟩
            rw [← hq2] at HN9 HF2
            clear hown' hB' hq2
            obtain ⟨p9, r9, rfl, _, _⟩ := SegI.of_owns HN9.out
            clear hown BX8 HW8 KA8 KB8 HB8
            clear x0 x1 x2 x3 x4 x5 x6 x7 x8 x9 y0 y1 y2 y3 y4 y5 y6 y7 y8 y9 ff z0 z1 z2 z3 z4 z5 z6 z7 z8 z9 gf
            have KA9 := hide (boxKeep HW9.out hs2' K1'.out)
            have KB9 := hide (boxKeep HW9.out hs2 K2'.out)
            have HB9 := hide (bthen HB2.out HW9.out)
            have hs9 : w2.heap.size < w9.heap.size := (Array.getElem?_eq_some_iff.1 BX9.out).1
            obtain ⟨⟨x0, x1, x2, x3, x4, x5, x6, x7, x8, x9⟩, _⟩ := box10 KA9.out
            obtain ⟨⟨y0, y1, y2, y3, y4, y5, y6, y7, y8, y9⟩, ff⟩ := box10 KB9.out
            obtain ⟨⟨z0, z1, z2, z3, z4, z5, z6, z7, z8, z9⟩, gf⟩ := box10 BX9.out
            go_wp2
            go_roundw
            case rel => exact ⟨j + 1, by omega, by go_num, _, heap_setCell_same w9 w2.heap.size 3 _ _ _ BX9.out, by rw [HF2.out]; exact ownsRow_setCell_below HN9.out (by simp) _, HW9.out.setCell (Nat.le_refl _) _⟩
            case measure => simp [intOf]; omega
    · have e : j = 12 := by omega
      subst e
      rw [docR_drop RR.out] at hown
      obtain ⟨p3, r3, rfl, _, _⟩ := SegI.of_owns hown.out
      go_wp2_with fail
      refine (refWith_any a c t.info b s _ (HM.out.below HB8.out) N1.out).mono ?_
      rintro e w10 ⟨v10, rfl, ho10, hb10⟩
      rw [docW_all RI.out hb0 hb1' s] at ho10
      obtain ⟨p10, q10, rfl, _, _⟩ := SegC.of_owns ho10
      have HO10 := hide ho10
      have HOR := hide (owns_keep hown.out hb10)
      have BX10 := hide (boxKeep hb10 hs8 BX8.out)
      have HW10 := hide (bthen HW8.out hb10)
      clear hb10 ho10 hown BX8 HW8 KA8 KB8 HB8
      clear x0 x1 x2 x3 x4 x5 x6 x7 x8 x9 y0 y1 y2 y3 y4 y5 y6 y7 y8 y9 ff z0 z1 z2 z3 z4 z5 z6 z7 z8 z9 gf
      have KA10 := hide (boxKeep HW10.out hs2' K1'.out)
      have KB10 := hide (boxKeep HW10.out hs2 K2'.out)
      have HB10 := hide (bthen HB2.out HW10.out)
      have hs10 : w2.heap.size < w10.heap.size := (Array.getElem?_eq_some_iff.1 BX10.out).1
      obtain ⟨⟨x0, x1, x2, x3, x4, x5, x6, x7, x8, x9⟩, _⟩ := box10 KA10.out
      obtain ⟨⟨y0, y1, y2, y3, y4, y5, y6, y7, y8, y9⟩, ff⟩ := box10 KB10.out
      obtain ⟨⟨z0, z1, z2, z3, z4, z5, z6, z7, z8, z9⟩, gf⟩ := box10 BX10.out
      go_wp2
      refine bodyPost_ret (v := .tuple #[.agg #[.int .i64 t.seq, .slice p10 (putAt (·.1) t.info b (b, s)).length q10, .slice a2 t.data.length c2, .slice p3 (dropAt id t.rev b).length r3, .bool t.h0.on, .int .i64 t.h0.left, .bool t.h1.on, .int .i64 t.h1.left, .bool t.h2.on, .int .i64 t.h2.left], .int .i64 0]) (by simp [results, Tryz.results9, go_sem, y0, y1, y2, y3, y4, y5, y6, y7, y8, y9]) rfl ⟨_, by rw [HE.out], ?_⟩
      rw [HTT.out]
      refine ⟨?_, ?_, .inr (Rows3.from (lo := w.heap.size + 2) (T := t) ⟨RowC.owned HO10.out (by omega), Q2.out.below HW10.out, RowN.owned HOR.out (by omega)⟩ (by omega))⟩
      · refine Rows3.is (lo := w.heap.size + 2) (T := t) ?_ (by have := putLe (·.1) t.info b (b, s); omega) (by omega) (by have := dropLe id t.rev b; omega)
        iterate 10 (refine Rows3.set ?_ (by simp) _)
        exact ⟨RowC.owned (ownsRow_setCell_below HO10.out hs8 _) (by omega), Q2.out.below (HW10.out.setCell (Nat.le_refl _) _), RowN.owned (ownsRow_setCell_below HOR.out (by simp) _) (by omega)⟩
      · iterate 10 (refine Below.setCell ?_ (by simp) _)
        exact HB10.out.setCell (p := ⟨w2.heap.size, 1, none⟩) (by simp; omega) _

set_option maxHeartbeats 2000000 in
set_option maxRecDepth 100000 in
theorem alter0_new2 (v : Value) (t : Tx) (b : Int) (s : ByteArray) (w : World) (hT : IsTx w v t) (r1 : t.info.length * 24 ≤ 140737488355328) (r2 : t.data.length * 24 ≤ 140737488355328) (hr : reachE t 2 b = 0) (hs : fitsB s = true) (hd : (textIn b t.data).isSome = false) (hi : (textIn b t.info).isSome = false) (ha : amongB t.rev b = false) (hl : ¬ t.h2.left = 0) :
    Calls Tryz.prog 9 #[.int .i64 0, v, .int .i64 2, .int .i64 b, .string s] w fun e w' => ∃ v2, e = .returned (.tuple #[v2, .int .i64 (changeE t 2 b s)]) ∧ IsTx w' v2 (changeT t 2 b s) ∧ Below w.heap.size w w' ∧ (v2 = v ∨ RowsFrom w.heap.size v2 (changeT t 2 b s)) := by
  have HRZ := hide hr
  have HE : Hid (changeE t 2 b s = 0) := by rw [Hid, changeE, if_neg (by rw [HRZ.out]; simp), if_neg (by rw [hs]; simp), if_neg (by rw [hd]; simp), nameE, if_neg (by rw [namedB, hi, ha]; simp), if_neg (show ¬ (hdAt t 2).left = 0 from hl)]
  clear HRZ
  have HTT : Hid (changeT t 2 b s = { t with info := putAt (·.1) t.info b (b, s), rev := dropAt id t.rev b, h2 := ⟨t.h2.on, t.h2.left - 1⟩ }) := by rw [Hid, changeT, if_pos HE.out, changeY, nameT, if_neg (by rw [namedB, hi, ha]; simp)]; rfl
  have hlb : 0 ≤ t.h2.left ∧ t.h2.left ≤ 24 := hd_left (good_hd (reach_ok hr).1 2)
  have hl0 := hlb.1
  have hl1 := hlb.2
  clear hlb
  have hle : (t.h2.left == 0) = false := by simpa using hl
  have hz : (s.size : Int) = 32 := by simpa [fitsB] using hs
  clear hs
  have hrk := reach_ok hr
  have hg := hrk.1
  have HO : Hid (t.h2.on = true) := hrk.2.2.1
  have hb0 := hrk.2.2.2.1
  have hb1' := hrk.2.2.2.2
  have hb : withinB b 0 11 = true := withinB_iff.2 ⟨hb0, hb1'⟩
  have hsm := good_small hg
  have hgi := ((goodX_iff t).1 hg).2.2.1
  have RI := hide hgi.1
  have RD := hide hgi.2.1
  have RR := hide hgi.2.2
  clear hrk hgi hr
  have HT := hide hT
  obtain ⟨a, c, a', c', r, d, rfl, hM, hD, hR, n1, n2, n3⟩ := hT
  have HM := hide hM
  have HD := hide hD
  have HR := hide hR
  have N1 := hide n1
  have N2 := hide n2
  have N3 := hide n3
  clear hM hD hR n1 n2 n3
  go_enter Tryz.func9, Tryz.ntmps9
  go_wp2_with fail
  refine (goodTxn_any _ t _ (HT.out.below (bthen (below1 _ _) (below1 _ _))) r1 r2).mono ?_
  rintro e w1 ⟨rfl, hb1⟩
  have hs1 : w.heap.size + 1 < w1.heap.size := by have := hb1.size; simp at this; omega
  have hs1' : w.heap.size < w1.heap.size := by omega
  have K1 := hide (two1 hb1)
  have K2 := hide (two2 hb1)
  obtain ⟨⟨x0, x1, x2, x3, x4, x5, x6, x7, x8, x9⟩, _⟩ := box10 K1.out
  obtain ⟨⟨y0, y1, y2, y3, y4, y5, y6, y7, y8, y9⟩, ff⟩ := box10 K2.out
  have HB1 := hide (bthen (bthen (below1 _ _) (below1 _ _)) hb1)
  clear hb1
  have ho := HO.out
  have HTo : Hid (IsTx w (.agg #[.int .i64 t.seq, .slice a t.info.length c, .slice a' t.data.length c', .slice r t.rev.length d, .bool t.h0.on, .int .i64 t.h0.left, .bool t.h1.on, .int .i64 t.h1.left, .bool true, .int .i64 t.h2.left]) t) := by have := HT.out; rw [ho] at this; exact this
  go_wp2_with (go_at_call 45; refine (isBlock_any _ _).mono ?_; rintro e w' ⟨rfl, rfl⟩)
  refine (copyTxn_any _ t _ (HTo.out.below HB1.out) r1 r2 (by omega)).mono ?_
  rintro e w2 ⟨v2, rfl, hN, hb2⟩
  obtain ⟨a1, c1, a2, c2, a3, c3, rfl, ⟨hM1, hD1, hR1, m1, m2, m3⟩, q1, q2, q3⟩ := hN
  have Q1 : Hid (RowC w2 (w.heap.size + 2) (.slice a1 t.info.length c1) t.info) := ⟨a1, c1, rfl, hM1, fun x off e => by have := q1 x off e; omega⟩
  have Q2 : Hid (RowC w2 (w.heap.size + 2) (.slice a2 t.data.length c2) t.data) := ⟨a2, c2, rfl, hD1, fun x off e => by have := q2 x off e; omega⟩
  have Q3 : Hid (RowN w2 (w.heap.size + 2) (.slice a3 t.rev.length c3) t.rev) := ⟨a3, c3, rfl, hR1, fun x off e => by have := q3 x off e; omega⟩
  clear hM1 hD1 hR1 m1 m2 m3 q1 q2 q3 ho HTo HO
  have hs2 : w.heap.size + 1 < w2.heap.size := by have := hb2.size; omega
  have hs2' : w.heap.size < w2.heap.size := by omega
  have K1' := hide (boxKeep hb2 hs1' K1.out)
  have K2' := hide (boxKeep hb2 hs1 K2.out)
  have HB2 := hide (bthen HB1.out hb2)
  clear x0 x1 x2 x3 x4 x5 x6 x7 x8 x9 y0 y1 y2 y3 y4 y5 y6 y7 y8 y9 ff hb2 K1 K2 HB1
  obtain ⟨⟨x0, x1, x2, x3, x4, x5, x6, x7, x8, x9⟩, _⟩ := box10 K1'.out
  obtain ⟨⟨y0, y1, y2, y3, y4, y5, y6, y7, y8, y9⟩, ff⟩ := box10 K2'.out
  go_wp2_with fail
  refine (in_any a' c' t.data b _ (HD.out.below (bthen HB2.out (below1 _ _))) N2.out).mono ?_
  rintro e w4 ⟨rfl, hb4⟩
  have BX4 : Hid (w4.heap[w2.heap.size]? = some (Obj.cells #[.int .i64 t.seq, .slice a1 t.info.length c1, .slice a2 t.data.length c2, .slice a3 t.rev.length c3, .bool t.h0.on, .int .i64 t.h0.left, .bool t.h1.on, .int .i64 t.h1.left, .bool t.h2.on, .int .i64 t.h2.left] 28 (0, 0))) := one1 hb4
  have HW4 : Hid (Below w2.heap.size w2 w4) := bthen (below1 _ _) hb4
  clear hb4
  clear x0 x1 x2 x3 x4 x5 x6 x7 x8 x9 y0 y1 y2 y3 y4 y5 y6 y7 y8 y9 ff
  have KA4 := hide (boxKeep HW4.out hs2' K1'.out)
  have KB4 := hide (boxKeep HW4.out hs2 K2'.out)
  have HB4 := hide (bthen HB2.out HW4.out)
  have hs4 : w2.heap.size < w4.heap.size := (Array.getElem?_eq_some_iff.1 BX4.out).1
  obtain ⟨⟨x0, x1, x2, x3, x4, x5, x6, x7, x8, x9⟩, _⟩ := box10 KA4.out
  obtain ⟨⟨y0, y1, y2, y3, y4, y5, y6, y7, y8, y9⟩, ff⟩ := box10 KB4.out
  obtain ⟨⟨z0, z1, z2, z3, z4, z5, z6, z7, z8, z9⟩, gf⟩ := box10 BX4.out
  go_wp2_with fail
  refine (in_any a c t.info b _ (HM.out.below HB4.out) N1.out).mono ?_
  rintro e w5 ⟨rfl, hb5⟩
  have BX5 := hide (boxKeep hb5 hs4 BX4.out)
  have HW5 := hide (bthen HW4.out hb5)
  clear hb5 BX4 HW4 KA4 KB4 HB4
  clear x0 x1 x2 x3 x4 x5 x6 x7 x8 x9 y0 y1 y2 y3 y4 y5 y6 y7 y8 y9 ff z0 z1 z2 z3 z4 z5 z6 z7 z8 z9 gf
  have KA5 := hide (boxKeep HW5.out hs2' K1'.out)
  have KB5 := hide (boxKeep HW5.out hs2 K2'.out)
  have HB5 := hide (bthen HB2.out HW5.out)
  have hs5 : w2.heap.size < w5.heap.size := (Array.getElem?_eq_some_iff.1 BX5.out).1
  obtain ⟨⟨x0, x1, x2, x3, x4, x5, x6, x7, x8, x9⟩, _⟩ := box10 KA5.out
  obtain ⟨⟨y0, y1, y2, y3, y4, y5, y6, y7, y8, y9⟩, ff⟩ := box10 KB5.out
  obtain ⟨⟨z0, z1, z2, z3, z4, z5, z6, z7, z8, z9⟩, gf⟩ := box10 BX5.out
  go_wp2_with fail
  refine (among_any r d t.rev b _ (HR.out.below HB5.out) N3.out).mono ?_
  rintro e w' ⟨rfl, rfl⟩
  go_wp2
  go_loopw [115] (fun i wr => ∃ j : Nat, j ≤ 12 ∧ i = .int .i64 j ∧ ∃ vr : Value, Hid (wr.heap[w2.heap.size]? = some (Obj.cells #[.int .i64 t.seq, .slice a1 t.info.length c1, .slice a2 t.data.length c2, vr, .bool t.h0.on, .int .i64 t.h0.left, .bool t.h1.on, .int .i64 t.h1.left, .bool t.h2.on, .int .i64 (t.h2.left - 1)] 28 (0, 0))) ∧ Hid (wr.ownsRow (w2.heap.size + 1) 3 1 vr ((List.range j).flatMap (docR t.rev b false)).length (cellsI ((List.range j).flatMap (docR t.rev b false)))) ∧ Hid (Below w2.heap.size w2 wr)) (fun i _ => 12 - (intOf i).toNat)
  case atStart => exact ⟨0, Nat.zero_le _, rfl, .slice none 0 0, heap_setCell_same (w5.setCell ⟨w2.heap.size, 9, none⟩ (.int .i64 (t.h2.left - 1))) w2.heap.size 3 _ _ (.slice none 0 0) (heap_setCell_same w5 w2.heap.size 9 _ _ (.int .i64 (t.h2.left - 1)) BX5.out), World.ownsRow_nil _ _ _ _, ((HW5.out.setCell (Nat.le_refl _) _).setCell (Nat.le_refl _) _)⟩
  case round =>
    clear x0 x1 x2 x3 x4 x5 x6 x7 x8 x9 y0 y1 y2 y3 y4 y5 y6 y7 y8 y9 ff z0 z1 z2 z3 z4 z5 z6 z7 z8 z9 gf KA5 KB5 HB5 BX5 HW5 hs5
    obtain ⟨j, hj, rfl, vr, BX8, hown, HW8⟩ := hrel
    obtain ⟨w8, rfl⟩ : ∃ w8, w8 = wr := ⟨_, rfl⟩
    have KA8 := hide (boxKeep HW8.out hs2' K1'.out)
    have KB8 := hide (boxKeep HW8.out hs2 K2'.out)
    have HB8 := hide (bthen HB2.out HW8.out)
    have hs8 : w2.heap.size < w8.heap.size := (Array.getElem?_eq_some_iff.1 BX8.out).1
    obtain ⟨⟨x0, x1, x2, x3, x4, x5, x6, x7, x8, x9⟩, _⟩ := box10 KA8.out
    obtain ⟨⟨y0, y1, y2, y3, y4, y5, y6, y7, y8, y9⟩, ff⟩ := box10 KB8.out
    obtain ⟨⟨z0, z1, z2, z3, z4, z5, z6, z7, z8, z9⟩, gf⟩ := box10 BX8.out
    by_cases hlt : j < 12
    · have hlt' : (j : Int) < 12 := by omega
      have hq := flat_le (docR t.rev b false) (docR_le t.rev b false) j
      have HF := hide (flat_succ (docR t.rev b false) j)
      generalize (List.range j).flatMap (docR t.rev b false) = q at *
      by_cases he : (j : Int) = b
      · have he' : ((j : Int) == b) = true := by simpa using he
        have HF2 : Hid ((List.range (j + 1)).flatMap (docR t.rev b false) = q) := by rw [Hid, HF.out, docR, if_neg (by simp [he])]; simp
        clear HF
        go_wp2
        go_roundw
        case rel => exact ⟨j + 1, by omega, by go_num, vr, BX8, by rw [HF2.out]; exact hown, HW8⟩
        case measure => simp [intOf]; omega
      · have he' : ((j : Int) == b) = false := by simpa using he
        go_wp2_with fail
        refine (among_any r d t.rev (j : Int) _ (HR.out.below HB8.out) N3.out).mono ?_
        rintro e w' ⟨rfl, rfl⟩
        cases hm : amongB t.rev (j : Int) with
        | false =>
          have HF2 : Hid ((List.range (j + 1)).flatMap (docR t.rev b false) = q) := by rw [Hid, HF.out, docR, if_neg (by simp [he, hm])]; simp
          clear HF
          go_wp2
          go_roundw
          case rel => exact ⟨j + 1, by omega, by go_num, vr, BX8, by rw [HF2.out]; exact hown, HW8⟩
          case measure => simp [intOf]; omega
        | true =>
          have HF2 : Hid ((List.range (j + 1)).flatMap (docR t.rev b false) = q ++ [(j : Int)]) := by rw [Hid, HF.out, docR, if_pos (.inr ⟨he, hm⟩)]
          clear HF
          go_wp2_with (at_builtin; refine wpList_appI _ _ (w2.heap.size + 1) rfl _ _ rfl _ q.length (cellsI q) rfl (owns_keep hown.out (below1 _ _)) (some ⟨w8.heap.size, 0, none⟩) 1 [(j : Int)] rfl (.inr ⟨w8.heap.size, 0, rfl, by simp, fun i hi => ?_⟩) (by simp; omega) (by have := hs8; simp; omega) (Below.refl _ _) ?_)
          · have : i = 0 := by simpa using hi
            subst this
            simp [go_sem]
          · intro v' w9 hown' hB'
            have BX9 := hide ((hB'.out.block w2.heap.size (Nat.lt_succ_self _)).trans ((Below.heap_alloc _ _ _ hs8).trans BX8.out))
            have HW9 := hide ((bthen HW8.out (below1 _ _)).trans (hB'.out.mono (Nat.le_succ _)))
            have HN9 : Hid (w9.ownsRow (w2.heap.size + 1) 3 1 v' (q ++ [(j : Int)]).length (cellsI (q ++ [(j : Int)]))) := by rw [Hid, List.length_append, cellsI_append]; exact hown'.out
            obtain ⟨q2, hq2⟩ : ∃ q2, q2 = q ++ [(j : Int)] := ⟨_, rfl⟩
            rw [← hq2] at HN9 HF2
            clear hown' hB' hq2
            obtain ⟨p9, r9, rfl, _, _⟩ := SegI.of_owns HN9.out
            clear hown BX8 HW8 KA8 KB8 HB8
            clear x0 x1 x2 x3 x4 x5 x6 x7 x8 x9 y0 y1 y2 y3 y4 y5 y6 y7 y8 y9 ff z0 z1 z2 z3 z4 z5 z6 z7 z8 z9 gf
            have KA9 := hide (boxKeep HW9.out hs2' K1'.out)
            have KB9 := hide (boxKeep HW9.out hs2 K2'.out)
            have HB9 := hide (bthen HB2.out HW9.out)
            have hs9 : w2.heap.size < w9.heap.size := (Array.getElem?_eq_some_iff.1 BX9.out).1
            obtain ⟨⟨x0, x1, x2, x3, x4, x5, x6, x7, x8, x9⟩, _⟩ := box10 KA9.out
            obtain ⟨⟨y0, y1, y2, y3, y4, y5, y6, y7, y8, y9⟩, ff⟩ := box10 KB9.out
            obtain ⟨⟨z0, z1, z2, z3, z4, z5, z6, z7, z8, z9⟩, gf⟩ := box10 BX9.out
            go_wp2
            go_roundw
            case rel => exact ⟨j + 1, by omega, by go_num, _, heap_setCell_same w9 w2.heap.size 3 _ _ _ BX9.out, by rw [HF2.out]; exact ownsRow_setCell_below HN9.out (by simp) _, HW9.out.setCell (Nat.le_refl _) _⟩
            case measure => simp [intOf]; omega
    · have e : j = 12 := by omega
      subst e
      rw [docR_drop RR.out] at hown
      obtain ⟨p3, r3, rfl, _, _⟩ := SegI.of_owns hown.out
      go_wp2_with fail
      refine (refWith_any a c t.info b s _ (HM.out.below HB8.out) N1.out).mono ?_
      rintro e w10 ⟨v10, rfl, ho10, hb10⟩
      rw [docW_all RI.out hb0 hb1' s] at ho10
      obtain ⟨p10, q10, rfl, _, _⟩ := SegC.of_owns ho10
      have HO10 := hide ho10
      have HOR := hide (owns_keep hown.out hb10)
      have BX10 := hide (boxKeep hb10 hs8 BX8.out)
      have HW10 := hide (bthen HW8.out hb10)
      clear hb10 ho10 hown BX8 HW8 KA8 KB8 HB8
      clear x0 x1 x2 x3 x4 x5 x6 x7 x8 x9 y0 y1 y2 y3 y4 y5 y6 y7 y8 y9 ff z0 z1 z2 z3 z4 z5 z6 z7 z8 z9 gf
      have KA10 := hide (boxKeep HW10.out hs2' K1'.out)
      have KB10 := hide (boxKeep HW10.out hs2 K2'.out)
      have HB10 := hide (bthen HB2.out HW10.out)
      have hs10 : w2.heap.size < w10.heap.size := (Array.getElem?_eq_some_iff.1 BX10.out).1
      obtain ⟨⟨x0, x1, x2, x3, x4, x5, x6, x7, x8, x9⟩, _⟩ := box10 KA10.out
      obtain ⟨⟨y0, y1, y2, y3, y4, y5, y6, y7, y8, y9⟩, ff⟩ := box10 KB10.out
      obtain ⟨⟨z0, z1, z2, z3, z4, z5, z6, z7, z8, z9⟩, gf⟩ := box10 BX10.out
      go_wp2
      refine bodyPost_ret (v := .tuple #[.agg #[.int .i64 t.seq, .slice p10 (putAt (·.1) t.info b (b, s)).length q10, .slice a2 t.data.length c2, .slice p3 (dropAt id t.rev b).length r3, .bool t.h0.on, .int .i64 t.h0.left, .bool t.h1.on, .int .i64 t.h1.left, .bool t.h2.on, .int .i64 (t.h2.left - 1)], .int .i64 0]) (by simp [results, Tryz.results9, go_sem, y0, y1, y2, y3, y4, y5, y6, y7, y8, y9]) rfl ⟨_, by rw [HE.out], ?_⟩
      rw [HTT.out]
      refine ⟨?_, ?_, .inr (Rows3.from (lo := w.heap.size + 2) (T := { t with h2 := ⟨t.h2.on, t.h2.left - 1⟩ }) ⟨RowC.owned HO10.out (by omega), Q2.out.below HW10.out, RowN.owned HOR.out (by omega)⟩ (by omega))⟩
      · refine Rows3.is (lo := w.heap.size + 2) (T := { t with h2 := ⟨t.h2.on, t.h2.left - 1⟩ }) ?_ (by have := putLe (·.1) t.info b (b, s); omega) (by omega) (by have := dropLe id t.rev b; omega)
        iterate 10 (refine Rows3.set ?_ (by simp) _)
        exact ⟨RowC.owned (ownsRow_setCell_below HO10.out hs8 _) (by omega), Q2.out.below (HW10.out.setCell (Nat.le_refl _) _), RowN.owned (ownsRow_setCell_below HOR.out (by simp) _) (by omega)⟩
      · iterate 10 (refine Below.setCell ?_ (by simp) _)
        exact HB10.out.setCell (p := ⟨w2.heap.size, 1, none⟩) (by simp; omega) _

end Go.Proofs.YtjnpndfpajjihabGreat
