/-
  The walk of the document's own Alter: Fill.
-/
import Derived.Test.YtjnpndfpajjihabGreatTRefAlt
namespace Go.Proofs.YtjnpndfpajjihabGreat
open Go.RowKit

set_option maxHeartbeats 2000000 in
set_option maxRecDepth 100000 in
theorem alter1_form0 (v : Value) (t : Tx) (b : Int) (s : ByteArray) (w : World) (hT : IsTx w v t) (r1 : t.info.length * 24 ≤ 140737488355328) (r2 : t.data.length * 24 ≤ 140737488355328) (hr : reachE t 0 b = 0) (hs : fitsB s = false) :
    Calls Tryz.prog 9 #[.int .i64 1, v, .int .i64 0, .int .i64 b, .string s] w fun e w' => ∃ v2, e = .returned (.tuple #[v2, .int .i64 (fillE t 0 b s)]) ∧ IsTx w' v2 (fillT t 0 b s) ∧ Below w.heap.size w w' ∧ (v2 = v ∨ RowsFrom w.heap.size v2 (fillT t 0 b s)) := by
  have HRZ := hide hr
  have HE : Hid (fillE t 0 b s = 1) := by rw [Hid, fillE, if_neg (by rw [HRZ.out]; simp), if_pos hs]
  clear HRZ
  have HTT : Hid (fillT t 0 b s = t) := by rw [Hid, fillT, if_neg (by rw [HE.out]; decide)]
  have hz : ¬ (s.size : Int) = 32 := by simpa [fitsB] using hs
  clear hs
  have hrk := reach_ok hr
  have hg := hrk.1
  have HO : Hid (t.h0.on = true) := hrk.2.2.1
  have hb0 := hrk.2.2.2.1
  have hb1' := hrk.2.2.2.2
  have hb : withinB b 0 11 = true := withinB_iff.2 ⟨hb0, hb1'⟩
  have hsm := good_small hg
  have hgi := ((goodX_iff t).1 hg).2.2.1
  have RI := hide hgi.1
  have RD := hide hgi.2.1
  have RR := hide hgi.2.2
  clear hrk hgi hr
  have HT := hide hT
  obtain ⟨a, c, a', c', r, d, rfl, hM, hD, hR, n1, n2, n3⟩ := hT
  have HM := hide hM
  have HD := hide hD
  have HR := hide hR
  have N1 := hide n1
  have N2 := hide n2
  have N3 := hide n3
  clear hM hD hR n1 n2 n3
  go_enter Tryz.func9, Tryz.ntmps9
  go_wp2_with fail
  refine (goodTxn_any _ t _ (HT.out.below (bthen (below1 _ _) (below1 _ _))) r1 r2).mono ?_
  rintro e w1 ⟨rfl, hb1⟩
  have hs1 : w.heap.size + 1 < w1.heap.size := by have := hb1.size; simp at this; omega
  have hs1' : w.heap.size < w1.heap.size := by omega
  have K1 := hide (two1 hb1)
  have K2 := hide (two2 hb1)
  obtain ⟨⟨x0, x1, x2, x3, x4, x5, x6, x7, x8, x9⟩, _⟩ := box10 K1.out
  obtain ⟨⟨y0, y1, y2, y3, y4, y5, y6, y7, y8, y9⟩, ff⟩ := box10 K2.out
  have HB1 := hide (bthen (bthen (below1 _ _) (below1 _ _)) hb1)
  clear hb1
  have ho := HO.out
  have HTo : Hid (IsTx w (.agg #[.int .i64 t.seq, .slice a t.info.length c, .slice a' t.data.length c', .slice r t.rev.length d, .bool true, .int .i64 t.h0.left, .bool t.h1.on, .int .i64 t.h1.left, .bool t.h2.on, .int .i64 t.h2.left]) t) := by have := HT.out; rw [ho] at this; exact this
  go_wp2_with (go_at_call 45; refine (isBlock_any _ _).mono ?_; rintro e w' ⟨rfl, rfl⟩)
  refine bodyPost_ret (v := .tuple #[.agg #[.int .i64 t.seq, .slice a t.info.length c, .slice a' t.data.length c', .slice r t.rev.length d, .bool t.h0.on, .int .i64 t.h0.left, .bool t.h1.on, .int .i64 t.h1.left, .bool t.h2.on, .int .i64 t.h2.left], .int .i64 1]) (by simp [results, Tryz.results9, go_sem, y0, y1, y2, y3, y4, y5, y6, y7, y8, y9, ho]) rfl ⟨_, by rw [HE.out], ?_⟩
  refine ⟨?_, ?_, .inl rfl⟩
  · rw [HTT.out]
    refine HT.out.below ?_
    repeat refine Below.setCell ?_ (by simp) _
    exact HB1.out
  · repeat refine Below.setCell ?_ (by simp) _
    exact HB1.out

set_option maxHeartbeats 2000000 in
set_option maxRecDepth 100000 in
theorem alter1_in0 (v : Value) (t : Tx) (b : Int) (s : ByteArray) (w : World) (hT : IsTx w v t) (r1 : t.info.length * 24 ≤ 140737488355328) (r2 : t.data.length * 24 ≤ 140737488355328) (hr : reachE t 0 b = 0) (hs : fitsB s = true) (hi : (textIn b t.info).isSome = true) :
    Calls Tryz.prog 9 #[.int .i64 1, v, .int .i64 0, .int .i64 b, .string s] w fun e w' => ∃ v2, e = .returned (.tuple #[v2, .int .i64 (fillE t 0 b s)]) ∧ IsTx w' v2 (fillT t 0 b s) ∧ Below w.heap.size w w' ∧ (v2 = v ∨ RowsFrom w.heap.size v2 (fillT t 0 b s)) := by
  have HRZ := hide hr
  have HE : Hid (fillE t 0 b s = 8) := by rw [Hid, fillE, if_neg (by rw [HRZ.out]; simp), if_neg (by rw [hs]; simp), if_pos (by rw [namedB, hi]; rfl)]
  clear HRZ
  have HTT : Hid (fillT t 0 b s = t) := by rw [Hid, fillT, if_neg (by rw [HE.out]; decide)]
  have hz : (s.size : Int) = 32 := by simpa [fitsB] using hs
  clear hs
  have hrk := reach_ok hr
  have hg := hrk.1
  have HO : Hid (t.h0.on = true) := hrk.2.2.1
  have hb0 := hrk.2.2.2.1
  have hb1' := hrk.2.2.2.2
  have hb : withinB b 0 11 = true := withinB_iff.2 ⟨hb0, hb1'⟩
  have hsm := good_small hg
  have hgi := ((goodX_iff t).1 hg).2.2.1
  have RI := hide hgi.1
  have RD := hide hgi.2.1
  have RR := hide hgi.2.2
  clear hrk hgi hr
  have HT := hide hT
  obtain ⟨a, c, a', c', r, d, rfl, hM, hD, hR, n1, n2, n3⟩ := hT
  have HM := hide hM
  have HD := hide hD
  have HR := hide hR
  have N1 := hide n1
  have N2 := hide n2
  have N3 := hide n3
  clear hM hD hR n1 n2 n3
  go_enter Tryz.func9, Tryz.ntmps9
  go_wp2_with fail
  refine (goodTxn_any _ t _ (HT.out.below (bthen (below1 _ _) (below1 _ _))) r1 r2).mono ?_
  rintro e w1 ⟨rfl, hb1⟩
  have hs1 : w.heap.size + 1 < w1.heap.size := by have := hb1.size; simp at this; omega
  have hs1' : w.heap.size < w1.heap.size := by omega
  have K1 := hide (two1 hb1)
  have K2 := hide (two2 hb1)
  obtain ⟨⟨x0, x1, x2, x3, x4, x5, x6, x7, x8, x9⟩, _⟩ := box10 K1.out
  obtain ⟨⟨y0, y1, y2, y3, y4, y5, y6, y7, y8, y9⟩, ff⟩ := box10 K2.out
  have HB1 := hide (bthen (bthen (below1 _ _) (below1 _ _)) hb1)
  clear hb1
  have ho := HO.out
  have HTo : Hid (IsTx w (.agg #[.int .i64 t.seq, .slice a t.info.length c, .slice a' t.data.length c', .slice r t.rev.length d, .bool true, .int .i64 t.h0.left, .bool t.h1.on, .int .i64 t.h1.left, .bool t.h2.on, .int .i64 t.h2.left]) t) := by have := HT.out; rw [ho] at this; exact this
  go_wp2_with (go_at_call 45; refine (isBlock_any _ _).mono ?_; rintro e w' ⟨rfl, rfl⟩)
  refine (copyTxn_any _ t _ (HTo.out.below HB1.out) r1 r2 (by omega)).mono ?_
  rintro e w2 ⟨v2, rfl, hN, hb2⟩
  obtain ⟨a1, c1, a2, c2, a3, c3, rfl, ⟨hM1, hD1, hR1, m1, m2, m3⟩, q1, q2, q3⟩ := hN
  have Q1 : Hid (RowC w2 (w.heap.size + 2) (.slice a1 t.info.length c1) t.info) := ⟨a1, c1, rfl, hM1, fun x off e => by have := q1 x off e; omega⟩
  have Q2 : Hid (RowC w2 (w.heap.size + 2) (.slice a2 t.data.length c2) t.data) := ⟨a2, c2, rfl, hD1, fun x off e => by have := q2 x off e; omega⟩
  have Q3 : Hid (RowN w2 (w.heap.size + 2) (.slice a3 t.rev.length c3) t.rev) := ⟨a3, c3, rfl, hR1, fun x off e => by have := q3 x off e; omega⟩
  clear hM1 hD1 hR1 m1 m2 m3 q1 q2 q3 ho HTo HO
  have hs2 : w.heap.size + 1 < w2.heap.size := by have := hb2.size; omega
  have hs2' : w.heap.size < w2.heap.size := by omega
  have K1' := hide (boxKeep hb2 hs1' K1.out)
  have K2' := hide (boxKeep hb2 hs1 K2.out)
  have HB2 := hide (bthen HB1.out hb2)
  clear x0 x1 x2 x3 x4 x5 x6 x7 x8 x9 y0 y1 y2 y3 y4 y5 y6 y7 y8 y9 ff hb2 K1 K2 HB1
  obtain ⟨⟨x0, x1, x2, x3, x4, x5, x6, x7, x8, x9⟩, _⟩ := box10 K1'.out
  obtain ⟨⟨y0, y1, y2, y3, y4, y5, y6, y7, y8, y9⟩, ff⟩ := box10 K2'.out
  go_wp2_with fail
  refine (in_any a c t.info b _ (HM.out.below (bthen HB2.out (below1 _ _))) N1.out).mono ?_
  rintro e w4 ⟨rfl, hb4⟩
  have BX4 : Hid (w4.heap[w2.heap.size]? = some (Obj.cells #[.int .i64 t.seq, .slice a1 t.info.length c1, .slice a2 t.data.length c2, .slice a3 t.rev.length c3, .bool t.h0.on, .int .i64 t.h0.left, .bool t.h1.on, .int .i64 t.h1.left, .bool t.h2.on, .int .i64 t.h2.left] 28 (0, 0))) := one1 hb4
  have HW4 : Hid (Below w2.heap.size w2 w4) := bthen (below1 _ _) hb4
  clear hb4
  clear x0 x1 x2 x3 x4 x5 x6 x7 x8 x9 y0 y1 y2 y3 y4 y5 y6 y7 y8 y9 ff
  have KA4 := hide (boxKeep HW4.out hs2' K1'.out)
  have KB4 := hide (boxKeep HW4.out hs2 K2'.out)
  have HB4 := hide (bthen HB2.out HW4.out)
  have hs4 : w2.heap.size < w4.heap.size := (Array.getElem?_eq_some_iff.1 BX4.out).1
  obtain ⟨⟨x0, x1, x2, x3, x4, x5, x6, x7, x8, x9⟩, _⟩ := box10 KA4.out
  obtain ⟨⟨y0, y1, y2, y3, y4, y5, y6, y7, y8, y9⟩, ff⟩ := box10 KB4.out
  obtain ⟨⟨z0, z1, z2, z3, z4, z5, z6, z7, z8, z9⟩, gf⟩ := box10 BX4.out
  go_wp2
  refine bodyPost_ret (v := .tuple #[.agg #[.int .i64 t.seq, .slice a t.info.length c, .slice a' t.data.length c', .slice r t.rev.length d, .bool t.h0.on, .int .i64 t.h0.left, .bool t.h1.on, .int .i64 t.h1.left, .bool t.h2.on, .int .i64 t.h2.left], .int .i64 8]) (by simp [results, Tryz.results9, go_sem, y0, y1, y2, y3, y4, y5, y6, y7, y8, y9]) rfl ⟨_, by rw [HE.out], ?_⟩
  refine ⟨?_, ?_, .inl rfl⟩
  · rw [HTT.out]
    refine HT.out.below ?_
    repeat refine Below.setCell ?_ (by simp) _
    exact HB4.out
  · repeat refine Below.setCell ?_ (by simp) _
    exact HB4.out

set_option maxHeartbeats 2000000 in
set_option maxRecDepth 100000 in
theorem alter1_rev0 (v : Value) (t : Tx) (b : Int) (s : ByteArray) (w : World) (hT : IsTx w v t) (r1 : t.info.length * 24 ≤ 140737488355328) (r2 : t.data.length * 24 ≤ 140737488355328) (hr : reachE t 0 b = 0) (hs : fitsB s = true) (hi : (textIn b t.info).isSome = false) (ha : amongB t.rev b = true) :
    Calls Tryz.prog 9 #[.int .i64 1, v, .int .i64 0, .int .i64 b, .string s] w fun e w' => ∃ v2, e = .returned (.tuple #[v2, .int .i64 (fillE t 0 b s)]) ∧ IsTx w' v2 (fillT t 0 b s) ∧ Below w.heap.size w w' ∧ (v2 = v ∨ RowsFrom w.heap.size v2 (fillT t 0 b s)) := by
  have HRZ := hide hr
  have HE : Hid (fillE t 0 b s = 8) := by rw [Hid, fillE, if_neg (by rw [HRZ.out]; simp), if_neg (by rw [hs]; simp), if_pos (by rw [namedB, hi, ha]; rfl)]
  clear HRZ
  have HTT : Hid (fillT t 0 b s = t) := by rw [Hid, fillT, if_neg (by rw [HE.out]; decide)]
  have hz : (s.size : Int) = 32 := by simpa [fitsB] using hs
  clear hs
  have hrk := reach_ok hr
  have hg := hrk.1
  have HO : Hid (t.h0.on = true) := hrk.2.2.1
  have hb0 := hrk.2.2.2.1
  have hb1' := hrk.2.2.2.2
  have hb : withinB b 0 11 = true := withinB_iff.2 ⟨hb0, hb1'⟩
  have hsm := good_small hg
  have hgi := ((goodX_iff t).1 hg).2.2.1
  have RI := hide hgi.1
  have RD := hide hgi.2.1
  have RR := hide hgi.2.2
  clear hrk hgi hr
  have HT := hide hT
  obtain ⟨a, c, a', c', r, d, rfl, hM, hD, hR, n1, n2, n3⟩ := hT
  have HM := hide hM
  have HD := hide hD
  have HR := hide hR
  have N1 := hide n1
  have N2 := hide n2
  have N3 := hide n3
  clear hM hD hR n1 n2 n3
  go_enter Tryz.func9, Tryz.ntmps9
  go_wp2_with fail
  refine (goodTxn_any _ t _ (HT.out.below (bthen (below1 _ _) (below1 _ _))) r1 r2).mono ?_
  rintro e w1 ⟨rfl, hb1⟩
  have hs1 : w.heap.size + 1 < w1.heap.size := by have := hb1.size; simp at this; omega
  have hs1' : w.heap.size < w1.heap.size := by omega
  have K1 := hide (two1 hb1)
  have K2 := hide (two2 hb1)
  obtain ⟨⟨x0, x1, x2, x3, x4, x5, x6, x7, x8, x9⟩, _⟩ := box10 K1.out
  obtain ⟨⟨y0, y1, y2, y3, y4, y5, y6, y7, y8, y9⟩, ff⟩ := box10 K2.out
  have HB1 := hide (bthen (bthen (below1 _ _) (below1 _ _)) hb1)
  clear hb1
  have ho := HO.out
  have HTo : Hid (IsTx w (.agg #[.int .i64 t.seq, .slice a t.info.length c, .slice a' t.data.length c', .slice r t.rev.length d, .bool true, .int .i64 t.h0.left, .bool t.h1.on, .int .i64 t.h1.left, .bool t.h2.on, .int .i64 t.h2.left]) t) := by have := HT.out; rw [ho] at this; exact this
  go_wp2_with (go_at_call 45; refine (isBlock_any _ _).mono ?_; rintro e w' ⟨rfl, rfl⟩)
  refine (copyTxn_any _ t _ (HTo.out.below HB1.out) r1 r2 (by omega)).mono ?_
  rintro e w2 ⟨v2, rfl, hN, hb2⟩
  obtain ⟨a1, c1, a2, c2, a3, c3, rfl, ⟨hM1, hD1, hR1, m1, m2, m3⟩, q1, q2, q3⟩ := hN
  have Q1 : Hid (RowC w2 (w.heap.size + 2) (.slice a1 t.info.length c1) t.info) := ⟨a1, c1, rfl, hM1, fun x off e => by have := q1 x off e; omega⟩
  have Q2 : Hid (RowC w2 (w.heap.size + 2) (.slice a2 t.data.length c2) t.data) := ⟨a2, c2, rfl, hD1, fun x off e => by have := q2 x off e; omega⟩
  have Q3 : Hid (RowN w2 (w.heap.size + 2) (.slice a3 t.rev.length c3) t.rev) := ⟨a3, c3, rfl, hR1, fun x off e => by have := q3 x off e; omega⟩
  clear hM1 hD1 hR1 m1 m2 m3 q1 q2 q3 ho HTo HO
  have hs2 : w.heap.size + 1 < w2.heap.size := by have := hb2.size; omega
  have hs2' : w.heap.size < w2.heap.size := by omega
  have K1' := hide (boxKeep hb2 hs1' K1.out)
  have K2' := hide (boxKeep hb2 hs1 K2.out)
  have HB2 := hide (bthen HB1.out hb2)
  clear x0 x1 x2 x3 x4 x5 x6 x7 x8 x9 y0 y1 y2 y3 y4 y5 y6 y7 y8 y9 ff hb2 K1 K2 HB1
  obtain ⟨⟨x0, x1, x2, x3, x4, x5, x6, x7, x8, x9⟩, _⟩ := box10 K1'.out
  obtain ⟨⟨y0, y1, y2, y3, y4, y5, y6, y7, y8, y9⟩, ff⟩ := box10 K2'.out
  go_wp2_with fail
  refine (in_any a c t.info b _ (HM.out.below (bthen HB2.out (below1 _ _))) N1.out).mono ?_
  rintro e w4 ⟨rfl, hb4⟩
  have BX4 : Hid (w4.heap[w2.heap.size]? = some (Obj.cells #[.int .i64 t.seq, .slice a1 t.info.length c1, .slice a2 t.data.length c2, .slice a3 t.rev.length c3, .bool t.h0.on, .int .i64 t.h0.left, .bool t.h1.on, .int .i64 t.h1.left, .bool t.h2.on, .int .i64 t.h2.left] 28 (0, 0))) := one1 hb4
  have HW4 : Hid (Below w2.heap.size w2 w4) := bthen (below1 _ _) hb4
  clear hb4
  clear x0 x1 x2 x3 x4 x5 x6 x7 x8 x9 y0 y1 y2 y3 y4 y5 y6 y7 y8 y9 ff
  have KA4 := hide (boxKeep HW4.out hs2' K1'.out)
  have KB4 := hide (boxKeep HW4.out hs2 K2'.out)
  have HB4 := hide (bthen HB2.out HW4.out)
  have hs4 : w2.heap.size < w4.heap.size := (Array.getElem?_eq_some_iff.1 BX4.out).1
  obtain ⟨⟨x0, x1, x2, x3, x4, x5, x6, x7, x8, x9⟩, _⟩ := box10 KA4.out
  obtain ⟨⟨y0, y1, y2, y3, y4, y5, y6, y7, y8, y9⟩, ff⟩ := box10 KB4.out
  obtain ⟨⟨z0, z1, z2, z3, z4, z5, z6, z7, z8, z9⟩, gf⟩ := box10 BX4.out
  go_wp2_with fail
  refine (among_any r d t.rev b _ (HR.out.below HB4.out) N3.out).mono ?_
  rintro e w' ⟨rfl, rfl⟩
  go_wp2
  refine bodyPost_ret (v := .tuple #[.agg #[.int .i64 t.seq, .slice a t.info.length c, .slice a' t.data.length c', .slice r t.rev.length d, .bool t.h0.on, .int .i64 t.h0.left, .bool t.h1.on, .int .i64 t.h1.left, .bool t.h2.on, .int .i64 t.h2.left], .int .i64 8]) (by simp [results, Tryz.results9, go_sem, y0, y1, y2, y3, y4, y5, y6, y7, y8, y9]) rfl ⟨_, by rw [HE.out], ?_⟩
  refine ⟨?_, ?_, .inl rfl⟩
  · rw [HTT.out]
    refine HT.out.below ?_
    repeat refine Below.setCell ?_ (by simp) _
    exact HB4.out
  · repeat refine Below.setCell ?_ (by simp) _
    exact HB4.out

set_option maxHeartbeats 2000000 in
set_option maxRecDepth 100000 in
theorem alter1_ok0 (v : Value) (t : Tx) (b : Int) (s : ByteArray) (w : World) (hT : IsTx w v t) (r1 : t.info.length * 24 ≤ 140737488355328) (r2 : t.data.length * 24 ≤ 140737488355328) (hr : reachE t 0 b = 0) (hs : fitsB s = true) (hi : (textIn b t.info).isSome = false) (ha : amongB t.rev b = false) :
    Calls Tryz.prog 9 #[.int .i64 1, v, .int .i64 0, .int .i64 b, .string s] w fun e w' => ∃ v2, e = .returned (.tuple #[v2, .int .i64 (fillE t 0 b s)]) ∧ IsTx w' v2 (fillT t 0 b s) ∧ Below w.heap.size w w' ∧ (v2 = v ∨ RowsFrom w.heap.size v2 (fillT t 0 b s)) := by
  have HRZ := hide hr
  have HE : Hid (fillE t 0 b s = 0) := by rw [Hid, fillE, if_neg (by rw [HRZ.out]; simp), if_neg (by rw [hs]; simp), if_neg (by rw [namedB, hi, ha]; simp)]
  clear HRZ
  have HTT : Hid (fillT t 0 b s = { t with data := putAt (·.1) t.data b (b, s) }) := by rw [Hid, fillT, if_pos HE.out]
  have hz : (s.size : Int) = 32 := by simpa [fitsB] using hs
  clear hs
  have hrk := reach_ok hr
  have hg := hrk.1
  have HO : Hid (t.h0.on = true) := hrk.2.2.1
  have hb0 := hrk.2.2.2.1
  have hb1' := hrk.2.2.2.2
  have hb : withinB b 0 11 = true := withinB_iff.2 ⟨hb0, hb1'⟩
  have hsm := good_small hg
  have hgi := ((goodX_iff t).1 hg).2.2.1
  have RI := hide hgi.1
  have RD := hide hgi.2.1
  have RR := hide hgi.2.2
  clear hrk hgi hr
  have HT := hide hT
  obtain ⟨a, c, a', c', r, d, rfl, hM, hD, hR, n1, n2, n3⟩ := hT
  have HM := hide hM
  have HD := hide hD
  have HR := hide hR
  have N1 := hide n1
  have N2 := hide n2
  have N3 := hide n3
  clear hM hD hR n1 n2 n3
  go_enter Tryz.func9, Tryz.ntmps9
  go_wp2_with fail
  refine (goodTxn_any _ t _ (HT.out.below (bthen (below1 _ _) (below1 _ _))) r1 r2).mono ?_
  rintro e w1 ⟨rfl, hb1⟩
  have hs1 : w.heap.size + 1 < w1.heap.size := by have := hb1.size; simp at this; omega
  have hs1' : w.heap.size < w1.heap.size := by omega
  have K1 := hide (two1 hb1)
  have K2 := hide (two2 hb1)
  obtain ⟨⟨x0, x1, x2, x3, x4, x5, x6, x7, x8, x9⟩, _⟩ := box10 K1.out
  obtain ⟨⟨y0, y1, y2, y3, y4, y5, y6, y7, y8, y9⟩, ff⟩ := box10 K2.out
  have HB1 := hide (bthen (bthen (below1 _ _) (below1 _ _)) hb1)
  clear hb1
  have ho := HO.out
  have HTo : Hid (IsTx w (.agg #[.int .i64 t.seq, .slice a t.info.length c, .slice a' t.data.length c', .slice r t.rev.length d, .bool true, .int .i64 t.h0.left, .bool t.h1.on, .int .i64 t.h1.left, .bool t.h2.on, .int .i64 t.h2.left]) t) := by have := HT.out; rw [ho] at this; exact this
  go_wp2_with (go_at_call 45; refine (isBlock_any _ _).mono ?_; rintro e w' ⟨rfl, rfl⟩)
  refine (copyTxn_any _ t _ (HTo.out.below HB1.out) r1 r2 (by omega)).mono ?_
  rintro e w2 ⟨v2, rfl, hN, hb2⟩
  obtain ⟨a1, c1, a2, c2, a3, c3, rfl, ⟨hM1, hD1, hR1, m1, m2, m3⟩, q1, q2, q3⟩ := hN
  have Q1 : Hid (RowC w2 (w.heap.size + 2) (.slice a1 t.info.length c1) t.info) := ⟨a1, c1, rfl, hM1, fun x off e => by have := q1 x off e; omega⟩
  have Q2 : Hid (RowC w2 (w.heap.size + 2) (.slice a2 t.data.length c2) t.data) := ⟨a2, c2, rfl, hD1, fun x off e => by have := q2 x off e; omega⟩
  have Q3 : Hid (RowN w2 (w.heap.size + 2) (.slice a3 t.rev.length c3) t.rev) := ⟨a3, c3, rfl, hR1, fun x off e => by have := q3 x off e; omega⟩
  clear hM1 hD1 hR1 m1 m2 m3 q1 q2 q3 ho HTo HO
  have hs2 : w.heap.size + 1 < w2.heap.size := by have := hb2.size; omega
  have hs2' : w.heap.size < w2.heap.size := by omega
  have K1' := hide (boxKeep hb2 hs1' K1.out)
  have K2' := hide (boxKeep hb2 hs1 K2.out)
  have HB2 := hide (bthen HB1.out hb2)
  clear x0 x1 x2 x3 x4 x5 x6 x7 x8 x9 y0 y1 y2 y3 y4 y5 y6 y7 y8 y9 ff hb2 K1 K2 HB1
  obtain ⟨⟨x0, x1, x2, x3, x4, x5, x6, x7, x8, x9⟩, _⟩ := box10 K1'.out
  obtain ⟨⟨y0, y1, y2, y3, y4, y5, y6, y7, y8, y9⟩, ff⟩ := box10 K2'.out
  go_wp2_with fail
  refine (in_any a c t.info b _ (HM.out.below (bthen HB2.out (below1 _ _))) N1.out).mono ?_
  rintro e w4 ⟨rfl, hb4⟩
  have BX4 : Hid (w4.heap[w2.heap.size]? = some (Obj.cells #[.int .i64 t.seq, .slice a1 t.info.length c1, .slice a2 t.data.length c2, .slice a3 t.rev.length c3, .bool t.h0.on, .int .i64 t.h0.left, .bool t.h1.on, .int .i64 t.h1.left, .bool t.h2.on, .int .i64 t.h2.left] 28 (0, 0))) := one1 hb4
  have HW4 : Hid (Below w2.heap.size w2 w4) := bthen (below1 _ _) hb4
  clear hb4
  clear x0 x1 x2 x3 x4 x5 x6 x7 x8 x9 y0 y1 y2 y3 y4 y5 y6 y7 y8 y9 ff
  have KA4 := hide (boxKeep HW4.out hs2' K1'.out)
  have KB4 := hide (boxKeep HW4.out hs2 K2'.out)
  have HB4 := hide (bthen HB2.out HW4.out)
  have hs4 : w2.heap.size < w4.heap.size := (Array.getElem?_eq_some_iff.1 BX4.out).1
  obtain ⟨⟨x0, x1, x2, x3, x4, x5, x6, x7, x8, x9⟩, _⟩ := box10 KA4.out
  obtain ⟨⟨y0, y1, y2, y3, y4, y5, y6, y7, y8, y9⟩, ff⟩ := box10 KB4.out
  obtain ⟨⟨z0, z1, z2, z3, z4, z5, z6, z7, z8, z9⟩, gf⟩ := box10 BX4.out
  go_wp2_with fail
  refine (among_any r d t.rev b _ (HR.out.below HB4.out) N3.out).mono ?_
  rintro e w' ⟨rfl, rfl⟩
  go_wp2_with fail
  refine (refWith_any a' c' t.data b s _ (HD.out.below HB4.out) N2.out).mono ?_
  rintro e w6 ⟨v6, rfl, ho6, hb6⟩
  rw [docW_all RD.out hb0 hb1' s] at ho6
  obtain ⟨p6, q6, rfl, _, _⟩ := SegC.of_owns ho6
  have HO6 := hide ho6
  have BX6 := hide (boxKeep hb6 hs4 BX4.out)
  have HW6 := hide (bthen HW4.out hb6)
  clear hb6 ho6 BX4 HW4 KA4 KB4 HB4
  clear x0 x1 x2 x3 x4 x5 x6 x7 x8 x9 y0 y1 y2 y3 y4 y5 y6 y7 y8 y9 ff z0 z1 z2 z3 z4 z5 z6 z7 z8 z9 gf
  have KA6 := hide (boxKeep HW6.out hs2' K1'.out)
  have KB6 := hide (boxKeep HW6.out hs2 K2'.out)
  have HB6 := hide (bthen HB2.out HW6.out)
  have hs6 : w2.heap.size < w6.heap.size := (Array.getElem?_eq_some_iff.1 BX6.out).1
  obtain ⟨⟨x0, x1, x2, x3, x4, x5, x6, x7, x8, x9⟩, _⟩ := box10 KA6.out
  obtain ⟨⟨y0, y1, y2, y3, y4, y5, y6, y7, y8, y9⟩, ff⟩ := box10 KB6.out
  obtain ⟨⟨z0, z1, z2, z3, z4, z5, z6, z7, z8, z9⟩, gf⟩ := box10 BX6.out
  go_wp2
  refine bodyPost_ret (v := .tuple #[.agg #[.int .i64 t.seq, .slice a1 t.info.length c1, .slice p6 (putAt (·.1) t.data b (b, s)).length q6, .slice a3 t.rev.length c3, .bool t.h0.on, .int .i64 t.h0.left, .bool t.h1.on, .int .i64 t.h1.left, .bool t.h2.on, .int .i64 t.h2.left], .int .i64 0]) (by simp [results, Tryz.results9, go_sem, y0, y1, y2, y3, y4, y5, y6, y7, y8, y9]) rfl ⟨_, by rw [HE.out], ?_⟩
  rw [HTT.out]
  refine ⟨?_, ?_, .inr (Rows3.from (lo := w.heap.size + 2) (T := t) ⟨Q1.out.below HW6.out, RowC.owned HO6.out (by omega), Q3.out.below HW6.out⟩ (by omega))⟩
  · refine Rows3.is (lo := w.heap.size + 2) (T := t) ?_ (by omega) (by have := putLe (·.1) t.data b (b, s); omega) (by omega)
    iterate 10 (refine Rows3.set ?_ (by simp) _)
    exact ⟨Q1.out.below (HW6.out.setCell (Nat.le_refl _) _), RowC.owned (ownsRow_setCell_below HO6.out hs4 _) (by omega), Q3.out.below (HW6.out.setCell (Nat.le_refl _) _)⟩
  · iterate 10 (refine Below.setCell ?_ (by simp) _)
    exact HB6.out.setCell (p := ⟨w2.heap.size, 2, none⟩) (by simp; omega) _

set_option maxHeartbeats 2000000 in
set_option maxRecDepth 100000 in
theorem alter1_form1 (v : Value) (t : Tx) (b : Int) (s : ByteArray) (w : World) (hT : IsTx w v t) (r1 : t.info.length * 24 ≤ 140737488355328) (r2 : t.data.length * 24 ≤ 140737488355328) (hr : reachE t 1 b = 0) (hs : fitsB s = false) :
    Calls Tryz.prog 9 #[.int .i64 1, v, .int .i64 1, .int .i64 b, .string s] w fun e w' => ∃ v2, e = .returned (.tuple #[v2, .int .i64 (fillE t 1 b s)]) ∧ IsTx w' v2 (fillT t 1 b s) ∧ Below w.heap.size w w' ∧ (v2 = v ∨ RowsFrom w.heap.size v2 (fillT t 1 b s)) := by
  have HRZ := hide hr
  have HE : Hid (fillE t 1 b s = 1) := by rw [Hid, fillE, if_neg (by rw [HRZ.out]; simp), if_pos hs]
  clear HRZ
  have HTT : Hid (fillT t 1 b s = t) := by rw [Hid, fillT, if_neg (by rw [HE.out]; decide)]
  have hz : ¬ (s.size : Int) = 32 := by simpa [fitsB] using hs
  clear hs
  have hrk := reach_ok hr
  have hg := hrk.1
  have HO : Hid (t.h1.on = true) := hrk.2.2.1
  have hb0 := hrk.2.2.2.1
  have hb1' := hrk.2.2.2.2
  have hb : withinB b 0 11 = true := withinB_iff.2 ⟨hb0, hb1'⟩
  have hsm := good_small hg
  have hgi := ((goodX_iff t).1 hg).2.2.1
  have RI := hide hgi.1
  have RD := hide hgi.2.1
  have RR := hide hgi.2.2
  clear hrk hgi hr
  have HT := hide hT
  obtain ⟨a, c, a', c', r, d, rfl, hM, hD, hR, n1, n2, n3⟩ := hT
  have HM := hide hM
  have HD := hide hD
  have HR := hide hR
  have N1 := hide n1
  have N2 := hide n2
  have N3 := hide n3
  clear hM hD hR n1 n2 n3
  go_enter Tryz.func9, Tryz.ntmps9
  go_wp2_with fail
  refine (goodTxn_any _ t _ (HT.out.below (bthen (below1 _ _) (below1 _ _))) r1 r2).mono ?_
  rintro e w1 ⟨rfl, hb1⟩
  have hs1 : w.heap.size + 1 < w1.heap.size := by have := hb1.size; simp at this; omega
  have hs1' : w.heap.size < w1.heap.size := by omega
  have K1 := hide (two1 hb1)
  have K2 := hide (two2 hb1)
  obtain ⟨⟨x0, x1, x2, x3, x4, x5, x6, x7, x8, x9⟩, _⟩ := box10 K1.out
  obtain ⟨⟨y0, y1, y2, y3, y4, y5, y6, y7, y8, y9⟩, ff⟩ := box10 K2.out
  have HB1 := hide (bthen (bthen (below1 _ _) (below1 _ _)) hb1)
  clear hb1
  have ho := HO.out
  have HTo : Hid (IsTx w (.agg #[.int .i64 t.seq, .slice a t.info.length c, .slice a' t.data.length c', .slice r t.rev.length d, .bool t.h0.on, .int .i64 t.h0.left, .bool true, .int .i64 t.h1.left, .bool t.h2.on, .int .i64 t.h2.left]) t) := by have := HT.out; rw [ho] at this; exact this
  go_wp2_with (go_at_call 45; refine (isBlock_any _ _).mono ?_; rintro e w' ⟨rfl, rfl⟩)
  refine bodyPost_ret (v := .tuple #[.agg #[.int .i64 t.seq, .slice a t.info.length c, .slice a' t.data.length c', .slice r t.rev.length d, .bool t.h0.on, .int .i64 t.h0.left, .bool t.h1.on, .int .i64 t.h1.left, .bool t.h2.on, .int .i64 t.h2.left], .int .i64 1]) (by simp [results, Tryz.results9, go_sem, y0, y1, y2, y3, y4, y5, y6, y7, y8, y9, ho]) rfl ⟨_, by rw [HE.out], ?_⟩
  refine ⟨?_, ?_, .inl rfl⟩
  · rw [HTT.out]
    refine HT.out.below ?_
    repeat refine Below.setCell ?_ (by simp) _
    exact HB1.out
  · repeat refine Below.setCell ?_ (by simp) _
    exact HB1.out

set_option maxHeartbeats 2000000 in
set_option maxRecDepth 100000 in
theorem alter1_in1 (v : Value) (t : Tx) (b : Int) (s : ByteArray) (w : World) (hT : IsTx w v t) (r1 : t.info.length * 24 ≤ 140737488355328) (r2 : t.data.length * 24 ≤ 140737488355328) (hr : reachE t 1 b = 0) (hs : fitsB s = true) (hi : (textIn b t.info).isSome = true) :
    Calls Tryz.prog 9 #[.int .i64 1, v, .int .i64 1, .int .i64 b, .string s] w fun e w' => ∃ v2, e = .returned (.tuple #[v2, .int .i64 (fillE t 1 b s)]) ∧ IsTx w' v2 (fillT t 1 b s) ∧ Below w.heap.size w w' ∧ (v2 = v ∨ RowsFrom w.heap.size v2 (fillT t 1 b s)) := by
  have HRZ := hide hr
  have HE : Hid (fillE t 1 b s = 8) := by rw [Hid, fillE, if_neg (by rw [HRZ.out]; simp), if_neg (by rw [hs]; simp), if_pos (by rw [namedB, hi]; rfl)]
  clear HRZ
  have HTT : Hid (fillT t 1 b s = t) := by rw [Hid, fillT, if_neg (by rw [HE.out]; decide)]
  have hz : (s.size : Int) = 32 := by simpa [fitsB] using hs
  clear hs
  have hrk := reach_ok hr
  have hg := hrk.1
  have HO : Hid (t.h1.on = true) := hrk.2.2.1
  have hb0 := hrk.2.2.2.1
  have hb1' := hrk.2.2.2.2
  have hb : withinB b 0 11 = true := withinB_iff.2 ⟨hb0, hb1'⟩
  have hsm := good_small hg
  have hgi := ((goodX_iff t).1 hg).2.2.1
  have RI := hide hgi.1
  have RD := hide hgi.2.1
  have RR := hide hgi.2.2
  clear hrk hgi hr
  have HT := hide hT
  obtain ⟨a, c, a', c', r, d, rfl, hM, hD, hR, n1, n2, n3⟩ := hT
  have HM := hide hM
  have HD := hide hD
  have HR := hide hR
  have N1 := hide n1
  have N2 := hide n2
  have N3 := hide n3
  clear hM hD hR n1 n2 n3
  go_enter Tryz.func9, Tryz.ntmps9
  go_wp2_with fail
  refine (goodTxn_any _ t _ (HT.out.below (bthen (below1 _ _) (below1 _ _))) r1 r2).mono ?_
  rintro e w1 ⟨rfl, hb1⟩
  have hs1 : w.heap.size + 1 < w1.heap.size := by have := hb1.size; simp at this; omega
  have hs1' : w.heap.size < w1.heap.size := by omega
  have K1 := hide (two1 hb1)
  have K2 := hide (two2 hb1)
  obtain ⟨⟨x0, x1, x2, x3, x4, x5, x6, x7, x8, x9⟩, _⟩ := box10 K1.out
  obtain ⟨⟨y0, y1, y2, y3, y4, y5, y6, y7, y8, y9⟩, ff⟩ := box10 K2.out
  have HB1 := hide (bthen (bthen (below1 _ _) (below1 _ _)) hb1)
  clear hb1
  have ho := HO.out
  have HTo : Hid (IsTx w (.agg #[.int .i64 t.seq, .slice a t.info.length c, .slice a' t.data.length c', .slice r t.rev.length d, .bool t.h0.on, .int .i64 t.h0.left, .bool true, .int .i64 t.h1.left, .bool t.h2.on, .int .i64 t.h2.left]) t) := by have := HT.out; rw [ho] at this; exact this
  go_wp2_with (go_at_call 45; refine (isBlock_any _ _).mono ?_; rintro e w' ⟨rfl, rfl⟩)
  refine (copyTxn_any _ t _ (HTo.out.below HB1.out) r1 r2 (by omega)).mono ?_
  rintro e w2 ⟨v2, rfl, hN, hb2⟩
  obtain ⟨a1, c1, a2, c2, a3, c3, rfl, ⟨hM1, hD1, hR1, m1, m2, m3⟩, q1, q2, q3⟩ := hN
  have Q1 : Hid (RowC w2 (w.heap.size + 2) (.slice a1 t.info.length c1) t.info) := ⟨a1, c1, rfl, hM1, fun x off e => by have := q1 x off e; omega⟩
  have Q2 : Hid (RowC w2 (w.heap.size + 2) (.slice a2 t.data.length c2) t.data) := ⟨a2, c2, rfl, hD1, fun x off e => by have := q2 x off e; omega⟩
  have Q3 : Hid (RowN w2 (w.heap.size + 2) (.slice a3 t.rev.length c3) t.rev) := ⟨a3, c3, rfl, hR1, fun x off e => by have := q3 x off e; omega⟩
  clear hM1 hD1 hR1 m1 m2 m3 q1 q2 q3 ho HTo HO
  have hs2 : w.heap.size + 1 < w2.heap.size := by have := hb2.size; omega
  have hs2' : w.heap.size < w2.heap.size := by omega
  have K1' := hide (boxKeep hb2 hs1' K1.out)
  have K2' := hide (boxKeep hb2 hs1 K2.out)
  have HB2 := hide (bthen HB1.out hb2)
  clear x0 x1 x2 x3 x4 x5 x6 x7 x8 x9 y0 y1 y2 y3 y4 y5 y6 y7 y8 y9 ff hb2 K1 K2 HB1
  obtain ⟨⟨x0, x1, x2, x3, x4, x5, x6, x7, x8, x9⟩, _⟩ := box10 K1'.out
  obtain ⟨⟨y0, y1, y2, y3, y4, y5, y6, y7, y8, y9⟩, ff⟩ := box10 K2'.out
  go_wp2_with fail
  refine (in_any a c t.info b _ (HM.out.below (bthen HB2.out (below1 _ _))) N1.out).mono ?_
  rintro e w4 ⟨rfl, hb4⟩
  have BX4 : Hid (w4.heap[w2.heap.size]? = some (Obj.cells #[.int .i64 t.seq, .slice a1 t.info.length c1, .slice a2 t.data.length c2, .slice a3 t.rev.length c3, .bool t.h0.on, .int .i64 t.h0.left, .bool t.h1.on, .int .i64 t.h1.left, .bool t.h2.on, .int .i64 t.h2.left] 28 (0, 0))) := one1 hb4
  have HW4 : Hid (Below w2.heap.size w2 w4) := bthen (below1 _ _) hb4
  clear hb4
  clear x0 x1 x2 x3 x4 x5 x6 x7 x8 x9 y0 y1 y2 y3 y4 y5 y6 y7 y8 y9 ff
  have KA4 := hide (boxKeep HW4.out hs2' K1'.out)
  have KB4 := hide (boxKeep HW4.out hs2 K2'.out)
  have HB4 := hide (bthen HB2.out HW4.out)
  have hs4 : w2.heap.size < w4.heap.size := (Array.getElem?_eq_some_iff.1 BX4.out).1
  obtain ⟨⟨x0, x1, x2, x3, x4, x5, x6, x7, x8, x9⟩, _⟩ := box10 KA4.out
  obtain ⟨⟨y0, y1, y2, y3, y4, y5, y6, y7, y8, y9⟩, ff⟩ := box10 KB4.out
  obtain ⟨⟨z0, z1, z2, z3, z4, z5, z6, z7, z8, z9⟩, gf⟩ := box10 BX4.out
  go_wp2
  refine bodyPost_ret (v := .tuple #[.agg #[.int .i64 t.seq, .slice a t.info.length c, .slice a' t.data.length c', .slice r t.rev.length d, .bool t.h0.on, .int .i64 t.h0.left, .bool t.h1.on, .int .i64 t.h1.left, .bool t.h2.on, .int .i64 t.h2.left], .int .i64 8]) (by simp [results, Tryz.results9, go_sem, y0, y1, y2, y3, y4, y5, y6, y7, y8, y9]) rfl ⟨_, by rw [HE.out], ?_⟩
  refine ⟨?_, ?_, .inl rfl⟩
  · rw [HTT.out]
    refine HT.out.below ?_
    repeat refine Below.setCell ?_ (by simp) _
    exact HB4.out
  · repeat refine Below.setCell ?_ (by simp) _
    exact HB4.out

set_option maxHeartbeats 2000000 in
set_option maxRecDepth 100000 in
theorem alter1_rev1 (v : Value) (t : Tx) (b : Int) (s : ByteArray) (w : World) (hT : IsTx w v t) (r1 : t.info.length * 24 ≤ 140737488355328) (r2 : t.data.length * 24 ≤ 140737488355328) (hr : reachE t 1 b = 0) (hs : fitsB s = true) (hi : (textIn b t.info).isSome = false) (ha : amongB t.rev b = true) :
    Calls Tryz.prog 9 #[.int .i64 1, v, .int .i64 1, .int .i64 b, .string s] w fun e w' => ∃ v2, e = .returned (.tuple #[v2, .int .i64 (fillE t 1 b s)]) ∧ IsTx w' v2 (fillT t 1 b s) ∧ Below w.heap.size w w' ∧ (v2 = v ∨ RowsFrom w.heap.size v2 (fillT t 1 b s)) := by
  have HRZ := hide hr
  have HE : Hid (fillE t 1 b s = 8) := by rw [Hid, fillE, if_neg (by rw [HRZ.out]; simp), if_neg (by rw [hs]; simp), if_pos (by rw [namedB, hi, ha]; rfl)]
  clear HRZ
  have HTT : Hid (fillT t 1 b s = t) := by rw [Hid, fillT, if_neg (by rw [HE.out]; decide)]
  have hz : (s.size : Int) = 32 := by simpa [fitsB] using hs
  clear hs
  have hrk := reach_ok hr
  have hg := hrk.1
  have HO : Hid (t.h1.on = true) := hrk.2.2.1
  have hb0 := hrk.2.2.2.1
  have hb1' := hrk.2.2.2.2
  have hb : withinB b 0 11 = true := withinB_iff.2 ⟨hb0, hb1'⟩
  have hsm := good_small hg
  have hgi := ((goodX_iff t).1 hg).2.2.1
  have RI := hide hgi.1
  have RD := hide hgi.2.1
  have RR := hide hgi.2.2
  clear hrk hgi hr
  have HT := hide hT
  obtain ⟨a, c, a', c', r, d, rfl, hM, hD, hR, n1, n2, n3⟩ := hT
  have HM := hide hM
  have HD := hide hD
  have HR := hide hR
  have N1 := hide n1
  have N2 := hide n2
  have N3 := hide n3
  clear hM hD hR n1 n2 n3
  go_enter Tryz.func9, Tryz.ntmps9
  go_wp2_with fail
  refine (goodTxn_any _ t _ (HT.out.below (bthen (below1 _ _) (below1 _ _))) r1 r2).mono ?_
  rintro e w1 ⟨rfl, hb1⟩
  have hs1 : w.heap.size + 1 < w1.heap.size := by have := hb1.size; simp at this; omega
  have hs1' : w.heap.size < w1.heap.size := by omega
  have K1 := hide (two1 hb1)
  have K2 := hide (two2 hb1)
  obtain ⟨⟨x0, x1, x2, x3, x4, x5, x6, x7, x8, x9⟩, _⟩ := box10 K1.out
  obtain ⟨⟨y0, y1, y2, y3, y4, y5, y6, y7, y8, y9⟩, ff⟩ := box10 K2.out
  have HB1 := hide (bthen (bthen (below1 _ _) (below1 _ _)) hb1)
  clear hb1
  have ho := HO.out
  have HTo : Hid (IsTx w (.agg #[.int .i64 t.seq, .slice a t.info.length c, .slice a' t.data.length c', .slice r t.rev.length d, .bool t.h0.on, .int .i64 t.h0.left, .bool true, .int .i64 t.h1.left, .bool t.h2.on, .int .i64 t.h2.left]) t) := by have := HT.out; rw [ho] at this; exact this
  go_wp2_with (go_at_call 45; refine (isBlock_any _ _).mono ?_; rintro e w' ⟨rfl, rfl⟩)
  refine (copyTxn_any _ t _ (HTo.out.below HB1.out) r1 r2 (by omega)).mono ?_
  rintro e w2 ⟨v2, rfl, hN, hb2⟩
  obtain ⟨a1, c1, a2, c2, a3, c3, rfl, ⟨hM1, hD1, hR1, m1, m2, m3⟩, q1, q2, q3⟩ := hN
  have Q1 : Hid (RowC w2 (w.heap.size + 2) (.slice a1 t.info.length c1) t.info) := ⟨a1, c1, rfl, hM1, fun x off e => by have := q1 x off e; omega⟩
  have Q2 : Hid (RowC w2 (w.heap.size + 2) (.slice a2 t.data.length c2) t.data) := ⟨a2, c2, rfl, hD1, fun x off e => by have := q2 x off e; omega⟩
  have Q3 : Hid (RowN w2 (w.heap.size + 2) (.slice a3 t.rev.length c3) t.rev) := ⟨a3, c3, rfl, hR1, fun x off e => by have := q3 x off e; omega⟩
  clear hM1 hD1 hR1 m1 m2 m3 q1 q2 q3 ho HTo HO
  have hs2 : w.heap.size + 1 < w2.heap.size := by have := hb2.size; omega
  have hs2' : w.heap.size < w2.heap.size := by omega
  have K1' := hide (boxKeep hb2 hs1' K1.out)
  have K2' := hide (boxKeep hb2 hs1 K2.out)
  have HB2 := hide (bthen HB1.out hb2)
  clear x0 x1 x2 x3 x4 x5 x6 x7 x8 x9 y0 y1 y2 y3 y4 y5 y6 y7 y8 y9 ff hb2 K1 K2 HB1
  obtain ⟨⟨x0, x1, x2, x3, x4, x5, x6, x7, x8, x9⟩, _⟩ := box10 K1'.out
  obtain ⟨⟨y0, y1, y2, y3, y4, y5, y6, y7, y8, y9⟩, ff⟩ := box10 K2'.out
  go_wp2_with fail
  refine (in_any a c t.info b _ (HM.out.below (bthen HB2.out (below1 _ _))) N1.out).mono ?_
  rintro e w4 ⟨rfl, hb4⟩
  have BX4 : Hid (w4.heap[w2.heap.size]? = some (Obj.cells #[.int .i64 t.seq, .slice a1 t.info.length c1, .slice a2 t.data.length c2, .slice a3 t.rev.length c3, .bool t.h0.on, .int .i64 t.h0.left, .bool t.h1.on, .int .i64 t.h1.left, .bool t.h2.on, .int .i64 t.h2.left] 28 (0, 0))) := one1 hb4
  have HW4 : Hid (Below w2.heap.size w2 w4) := bthen (below1 _ _) hb4
  clear hb4
  clear x0 x1 x2 x3 x4 x5 x6 x7 x8 x9 y0 y1 y2 y3 y4 y5 y6 y7 y8 y9 ff
  have KA4 := hide (boxKeep HW4.out hs2' K1'.out)
  have KB4 := hide (boxKeep HW4.out hs2 K2'.out)
  have HB4 := hide (bthen HB2.out HW4.out)
  have hs4 : w2.heap.size < w4.heap.size := (Array.getElem?_eq_some_iff.1 BX4.out).1
  obtain ⟨⟨x0, x1, x2, x3, x4, x5, x6, x7, x8, x9⟩, _⟩ := box10 KA4.out
  obtain ⟨⟨y0, y1, y2, y3, y4, y5, y6, y7, y8, y9⟩, ff⟩ := box10 KB4.out
  obtain ⟨⟨z0, z1, z2, z3, z4, z5, z6, z7, z8, z9⟩, gf⟩ := box10 BX4.out
  go_wp2_with fail
  refine (among_any r d t.rev b _ (HR.out.below HB4.out) N3.out).mono ?_
  rintro e w' ⟨rfl, rfl⟩
  go_wp2
  refine bodyPost_ret (v := .tuple #[.agg #[.int .i64 t.seq, .slice a t.info.length c, .slice a' t.data.length c', .slice r t.rev.length d, .bool t.h0.on, .int .i64 t.h0.left, .bool t.h1.on, .int .i64 t.h1.left, .bool t.h2.on, .int .i64 t.h2.left], .int .i64 8]) (by simp [results, Tryz.results9, go_sem, y0, y1, y2, y3, y4, y5, y6, y7, y8, y9]) rfl ⟨_, by rw [HE.out], ?_⟩
  refine ⟨?_, ?_, .inl rfl⟩
  · rw [HTT.out]
    refine HT.out.below ?_
    repeat refine Below.setCell ?_ (by simp) _
    exact HB4.out
  · repeat refine Below.setCell ?_ (by simp) _
    exact HB4.out

set_option maxHeartbeats 2000000 in
set_option maxRecDepth 100000 in
theorem alter1_ok1 (v : Value) (t : Tx) (b : Int) (s : ByteArray) (w : World) (hT : IsTx w v t) (r1 : t.info.length * 24 ≤ 140737488355328) (r2 : t.data.length * 24 ≤ 140737488355328) (hr : reachE t 1 b = 0) (hs : fitsB s = true) (hi : (textIn b t.info).isSome = false) (ha : amongB t.rev b = false) :
    Calls Tryz.prog 9 #[.int .i64 1, v, .int .i64 1, .int .i64 b, .string s] w fun e w' => ∃ v2, e = .returned (.tuple #[v2, .int .i64 (fillE t 1 b s)]) ∧ IsTx w' v2 (fillT t 1 b s) ∧ Below w.heap.size w w' ∧ (v2 = v ∨ RowsFrom w.heap.size v2 (fillT t 1 b s)) := by
  have HRZ := hide hr
  have HE : Hid (fillE t 1 b s = 0) := by rw [Hid, fillE, if_neg (by rw [HRZ.out]; simp), if_neg (by rw [hs]; simp), if_neg (by rw [namedB, hi, ha]; simp)]
  clear HRZ
  have HTT : Hid (fillT t 1 b s = { t with data := putAt (·.1) t.data b (b, s) }) := by rw [Hid, fillT, if_pos HE.out]
  have hz : (s.size : Int) = 32 := by simpa [fitsB] using hs
  clear hs
  have hrk := reach_ok hr
  have hg := hrk.1
  have HO : Hid (t.h1.on = true) := hrk.2.2.1
  have hb0 := hrk.2.2.2.1
  have hb1' := hrk.2.2.2.2
  have hb : withinB b 0 11 = true := withinB_iff.2 ⟨hb0, hb1'⟩
  have hsm := good_small hg
  have hgi := ((goodX_iff t).1 hg).2.2.1
  have RI := hide hgi.1
  have RD := hide hgi.2.1
  have RR := hide hgi.2.2
  clear hrk hgi hr
  have HT := hide hT
  obtain ⟨a, c, a', c', r, d, rfl, hM, hD, hR, n1, n2, n3⟩ := hT
  have HM := hide hM
  have HD := hide hD
  have HR := hide hR
  have N1 := hide n1
  have N2 := hide n2
  have N3 := hide n3
  clear hM hD hR n1 n2 n3
  go_enter Tryz.func9, Tryz.ntmps9
  go_wp2_with fail
  refine (goodTxn_any _ t _ (HT.out.below (bthen (below1 _ _) (below1 _ _))) r1 r2).mono ?_
  rintro e w1 ⟨rfl, hb1⟩
  have hs1 : w.heap.size + 1 < w1.heap.size := by have := hb1.size; simp at this; omega
  have hs1' : w.heap.size < w1.heap.size := by omega
  have K1 := hide (two1 hb1)
  have K2 := hide (two2 hb1)
  obtain ⟨⟨x0, x1, x2, x3, x4, x5, x6, x7, x8, x9⟩, _⟩ := box10 K1.out
  obtain ⟨⟨y0, y1, y2, y3, y4, y5, y6, y7, y8, y9⟩, ff⟩ := box10 K2.out
  have HB1 := hide (bthen (bthen (below1 _ _) (below1 _ _)) hb1)
  clear hb1
  have ho := HO.out
  have HTo : Hid (IsTx w (.agg #[.int .i64 t.seq, .slice a t.info.length c, .slice a' t.data.length c', .slice r t.rev.length d, .bool t.h0.on, .int .i64 t.h0.left, .bool true, .int .i64 t.h1.left, .bool t.h2.on, .int .i64 t.h2.left]) t) := by have := HT.out; rw [ho] at this; exact this
  go_wp2_with (go_at_call 45; refine (isBlock_any _ _).mono ?_; rintro e w' ⟨rfl, rfl⟩)
  refine (copyTxn_any _ t _ (HTo.out.below HB1.out) r1 r2 (by omega)).mono ?_
  rintro e w2 ⟨v2, rfl, hN, hb2⟩
  obtain ⟨a1, c1, a2, c2, a3, c3, rfl, ⟨hM1, hD1, hR1, m1, m2, m3⟩, q1, q2, q3⟩ := hN
  have Q1 : Hid (RowC w2 (w.heap.size + 2) (.slice a1 t.info.length c1) t.info) := ⟨a1, c1, rfl, hM1, fun x off e => by have := q1 x off e; omega⟩
  have Q2 : Hid (RowC w2 (w.heap.size + 2) (.slice a2 t.data.length c2) t.data) := ⟨a2, c2, rfl, hD1, fun x off e => by have := q2 x off e; omega⟩
  have Q3 : Hid (RowN w2 (w.heap.size + 2) (.slice a3 t.rev.length c3) t.rev) := ⟨a3, c3, rfl, hR1, fun x off e => by have := q3 x off e; omega⟩
  clear hM1 hD1 hR1 m1 m2 m3 q1 q2 q3 ho HTo HO
  have hs2 : w.heap.size + 1 < w2.heap.size := by have := hb2.size; omega
  have hs2' : w.heap.size < w2.heap.size := by omega
  have K1' := hide (boxKeep hb2 hs1' K1.out)
  have K2' := hide (boxKeep hb2 hs1 K2.out)
  have HB2 := hide (bthen HB1.out hb2)
  clear x0 x1 x2 x3 x4 x5 x6 x7 x8 x9 y0 y1 y2 y3 y4 y5 y6 y7 y8 y9 ff hb2 K1 K2 HB1
  obtain ⟨⟨x0, x1, x2, x3, x4, x5, x6, x7, x8, x9⟩, _⟩ := box10 K1'.out
  obtain ⟨⟨y0, y1, y2, y3, y4, y5, y6, y7, y8, y9⟩, ff⟩ := box10 K2'.out
  go_wp2_with fail
  refine (in_any a c t.info b _ (HM.out.below (bthen HB2.out (below1 _ _))) N1.out).mono ?_
  rintro e w4 ⟨rfl, hb4⟩
  have BX4 : Hid (w4.heap[w2.heap.size]? = some (Obj.cells #[.int .i64 t.seq, .slice a1 t.info.length c1, .slice a2 t.data.length c2, .slice a3 t.rev.length c3, .bool t.h0.on, .int .i64 t.h0.left, .bool t.h1.on, .int .i64 t.h1.left, .bool t.h2.on, .int .i64 t.h2.left] 28 (0, 0))) := one1 hb4
  have HW4 : Hid (Below w2.heap.size w2 w4) := bthen (below1 _ _) hb4
  clear hb4
  clear x0 x1 x2 x3 x4 x5 x6 x7 x8 x9 y0 y1 y2 y3 y4 y5 y6 y7 y8 y9 ff
  have KA4 := hide (boxKeep HW4.out hs2' K1'.out)
  have KB4 := hide (boxKeep HW4.out hs2 K2'.out)
  have HB4 := hide (bthen HB2.out HW4.out)
  have hs4 : w2.heap.size < w4.heap.size := (Array.getElem?_eq_some_iff.1 BX4.out).1
  obtain ⟨⟨x0, x1, x2, x3, x4, x5, x6, x7, x8, x9⟩, _⟩ := box10 KA4.out
  obtain ⟨⟨y0, y1, y2, y3, y4, y5, y6, y7, y8, y9⟩, ff⟩ := box10 KB4.out
  obtain ⟨⟨z0, z1, z2, z3, z4, z5, z6, z7, z8, z9⟩, gf⟩ := box10 BX4.out
  go_wp2_with fail
  refine (among_any r d t.rev b _ (HR.out.below HB4.out) N3.out).mono ?_
  rintro e w' ⟨rfl, rfl⟩
  go_wp2_with fail
  refine (refWith_any a' c' t.data b s _ (HD.out.below HB4.out) N2.out).mono ?_
  rintro e w6 ⟨v6, rfl, ho6, hb6⟩
  rw [docW_all RD.out hb0 hb1' s] at ho6
  obtain ⟨p6, q6, rfl, _, _⟩ := SegC.of_owns ho6
  have HO6 := hide ho6
  have BX6 := hide (boxKeep hb6 hs4 BX4.out)
  have HW6 := hide (bthen HW4.out hb6)
  clear hb6 ho6 BX4 HW4 KA4 KB4 HB4
  clear x0 x1 x2 x3 x4 x5 x6 x7 x8 x9 y0 y1 y2 y3 y4 y5 y6 y7 y8 y9 ff z0 z1 z2 z3 z4 z5 z6 z7 z8 z9 gf
  have KA6 := hide (boxKeep HW6.out hs2' K1'.out)
  have KB6 := hide (boxKeep HW6.out hs2 K2'.out)
  have HB6 := hide (bthen HB2.out HW6.out)
  have hs6 : w2.heap.size < w6.heap.size := (Array.getElem?_eq_some_iff.1 BX6.out).1
  obtain ⟨⟨x0, x1, x2, x3, x4, x5, x6, x7, x8, x9⟩, _⟩ := box10 KA6.out
  obtain ⟨⟨y0, y1, y2, y3, y4, y5, y6, y7, y8, y9⟩, ff⟩ := box10 KB6.out
  obtain ⟨⟨z0, z1, z2, z3, z4, z5, z6, z7, z8, z9⟩, gf⟩ := box10 BX6.out
  go_wp2
  refine bodyPost_ret (v := .tuple #[.agg #[.int .i64 t.seq, .slice a1 t.info.length c1, .slice p6 (putAt (·.1) t.data b (b, s)).length q6, .slice a3 t.rev.length c3, .bool t.h0.on, .int .i64 t.h0.left, .bool t.h1.on, .int .i64 t.h1.left, .bool t.h2.on, .int .i64 t.h2.left], .int .i64 0]) (by simp [results, Tryz.results9, go_sem, y0, y1, y2, y3, y4, y5, y6, y7, y8, y9]) rfl ⟨_, by rw [HE.out], ?_⟩
  rw [HTT.out]
  refine ⟨?_, ?_, .inr (Rows3.from (lo := w.heap.size + 2) (T := t) ⟨Q1.out.below HW6.out, RowC.owned HO6.out (by omega), Q3.out.below HW6.out⟩ (by omega))⟩
  · refine Rows3.is (lo := w.heap.size + 2) (T := t) ?_ (by omega) (by have := putLe (·.1) t.data b (b, s); omega) (by omega)
    iterate 10 (refine Rows3.set ?_ (by simp) _)
    exact ⟨Q1.out.below (HW6.out.setCell (Nat.le_refl _) _), RowC.owned (ownsRow_setCell_below HO6.out hs4 _) (by omega), Q3.out.below (HW6.out.setCell (Nat.le_refl _) _)⟩
  · iterate 10 (refine Below.setCell ?_ (by simp) _)
    exact HB6.out.setCell (p := ⟨w2.heap.size, 2, none⟩) (by simp; omega) _

set_option maxHeartbeats 2000000 in
set_option maxRecDepth 100000 in
theorem alter1_form2 (v : Value) (t : Tx) (b : Int) (s : ByteArray) (w : World) (hT : IsTx w v t) (r1 : t.info.length * 24 ≤ 140737488355328) (r2 : t.data.length * 24 ≤ 140737488355328) (hr : reachE t 2 b = 0) (hs : fitsB s = false) :
    Calls Tryz.prog 9 #[.int .i64 1, v, .int .i64 2, .int .i64 b, .string s] w fun e w' => ∃ v2, e = .returned (.tuple #[v2, .int .i64 (fillE t 2 b s)]) ∧ IsTx w' v2 (fillT t 2 b s) ∧ Below w.heap.size w w' ∧ (v2 = v ∨ RowsFrom w.heap.size v2 (fillT t 2 b s)) := by
  have HRZ := hide hr
  have HE : Hid (fillE t 2 b s = 1) := by rw [Hid, fillE, if_neg (by rw [HRZ.out]; simp), if_pos hs]
  clear HRZ
  have HTT : Hid (fillT t 2 b s = t) := by rw [Hid, fillT, if_neg (by rw [HE.out]; decide)]
  have hz : ¬ (s.size : Int) = 32 := by simpa [fitsB] using hs
  clear hs
  have hrk := reach_ok hr
  have hg := hrk.1
  have HO : Hid (t.h2.on = true) := hrk.2.2.1
  have hb0 := hrk.2.2.2.1
  have hb1' := hrk.2.2.2.2
  have hb : withinB b 0 11 = true := withinB_iff.2 ⟨hb0, hb1'⟩
  have hsm := good_small hg
  have hgi := ((goodX_iff t).1 hg).2.2.1
  have RI := hide hgi.1
  have RD := hide hgi.2.1
  have RR := hide hgi.2.2
  clear hrk hgi hr
  have HT := hide hT
  obtain ⟨a, c, a', c', r, d, rfl, hM, hD, hR, n1, n2, n3⟩ := hT
  have HM := hide hM
  have HD := hide hD
  have HR := hide hR
  have N1 := hide n1
  have N2 := hide n2
  have N3 := hide n3
  clear hM hD hR n1 n2 n3
  go_enter Tryz.func9, Tryz.ntmps9
  go_wp2_with fail
  refine (goodTxn_any _ t _ (HT.out.below (bthen (below1 _ _) (below1 _ _))) r1 r2).mono ?_
  rintro e w1 ⟨rfl, hb1⟩
  have hs1 : w.heap.size + 1 < w1.heap.size := by have := hb1.size; simp at this; omega
  have hs1' : w.heap.size < w1.heap.size := by omega
  have K1 := hide (two1 hb1)
  have K2 := hide (two2 hb1)
  obtain ⟨⟨x0, x1, x2, x3, x4, x5, x6, x7, x8, x9⟩, _⟩ := box10 K1.out
  obtain ⟨⟨y0, y1, y2, y3, y4, y5, y6, y7, y8, y9⟩, ff⟩ := box10 K2.out
  have HB1 := hide (bthen (bthen (below1 _ _) (below1 _ _)) hb1)
  clear hb1
  have ho := HO.out
  have HTo : Hid (IsTx w (.agg #[.int .i64 t.seq, .slice a t.info.length c, .slice a' t.data.length c', .slice r t.rev.length d, .bool t.h0.on, .int .i64 t.h0.left, .bool t.h1.on, .int .i64 t.h1.left, .bool true, .int .i64 t.h2.left]) t) := by have := HT.out; rw [ho] at this; exact this
  go_wp2_with (go_at_call 45; refine (isBlock_any _ _).mono ?_; rintro e w' ⟨rfl, rfl⟩)
  refine bodyPost_ret (v := .tuple #[.agg #[.int .i64 t.seq, .slice a t.info.length c, .slice a' t.data.length c', .slice r t.rev.length d, .bool t.h0.on, .int .i64 t.h0.left, .bool t.h1.on, .int .i64 t.h1.left, .bool t.h2.on, .int .i64 t.h2.left], .int .i64 1]) (by simp [results, Tryz.results9, go_sem, y0, y1, y2, y3, y4, y5, y6, y7, y8, y9, ho]) rfl ⟨_, by rw [HE.out], ?_⟩
  refine ⟨?_, ?_, .inl rfl⟩
  · rw [HTT.out]
    refine HT.out.below ?_
    repeat refine Below.setCell ?_ (by simp) _
    exact HB1.out
  · repeat refine Below.setCell ?_ (by simp) _
    exact HB1.out

set_option maxHeartbeats 2000000 in
set_option maxRecDepth 100000 in
theorem alter1_in2 (v : Value) (t : Tx) (b : Int) (s : ByteArray) (w : World) (hT : IsTx w v t) (r1 : t.info.length * 24 ≤ 140737488355328) (r2 : t.data.length * 24 ≤ 140737488355328) (hr : reachE t 2 b = 0) (hs : fitsB s = true) (hi : (textIn b t.info).isSome = true) :
    Calls Tryz.prog 9 #[.int .i64 1, v, .int .i64 2, .int .i64 b, .string s] w fun e w' => ∃ v2, e = .returned (.tuple #[v2, .int .i64 (fillE t 2 b s)]) ∧ IsTx w' v2 (fillT t 2 b s) ∧ Below w.heap.size w w' ∧ (v2 = v ∨ RowsFrom w.heap.size v2 (fillT t 2 b s)) := by
  have HRZ := hide hr
  have HE : Hid (fillE t 2 b s = 8) := by rw [Hid, fillE, if_neg (by rw [HRZ.out]; simp), if_neg (by rw [hs]; simp), if_pos (by rw [namedB, hi]; rfl)]
  clear HRZ
  have HTT : Hid (fillT t 2 b s = t) := by rw [Hid, fillT, if_neg (by rw [HE.out]; decide)]
  have hz : (s.size : Int) = 32 := by simpa [fitsB] using hs
  clear hs
  have hrk := reach_ok hr
  have hg := hrk.1
  have HO : Hid (t.h2.on = true) := hrk.2.2.1
  have hb0 := hrk.2.2.2.1
  have hb1' := hrk.2.2.2.2
  have hb : withinB b 0 11 = true := withinB_iff.2 ⟨hb0, hb1'⟩
  have hsm := good_small hg
  have hgi := ((goodX_iff t).1 hg).2.2.1
  have RI := hide hgi.1
  have RD := hide hgi.2.1
  have RR := hide hgi.2.2
  clear hrk hgi hr
  have HT := hide hT
  obtain ⟨a, c, a', c', r, d, rfl, hM, hD, hR, n1, n2, n3⟩ := hT
  have HM := hide hM
  have HD := hide hD
  have HR := hide hR
  have N1 := hide n1
  have N2 := hide n2
  have N3 := hide n3
  clear hM hD hR n1 n2 n3
  go_enter Tryz.func9, Tryz.ntmps9
  go_wp2_with fail
  refine (goodTxn_any _ t _ (HT.out.below (bthen (below1 _ _) (below1 _ _))) r1 r2).mono ?_
  rintro e w1 ⟨rfl, hb1⟩
  have hs1 : w.heap.size + 1 < w1.heap.size := by have := hb1.size; simp at this; omega
  have hs1' : w.heap.size < w1.heap.size := by omega
  have K1 := hide (two1 hb1)
  have K2 := hide (two2 hb1)
  obtain ⟨⟨x0, x1, x2, x3, x4, x5, x6, x7, x8, x9⟩, _⟩ := box10 K1.out
  obtain ⟨⟨y0, y1, y2, y3, y4, y5, y6, y7, y8, y9⟩, ff⟩ := box10 K2.out
  have HB1 := hide (bthen (bthen (below1 _ _) (below1 _ _)) hb1)
  clear hb1
  have ho := HO.out
  have HTo : Hid (IsTx w (.agg #[.int .i64 t.seq, .slice a t.info.length c, .slice a' t.data.length c', .slice r t.rev.length d, .bool t.h0.on, .int .i64 t.h0.left, .bool t.h1.on, .int .i64 t.h1.left, .bool true, .int .i64 t.h2.left]) t) := by have := HT.out; rw [ho] at this; exact this
  go_wp2_with (go_at_call 45; refine (isBlock_any _ _).mono ?_; rintro e w' ⟨rfl, rfl⟩)
  refine (copyTxn_any _ t _ (HTo.out.below HB1.out) r1 r2 (by omega)).mono ?_
  rintro e w2 ⟨v2, rfl, hN, hb2⟩
  obtain ⟨a1, c1, a2, c2, a3, c3, rfl, ⟨hM1, hD1, hR1, m1, m2, m3⟩, q1, q2, q3⟩ := hN
  have Q1 : Hid (RowC w2 (w.heap.size + 2) (.slice a1 t.info.length c1) t.info) := ⟨a1, c1, rfl, hM1, fun x off e => by have := q1 x off e; omega⟩
  have Q2 : Hid (RowC w2 (w.heap.size + 2) (.slice a2 t.data.length c2) t.data) := ⟨a2, c2, rfl, hD1, fun x off e => by have := q2 x off e; omega⟩
  have Q3 : Hid (RowN w2 (w.heap.size + 2) (.slice a3 t.rev.length c3) t.rev) := ⟨a3, c3, rfl, hR1, fun x off e => by have := q3 x off e; omega⟩
  clear hM1 hD1 hR1 m1 m2 m3 q1 q2 q3 ho HTo HO
  have hs2 : w.heap.size + 1 < w2.heap.size := by have := hb2.size; omega
  have hs2' : w.heap.size < w2.heap.size := by omega
  have K1' := hide (boxKeep hb2 hs1' K1.out)
  have K2' := hide (boxKeep hb2 hs1 K2.out)
  have HB2 := hide (bthen HB1.out hb2)
  clear x0 x1 x2 x3 x4 x5 x6 x7 x8 x9 y0 y1 y2 y3 y4 y5 y6 y7 y8 y9 ff hb2 K1 K2 HB1
  obtain ⟨⟨x0, x1, x2, x3, x4, x5, x6, x7, x8, x9⟩, _⟩ := box10 K1'.out
  obtain ⟨⟨y0, y1, y2, y3, y4, y5, y6, y7, y8, y9⟩, ff⟩ := box10 K2'.out
  go_wp2_with fail
  refine (in_any a c t.info b _ (HM.out.below (bthen HB2.out (below1 _ _))) N1.out).mono ?_
  rintro e w4 ⟨rfl, hb4⟩
  have BX4 : Hid (w4.heap[w2.heap.size]? = some (Obj.cells #[.int .i64 t.seq, .slice a1 t.info.length c1, .slice a2 t.data.length c2, .slice a3 t.rev.length c3, .bool t.h0.on, .int .i64 t.h0.left, .bool t.h1.on, .int .i64 t.h1.left, .bool t.h2.on, .int .i64 t.h2.left] 28 (0, 0))) := one1 hb4
  have HW4 : Hid (Below w2.heap.size w2 w4) := bthen (below1 _ _) hb4
  clear hb4
  clear x0 x1 x2 x3 x4 x5 x6 x7 x8 x9 y0 y1 y2 y3 y4 y5 y6 y7 y8 y9 ff
  have KA4 := hide (boxKeep HW4.out hs2' K1'.out)
  have KB4 := hide (boxKeep HW4.out hs2 K2'.out)
  have HB4 := hide (bthen HB2.out HW4.out)
  have hs4 : w2.heap.size < w4.heap.size := (Array.getElem?_eq_some_iff.1 BX4.out).1
  obtain ⟨⟨x0, x1, x2, x3, x4, x5, x6, x7, x8, x9⟩, _⟩ := box10 KA4.out
  obtain ⟨⟨y0, y1, y2, y3, y4, y5, y6, y7, y8, y9⟩, ff⟩ := box10 KB4.out
  obtain ⟨⟨z0, z1, z2, z3, z4, z5, z6, z7, z8, z9⟩, gf⟩ := box10 BX4.out
  go_wp2
  refine bodyPost_ret (v := .tuple #[.agg #[.int .i64 t.seq, .slice a t.info.length c, .slice a' t.data.length c', .slice r t.rev.length d, .bool t.h0.on, .int .i64 t.h0.left, .bool t.h1.on, .int .i64 t.h1.left, .bool t.h2.on, .int .i64 t.h2.left], .int .i64 8]) (by simp [results, Tryz.results9, go_sem, y0, y1, y2, y3, y4, y5, y6, y7, y8, y9]) rfl ⟨_, by rw [HE.out], ?_⟩
  refine ⟨?_, ?_, .inl rfl⟩
  · rw [HTT.out]
    refine HT.out.below ?_
    repeat refine Below.setCell ?_ (by simp) _
    exact HB4.out
  · repeat refine Below.setCell ?_ (by simp) _
    exact HB4.out

set_option maxHeartbeats 2000000 in
set_option maxRecDepth 100000 in
theorem alter1_rev2 (v : Value) (t : Tx) (b : Int) (s : ByteArray) (w : World) (hT : IsTx w v t) (r1 : t.info.length * 24 ≤ 140737488355328) (r2 : t.data.length * 24 ≤ 140737488355328) (hr : reachE t 2 b = 0) (hs : fitsB s = true) (hi : (textIn b t.info).isSome = false) (ha : amongB t.rev b = true) :
    Calls Tryz.prog 9 #[.int .i64 1, v, .int .i64 2, .int .i64 b, .string s] w fun e w' => ∃ v2, e = .returned (.tuple #[v2, .int .i64 (fillE t 2 b s)]) ∧ IsTx w' v2 (fillT t 2 b s) ∧ Below w.heap.size w w' ∧ (v2 = v ∨ RowsFrom w.heap.size v2 (fillT t 2 b s)) := by
  have HRZ := hide hr
  have HE : Hid (fillE t 2 b s = 8) := by rw [Hid, fillE, if_neg (by rw [HRZ.out]; simp), if_neg (by rw [hs]; simp), if_pos (by rw [namedB, hi, ha]; rfl)]
  clear HRZ
  have HTT : Hid (fillT t 2 b s = t) := by rw [Hid, fillT, if_neg (by rw [HE.out]; decide)]
  have hz : (s.size : Int) = 32 := by simpa [fitsB] using hs
  clear hs
  have hrk := reach_ok hr
  have hg := hrk.1
  have HO : Hid (t.h2.on = true) := hrk.2.2.1
  have hb0 := hrk.2.2.2.1
  have hb1' := hrk.2.2.2.2
  have hb : withinB b 0 11 = true := withinB_iff.2 ⟨hb0, hb1'⟩
  have hsm := good_small hg
  have hgi := ((goodX_iff t).1 hg).2.2.1
  have RI := hide hgi.1
  have RD := hide hgi.2.1
  have RR := hide hgi.2.2
  clear hrk hgi hr
  have HT := hide hT
  obtain ⟨a, c, a', c', r, d, rfl, hM, hD, hR, n1, n2, n3⟩ := hT
  have HM := hide hM
  have HD := hide hD
  have HR := hide hR
  have N1 := hide n1
  have N2 := hide n2
  have N3 := hide n3
  clear hM hD hR n1 n2 n3
  go_enter Tryz.func9, Tryz.ntmps9
  go_wp2_with fail
  refine (goodTxn_any _ t _ (HT.out.below (bthen (below1 _ _) (below1 _ _))) r1 r2).mono ?_
  rintro e w1 ⟨rfl, hb1⟩
  have hs1 : w.heap.size + 1 < w1.heap.size := by have := hb1.size; simp at this; omega
  have hs1' : w.heap.size < w1.heap.size := by omega
  have K1 := hide (two1 hb1)
  have K2 := hide (two2 hb1)
  obtain ⟨⟨x0, x1, x2, x3, x4, x5, x6, x7, x8, x9⟩, _⟩ := box10 K1.out
  obtain ⟨⟨y0, y1, y2, y3, y4, y5, y6, y7, y8, y9⟩, ff⟩ := box10 K2.out
  have HB1 := hide (bthen (bthen (below1 _ _) (below1 _ _)) hb1)
  clear hb1
  have ho := HO.out
  have HTo : Hid (IsTx w (.agg #[.int .i64 t.seq, .slice a t.info.length c, .slice a' t.data.length c', .slice r t.rev.length d, .bool t.h0.on, .int .i64 t.h0.left, .bool t.h1.on, .int .i64 t.h1.left, .bool true, .int .i64 t.h2.left]) t) := by have := HT.out; rw [ho] at this; exact this
  go_wp2_with (go_at_call 45; refine (isBlock_any _ _).mono ?_; rintro e w' ⟨rfl, rfl⟩)
  refine (copyTxn_any _ t _ (HTo.out.below HB1.out) r1 r2 (by omega)).mono ?_
  rintro e w2 ⟨v2, rfl, hN, hb2⟩
  obtain ⟨a1, c1, a2, c2, a3, c3, rfl, ⟨hM1, hD1, hR1, m1, m2, m3⟩, q1, q2, q3⟩ := hN
  have Q1 : Hid (RowC w2 (w.heap.size + 2) (.slice a1 t.info.length c1) t.info) := ⟨a1, c1, rfl, hM1, fun x off e => by have := q1 x off e; omega⟩
  have Q2 : Hid (RowC w2 (w.heap.size + 2) (.slice a2 t.data.length c2) t.data) := ⟨a2, c2, rfl, hD1, fun x off e => by have := q2 x off e; omega⟩
  have Q3 : Hid (RowN w2 (w.heap.size + 2) (.slice a3 t.rev.length c3) t.rev) := ⟨a3, c3, rfl, hR1, fun x off e => by have := q3 x off e; omega⟩
  clear hM1 hD1 hR1 m1 m2 m3 q1 q2 q3 ho HTo HO
  have hs2 : w.heap.size + 1 < w2.heap.size := by have := hb2.size; omega
  have hs2' : w.heap.size < w2.heap.size := by omega
  have K1' := hide (boxKeep hb2 hs1' K1.out)
  have K2' := hide (boxKeep hb2 hs1 K2.out)
  have HB2 := hide (bthen HB1.out hb2)
  clear x0 x1 x2 x3 x4 x5 x6 x7 x8 x9 y0 y1 y2 y3 y4 y5 y6 y7 y8 y9 ff hb2 K1 K2 HB1
  obtain ⟨⟨x0, x1, x2, x3, x4, x5, x6, x7, x8, x9⟩, _⟩ := box10 K1'.out
  obtain ⟨⟨y0, y1, y2, y3, y4, y5, y6, y7, y8, y9⟩, ff⟩ := box10 K2'.out
  go_wp2_with fail
  refine (in_any a c t.info b _ (HM.out.below (bthen HB2.out (below1 _ _))) N1.out).mono ?_
  rintro e w4 ⟨rfl, hb4⟩
  have BX4 : Hid (w4.heap[w2.heap.size]? = some (Obj.cells #[.int .i64 t.seq, .slice a1 t.info.length c1, .slice a2 t.data.length c2, .slice a3 t.rev.length c3, .bool t.h0.on, .int .i64 t.h0.left, .bool t.h1.on, .int .i64 t.h1.left, .bool t.h2.on, .int .i64 t.h2.left] 28 (0, 0))) := one1 hb4
  have HW4 : Hid (Below w2.heap.size w2 w4) := bthen (below1 _ _) hb4
  clear hb4
  clear x0 x1 x2 x3 x4 x5 x6 x7 x8 x9 y0 y1 y2 y3 y4 y5 y6 y7 y8 y9 ff
  have KA4 := hide (boxKeep HW4.out hs2' K1'.out)
  have KB4 := hide (boxKeep HW4.out hs2 K2'.out)
  have HB4 := hide (bthen HB2.out HW4.out)
  have hs4 : w2.heap.size < w4.heap.size := (Array.getElem?_eq_some_iff.1 BX4.out).1
  obtain ⟨⟨x0, x1, x2, x3, x4, x5, x6, x7, x8, x9⟩, _⟩ := box10 KA4.out
  obtain ⟨⟨y0, y1, y2, y3, y4, y5, y6, y7, y8, y9⟩, ff⟩ := box10 KB4.out
  obtain ⟨⟨z0, z1, z2, z3, z4, z5, z6, z7, z8, z9⟩, gf⟩ := box10 BX4.out
  go_wp2_with fail
  refine (among_any r d t.rev b _ (HR.out.below HB4.out) N3.out).mono ?_
  rintro e w' ⟨rfl, rfl⟩
  go_wp2
  refine bodyPost_ret (v := .tuple #[.agg #[.int .i64 t.seq, .slice a t.info.length c, .slice a' t.data.length c', .slice r t.rev.length d, .bool t.h0.on, .int .i64 t.h0.left, .bool t.h1.on, .int .i64 t.h1.left, .bool t.h2.on, .int .i64 t.h2.left], .int .i64 8]) (by simp [results, Tryz.results9, go_sem, y0, y1, y2, y3, y4, y5, y6, y7, y8, y9]) rfl ⟨_, by rw [HE.out], ?_⟩
  refine ⟨?_, ?_, .inl rfl⟩
  · rw [HTT.out]
    refine HT.out.below ?_
    repeat refine Below.setCell ?_ (by simp) _
    exact HB4.out
  · repeat refine Below.setCell ?_ (by simp) _
    exact HB4.out

set_option maxHeartbeats 2000000 in
set_option maxRecDepth 100000 in
theorem alter1_ok2 (v : Value) (t : Tx) (b : Int) (s : ByteArray) (w : World) (hT : IsTx w v t) (r1 : t.info.length * 24 ≤ 140737488355328) (r2 : t.data.length * 24 ≤ 140737488355328) (hr : reachE t 2 b = 0) (hs : fitsB s = true) (hi : (textIn b t.info).isSome = false) (ha : amongB t.rev b = false) :
    Calls Tryz.prog 9 #[.int .i64 1, v, .int .i64 2, .int .i64 b, .string s] w fun e w' => ∃ v2, e = .returned (.tuple #[v2, .int .i64 (fillE t 2 b s)]) ∧ IsTx w' v2 (fillT t 2 b s) ∧ Below w.heap.size w w' ∧ (v2 = v ∨ RowsFrom w.heap.size v2 (fillT t 2 b s)) := by
  have HRZ := hide hr
  have HE : Hid (fillE t 2 b s = 0) := by rw [Hid, fillE, if_neg (by rw [HRZ.out]; simp), if_neg (by rw [hs]; simp), if_neg (by rw [namedB, hi, ha]; simp)]
  clear HRZ
  have HTT : Hid (fillT t 2 b s = { t with data := putAt (·.1) t.data b (b, s) }) := by rw [Hid, fillT, if_pos HE.out]
  have hz : (s.size : Int) = 32 := by simpa [fitsB] using hs
  clear hs
  have hrk := reach_ok hr
  have hg := hrk.1
  have HO : Hid (t.h2.on = true) := hrk.2.2.1
  have hb0 := hrk.2.2.2.1
  have hb1' := hrk.2.2.2.2
  have hb : withinB b 0 11 = true := withinB_iff.2 ⟨hb0, hb1'⟩
  have hsm := good_small hg
  have hgi := ((goodX_iff t).1 hg).2.2.1
  have RI := hide hgi.1
  have RD := hide hgi.2.1
  have RR := hide hgi.2.2
  clear hrk hgi hr
  have HT := hide hT
  obtain ⟨a, c, a', c', r, d, rfl, hM, hD, hR, n1, n2, n3⟩ := hT
  have HM := hide hM
  have HD := hide hD
  have HR := hide hR
  have N1 := hide n1
  have N2 := hide n2
  have N3 := hide n3
  clear hM hD hR n1 n2 n3
  go_enter Tryz.func9, Tryz.ntmps9
  go_wp2_with fail
  refine (goodTxn_any _ t _ (HT.out.below (bthen (below1 _ _) (below1 _ _))) r1 r2).mono ?_
  rintro e w1 ⟨rfl, hb1⟩
  have hs1 : w.heap.size + 1 < w1.heap.size := by have := hb1.size; simp at this; omega
  have hs1' : w.heap.size < w1.heap.size := by omega
  have K1 := hide (two1 hb1)
  have K2 := hide (two2 hb1)
  obtain ⟨⟨x0, x1, x2, x3, x4, x5, x6, x7, x8, x9⟩, _⟩ := box10 K1.out
  obtain ⟨⟨y0, y1, y2, y3, y4, y5, y6, y7, y8, y9⟩, ff⟩ := box10 K2.out
  have HB1 := hide (bthen (bthen (below1 _ _) (below1 _ _)) hb1)
  clear hb1
  have ho := HO.out
  have HTo : Hid (IsTx w (.agg #[.int .i64 t.seq, .slice a t.info.length c, .slice a' t.data.length c', .slice r t.rev.length d, .bool t.h0.on, .int .i64 t.h0.left, .bool t.h1.on, .int .i64 t.h1.left, .bool true, .int .i64 t.h2.left]) t) := by have := HT.out; rw [ho] at this; exact this
  go_wp2_with (go_at_call 45; refine (isBlock_any _ _).mono ?_; rintro e w' ⟨rfl, rfl⟩)
  refine (copyTxn_any _ t _ (HTo.out.below HB1.out) r1 r2 (by omega)).mono ?_
  rintro e w2 ⟨v2, rfl, hN, hb2⟩
  obtain ⟨a1, c1, a2, c2, a3, c3, rfl, ⟨hM1, hD1, hR1, m1, m2, m3⟩, q1, q2, q3⟩ := hN
  have Q1 : Hid (RowC w2 (w.heap.size + 2) (.slice a1 t.info.length c1) t.info) := ⟨a1, c1, rfl, hM1, fun x off e => by have := q1 x off e; omega⟩
  have Q2 : Hid (RowC w2 (w.heap.size + 2) (.slice a2 t.data.length c2) t.data) := ⟨a2, c2, rfl, hD1, fun x off e => by have := q2 x off e; omega⟩
  have Q3 : Hid (RowN w2 (w.heap.size + 2) (.slice a3 t.rev.length c3) t.rev) := ⟨a3, c3, rfl, hR1, fun x off e => by have := q3 x off e; omega⟩
  clear hM1 hD1 hR1 m1 m2 m3 q1 q2 q3 ho HTo HO
  have hs2 : w.heap.size + 1 < w2.heap.size := by have := hb2.size; omega
  have hs2' : w.heap.size < w2.heap.size := by omega
  have K1' := hide (boxKeep hb2 hs1' K1.out)
  have K2' := hide (boxKeep hb2 hs1 K2.out)
  have HB2 := hide (bthen HB1.out hb2)
  clear x0 x1 x2 x3 x4 x5 x6 x7 x8 x9 y0 y1 y2 y3 y4 y5 y6 y7 y8 y9 ff hb2 K1 K2 HB1
  obtain ⟨⟨x0, x1, x2, x3, x4, x5, x6, x7, x8, x9⟩, _⟩ := box10 K1'.out
  obtain ⟨⟨y0, y1, y2, y3, y4, y5, y6, y7, y8, y9⟩, ff⟩ := box10 K2'.out
  go_wp2_with fail
  refine (in_any a c t.info b _ (HM.out.below (bthen HB2.out (below1 _ _))) N1.out).mono ?_
  rintro e w4 ⟨rfl, hb4⟩
  have BX4 : Hid (w4.heap[w2.heap.size]? = some (Obj.cells #[.int .i64 t.seq, .slice a1 t.info.length c1, .slice a2 t.data.length c2, .slice a3 t.rev.length c3, .bool t.h0.on, .int .i64 t.h0.left, .bool t.h1.on, .int .i64 t.h1.left, .bool t.h2.on, .int .i64 t.h2.left] 28 (0, 0))) := one1 hb4
  have HW4 : Hid (Below w2.heap.size w2 w4) := bthen (below1 _ _) hb4
  clear hb4
  clear x0 x1 x2 x3 x4 x5 x6 x7 x8 x9 y0 y1 y2 y3 y4 y5 y6 y7 y8 y9 ff
  have KA4 := hide (boxKeep HW4.out hs2' K1'.out)
  have KB4 := hide (boxKeep HW4.out hs2 K2'.out)
  have HB4 := hide (bthen HB2.out HW4.out)
  have hs4 : w2.heap.size < w4.heap.size := (Array.getElem?_eq_some_iff.1 BX4.out).1
  obtain ⟨⟨x0, x1, x2, x3, x4, x5, x6, x7, x8, x9⟩, _⟩ := box10 KA4.out
  obtain ⟨⟨y0, y1, y2, y3, y4, y5, y6, y7, y8, y9⟩, ff⟩ := box10 KB4.out
  obtain ⟨⟨z0, z1, z2, z3, z4, z5, z6, z7, z8, z9⟩, gf⟩ := box10 BX4.out
  go_wp2_with fail
  refine (among_any r d t.rev b _ (HR.out.below HB4.out) N3.out).mono ?_
  rintro e w' ⟨rfl, rfl⟩
  go_wp2_with fail
  refine (refWith_any a' c' t.data b s _ (HD.out.below HB4.out) N2.out).mono ?_
  rintro e w6 ⟨v6, rfl, ho6, hb6⟩
  rw [docW_all RD.out hb0 hb1' s] at ho6
  obtain ⟨p6, q6, rfl, _, _⟩ := SegC.of_owns ho6
  have HO6 := hide ho6
  have BX6 := hide (boxKeep hb6 hs4 BX4.out)
  have HW6 := hide (bthen HW4.out hb6)
  clear hb6 ho6 BX4 HW4 KA4 KB4 HB4
  clear x0 x1 x2 x3 x4 x5 x6 x7 x8 x9 y0 y1 y2 y3 y4 y5 y6 y7 y8 y9 ff z0 z1 z2 z3 z4 z5 z6 z7 z8 z9 gf
  have KA6 := hide (boxKeep HW6.out hs2' K1'.out)
  have KB6 := hide (boxKeep HW6.out hs2 K2'.out)
  have HB6 := hide (bthen HB2.out HW6.out)
  have hs6 : w2.heap.size < w6.heap.size := (Array.getElem?_eq_some_iff.1 BX6.out).1
  obtain ⟨⟨x0, x1, x2, x3, x4, x5, x6, x7, x8, x9⟩, _⟩ := box10 KA6.out
  obtain ⟨⟨y0, y1, y2, y3, y4, y5, y6, y7, y8, y9⟩, ff⟩ := box10 KB6.out
  obtain ⟨⟨z0, z1, z2, z3, z4, z5, z6, z7, z8, z9⟩, gf⟩ := box10 BX6.out
  go_wp2
  refine bodyPost_ret (v := .tuple #[.agg #[.int .i64 t.seq, .slice a1 t.info.length c1, .slice p6 (putAt (·.1) t.data b (b, s)).length q6, .slice a3 t.rev.length c3, .bool t.h0.on, .int .i64 t.h0.left, .bool t.h1.on, .int .i64 t.h1.left, .bool t.h2.on, .int .i64 t.h2.left], .int .i64 0]) (by simp [results, Tryz.results9, go_sem, y0, y1, y2, y3, y4, y5, y6, y7, y8, y9]) rfl ⟨_, by rw [HE.out], ?_⟩
  rw [HTT.out]
  refine ⟨?_, ?_, .inr (Rows3.from (lo := w.heap.size + 2) (T := t) ⟨Q1.out.below HW6.out, RowC.owned HO6.out (by omega), Q3.out.below HW6.out⟩ (by omega))⟩
  · refine Rows3.is (lo := w.heap.size + 2) (T := t) ?_ (by omega) (by have := putLe (·.1) t.data b (b, s); omega) (by omega)
    iterate 10 (refine Rows3.set ?_ (by simp) _)
    exact ⟨Q1.out.below (HW6.out.setCell (Nat.le_refl _) _), RowC.owned (ownsRow_setCell_below HO6.out hs4 _) (by omega), Q3.out.below (HW6.out.setCell (Nat.le_refl _) _)⟩
  · iterate 10 (refine Below.setCell ?_ (by simp) _)
    exact HB6.out.setCell (p := ⟨w2.heap.size, 2, none⟩) (by simp; omega) _

set_option maxHeartbeats 2000000 in
set_option maxRecDepth 100000 in
theorem alter1_any (v : Value) (t : Tx) (h b : Int) (s : ByteArray) (w : World) (hT : IsTx w v t) (r1 : t.info.length * 24 ≤ 140737488355328) (r2 : t.data.length * 24 ≤ 140737488355328) :
    Calls Tryz.prog 9 #[.int .i64 1, v, .int .i64 h, .int .i64 b, .string s] w fun e w' => ∃ v2, e = .returned (.tuple #[v2, .int .i64 (fillE t h b s)]) ∧ IsTx w' v2 (fillT t h b s) ∧ Below w.heap.size w w' ∧ (v2 = v ∨ RowsFrom w.heap.size v2 (fillT t h b s)) := by
  by_cases hr : reachE t h b = 0
  · have hc := (reach_ok hr).2.1
    cases hs : fitsB s with
    | false =>
      rcases hc with rfl | rfl | rfl
      · exact alter1_form0 v t b s w hT r1 r2 hr hs
      · exact alter1_form1 v t b s w hT r1 r2 hr hs
      · exact alter1_form2 v t b s w hT r1 r2 hr hs
    | true =>
      cases hi : (textIn b t.info).isSome with
      | true =>
        rcases hc with rfl | rfl | rfl
        · exact alter1_in0 v t b s w hT r1 r2 hr hs hi
        · exact alter1_in1 v t b s w hT r1 r2 hr hs hi
        · exact alter1_in2 v t b s w hT r1 r2 hr hs hi
      | false =>
        cases ha : amongB t.rev b with
        | true =>
          rcases hc with rfl | rfl | rfl
          · exact alter1_rev0 v t b s w hT r1 r2 hr hs hi ha
          · exact alter1_rev1 v t b s w hT r1 r2 hr hs hi ha
          · exact alter1_rev2 v t b s w hT r1 r2 hr hs hi ha
        | false =>
          rcases hc with rfl | rfl | rfl
          · exact alter1_ok0 v t b s w hT r1 r2 hr hs hi ha
          · exact alter1_ok1 v t b s w hT r1 r2 hr hs hi ha
          · exact alter1_ok2 v t b s w hT r1 r2 hr hs hi ha
  · have e : fillE t h b s = reachE t h b := by rw [fillE, if_pos hr]
    have e2 : fillT t h b s = t := by rw [fillT, if_neg (by rw [e]; exact hr)]
    rw [e, e2]
    exact alter_no 1 v t h b s w hT r1 r2 hr

end Go.Proofs.YtjnpndfpajjihabGreat
