/-
  The walk of the document's own Alter: Revoke.
-/
import Derived.Test.YtjnpndfpajjihabGreatTRefAlt
import Derived.Test.YtjnpndfpajjihabGreatTConcatI
import Derived.Deep.RegionWith
namespace Go.Proofs.YtjnpndfpajjihabGreat
open Go.RowKit

set_option maxHeartbeats 2000000 in
set_option maxRecDepth 100000 in
theorem alter2_twice2 (v : Value) (t : Tx) (b : Int) (s : ByteArray) (w : World) (hT : IsTx w v t) (r1 : t.info.length * 24 ≤ 140737488355328) (r2 : t.data.length * 24 ≤ 140737488355328) (hr : reachE t 2 b = 0) (ha : amongB t.rev b = true) :
    Calls Tryz.prog 9 #[.int .i64 2, v, .int .i64 2, .int .i64 b, .string s] w fun e w' => ∃ v2, e = .returned (.tuple #[v2, .int .i64 (revokeE t 2 b)]) ∧ IsTx w' v2 (revokeT t 2 b) ∧ Below w.heap.size w w' ∧ (v2 = v ∨ RowsFrom w.heap.size v2 (revokeT t 2 b)) := by
  have HRZ := hide hr
  have HE : Hid (revokeE t 2 b = 5) := by rw [Hid, revokeE, if_neg (by rw [HRZ.out]; simp), if_pos ha]
  clear HRZ
  have HTT : Hid (revokeT t 2 b = t) := by rw [Hid, revokeT, if_neg (by rw [HE.out]; decide)]
  have hrk := reach_ok hr
  have hg := hrk.1
  have HO : Hid (t.h2.on = true) := hrk.2.2.1
  have hb0 := hrk.2.2.2.1
  have hb1' := hrk.2.2.2.2
  have hb : withinB b 0 11 = true := withinB_iff.2 ⟨hb0, hb1'⟩
  have hsm := good_small hg
  have hgi := ((goodX_iff t).1 hg).2.2.1
  have RI := hide hgi.1
  have RD := hide hgi.2.1
  have RR := hide hgi.2.2
  clear hrk hgi hr
  have HT := hide hT
  obtain ⟨a, c, a', c', r, d, rfl, hM, hD, hR, n1, n2, n3⟩ := hT
  have HM := hide hM
  have HD := hide hD
  have HR := hide hR
  have N1 := hide n1
  have N2 := hide n2
  have N3 := hide n3
  clear hM hD hR n1 n2 n3
  go_enter Tryz.func9, Tryz.ntmps9
  go_wp2_with fail
  refine (goodTxn_any _ t _ (HT.out.below (bthen (below1 _ _) (below1 _ _))) r1 r2).mono ?_
  rintro e w1 ⟨rfl, hb1⟩
  have hs1 : w.heap.size + 1 < w1.heap.size := by have := hb1.size; simp at this; omega
  have hs1' : w.heap.size < w1.heap.size := by omega
  have K1 := hide (two1 hb1)
  have K2 := hide (two2 hb1)
  obtain ⟨⟨x0, x1, x2, x3, x4, x5, x6, x7, x8, x9⟩, _⟩ := box10 K1.out
  obtain ⟨⟨y0, y1, y2, y3, y4, y5, y6, y7, y8, y9⟩, ff⟩ := box10 K2.out
  have HB1 := hide (bthen (bthen (below1 _ _) (below1 _ _)) hb1)
  clear hb1
  have ho := HO.out
  have HTo : Hid (IsTx w (.agg #[.int .i64 t.seq, .slice a t.info.length c, .slice a' t.data.length c', .slice r t.rev.length d, .bool t.h0.on, .int .i64 t.h0.left, .bool t.h1.on, .int .i64 t.h1.left, .bool true, .int .i64 t.h2.left]) t) := by have := HT.out; rw [ho] at this; exact this
  go_wp2_with (go_at_call 45; refine (isBlock_any _ _).mono ?_; rintro e w' ⟨rfl, rfl⟩)
  refine (copyTxn_any _ t _ (HTo.out.below HB1.out) r1 r2 (by omega)).mono ?_
  rintro e w2 ⟨v2, rfl, hN, hb2⟩
  obtain ⟨a1, c1, a2, c2, a3, c3, rfl, ⟨hM1, hD1, hR1, m1, m2, m3⟩, q1, q2, q3⟩ := hN
  have Q1 : Hid (RowC w2 (w.heap.size + 2) (.slice a1 t.info.length c1) t.info) := ⟨a1, c1, rfl, hM1, fun x off e => by have := q1 x off e; omega⟩
  have Q2 : Hid (RowC w2 (w.heap.size + 2) (.slice a2 t.data.length c2) t.data) := ⟨a2, c2, rfl, hD1, fun x off e => by have := q2 x off e; omega⟩
  have Q3 : Hid (RowN w2 (w.heap.size + 2) (.slice a3 t.rev.length c3) t.rev) := ⟨a3, c3, rfl, hR1, fun x off e => by have := q3 x off e; omega⟩
  clear hM1 hD1 hR1 m1 m2 m3 q1 q2 q3 ho HTo HO
  have hs2 : w.heap.size + 1 < w2.heap.size := by have := hb2.size; omega
  have hs2' : w.heap.size < w2.heap.size := by omega
  have K1' := hide (boxKeep hb2 hs1' K1.out)
  have K2' := hide (boxKeep hb2 hs1 K2.out)
  have HB2 := hide (bthen HB1.out hb2)
  clear x0 x1 x2 x3 x4 x5 x6 x7 x8 x9 y0 y1 y2 y3 y4 y5 y6 y7 y8 y9 ff hb2 K1 K2 HB1
  obtain ⟨⟨x0, x1, x2, x3, x4, x5, x6, x7, x8, x9⟩, _⟩ := box10 K1'.out
  obtain ⟨⟨y0, y1, y2, y3, y4, y5, y6, y7, y8, y9⟩, ff⟩ := box10 K2'.out
  go_wp2_with fail
  refine (among_any r d t.rev b _ (HR.out.below (bthen HB2.out (below1 _ _))) N3.out).mono ?_
  rintro e w' ⟨rfl, rfl⟩
  obtain ⟨w3, hw3⟩ : ∃ w3, w3 = w2.alloc (Obj.cells #[.int .i64 t.seq, .slice a1 t.info.length c1, .slice a2 t.data.length c2, .slice a3 t.rev.length c3, .bool t.h0.on, .int .i64 t.h0.left, .bool t.h1.on, .int .i64 t.h1.left, .bool t.h2.on, .int .i64 t.h2.left] 28) := ⟨_, rfl⟩
  have BX3 : Hid (w3.heap[w2.heap.size]? = some (Obj.cells #[.int .i64 t.seq, .slice a1 t.info.length c1, .slice a2 t.data.length c2, .slice a3 t.rev.length c3, .bool t.h0.on, .int .i64 t.h0.left, .bool t.h1.on, .int .i64 t.h1.left, .bool t.h2.on, .int .i64 t.h2.left] 28 (0, 0))) := by rw [Hid, hw3]; exact heap_alloc_new w2 _
  have HW3 : Hid (Below w2.heap.size w2 w3) := by rw [Hid, hw3]; exact below1 _ _
  rw [← hw3]
  clear hw3
  clear x0 x1 x2 x3 x4 x5 x6 x7 x8 x9 y0 y1 y2 y3 y4 y5 y6 y7 y8 y9 ff
  have KA3 := hide (boxKeep HW3.out hs2' K1'.out)
  have KB3 := hide (boxKeep HW3.out hs2 K2'.out)
  have HB3 := hide (bthen HB2.out HW3.out)
  have hs3 : w2.heap.size < w3.heap.size := (Array.getElem?_eq_some_iff.1 BX3.out).1
  obtain ⟨⟨x0, x1, x2, x3, x4, x5, x6, x7, x8, x9⟩, _⟩ := box10 KA3.out
  obtain ⟨⟨y0, y1, y2, y3, y4, y5, y6, y7, y8, y9⟩, ff⟩ := box10 KB3.out
  obtain ⟨⟨z0, z1, z2, z3, z4, z5, z6, z7, z8, z9⟩, gf⟩ := box10 BX3.out

  go_wp2
  refine bodyPost_ret (v := .tuple #[.agg #[.int .i64 t.seq, .slice a t.info.length c, .slice a' t.data.length c', .slice r t.rev.length d, .bool t.h0.on, .int .i64 t.h0.left, .bool t.h1.on, .int .i64 t.h1.left, .bool t.h2.on, .int .i64 t.h2.left], .int .i64 5]) (by simp [results, Tryz.results9, go_sem, y0, y1, y2, y3, y4, y5, y6, y7, y8, y9]) rfl ⟨_, by rw [HE.out], ?_⟩
  refine ⟨?_, ?_, .inl rfl⟩
  · rw [HTT.out]
    refine HT.out.below ?_
    repeat refine Below.setCell ?_ (by simp) _
    exact HB3.out
  · repeat refine Below.setCell ?_ (by simp) _
    exact HB3.out

set_option maxHeartbeats 2000000 in
set_option maxRecDepth 100000 in
theorem alter2_credit2 (v : Value) (t : Tx) (b : Int) (s : ByteArray) (w : World) (hT : IsTx w v t) (r1 : t.info.length * 24 ≤ 140737488355328) (r2 : t.data.length * 24 ≤ 140737488355328) (hr : reachE t 2 b = 0) (ha : amongB t.rev b = false) (hi : (textIn b t.info).isSome = false) (hl : t.h2.left = 0) :
    Calls Tryz.prog 9 #[.int .i64 2, v, .int .i64 2, .int .i64 b, .string s] w fun e w' => ∃ v2, e = .returned (.tuple #[v2, .int .i64 (revokeE t 2 b)]) ∧ IsTx w' v2 (revokeT t 2 b) ∧ Below w.heap.size w w' ∧ (v2 = v ∨ RowsFrom w.heap.size v2 (revokeT t 2 b)) := by
  have HRZ := hide hr
  have HE : Hid (revokeE t 2 b = 7) := by rw [Hid, revokeE, if_neg (by rw [HRZ.out]; simp), if_neg (by rw [ha]; simp), nameE, if_neg (by rw [namedB, hi, ha]; simp), if_pos (show (hdAt t 2).left = 0 from hl)]
  clear HRZ
  have HTT : Hid (revokeT t 2 b = t) := by rw [Hid, revokeT, if_neg (by rw [HE.out]; decide)]
  have HL := hide hl
  clear hl
  have hrk := reach_ok hr
  have hg := hrk.1
  have HO : Hid (t.h2.on = true) := hrk.2.2.1
  have hb0 := hrk.2.2.2.1
  have hb1' := hrk.2.2.2.2
  have hb : withinB b 0 11 = true := withinB_iff.2 ⟨hb0, hb1'⟩
  have hsm := good_small hg
  have hgi := ((goodX_iff t).1 hg).2.2.1
  have RI := hide hgi.1
  have RD := hide hgi.2.1
  have RR := hide hgi.2.2
  clear hrk hgi hr
  have HT := hide hT
  obtain ⟨a, c, a', c', r, d, rfl, hM, hD, hR, n1, n2, n3⟩ := hT
  have HM := hide hM
  have HD := hide hD
  have HR := hide hR
  have N1 := hide n1
  have N2 := hide n2
  have N3 := hide n3
  clear hM hD hR n1 n2 n3
  go_enter Tryz.func9, Tryz.ntmps9
  go_wp2_with fail
  refine (goodTxn_any _ t _ (HT.out.below (bthen (below1 _ _) (below1 _ _))) r1 r2).mono ?_
  rintro e w1 ⟨rfl, hb1⟩
  have hs1 : w.heap.size + 1 < w1.heap.size := by have := hb1.size; simp at this; omega
  have hs1' : w.heap.size < w1.heap.size := by omega
  have K1 := hide (two1 hb1)
  have K2 := hide (two2 hb1)
  obtain ⟨⟨x0, x1, x2, x3, x4, x5, x6, x7, x8, x9⟩, _⟩ := box10 K1.out
  obtain ⟨⟨y0, y1, y2, y3, y4, y5, y6, y7, y8, y9⟩, ff⟩ := box10 K2.out
  have HB1 := hide (bthen (bthen (below1 _ _) (below1 _ _)) hb1)
  clear hb1
  have ho := HO.out
  have HTo : Hid (IsTx w (.agg #[.int .i64 t.seq, .slice a t.info.length c, .slice a' t.data.length c', .slice r t.rev.length d, .bool t.h0.on, .int .i64 t.h0.left, .bool t.h1.on, .int .i64 t.h1.left, .bool true, .int .i64 t.h2.left]) t) := by have := HT.out; rw [ho] at this; exact this
  go_wp2_with (go_at_call 45; refine (isBlock_any _ _).mono ?_; rintro e w' ⟨rfl, rfl⟩)
  refine (copyTxn_any _ t _ (HTo.out.below HB1.out) r1 r2 (by omega)).mono ?_
  rintro e w2 ⟨v2, rfl, hN, hb2⟩
  obtain ⟨a1, c1, a2, c2, a3, c3, rfl, ⟨hM1, hD1, hR1, m1, m2, m3⟩, q1, q2, q3⟩ := hN
  have Q1 : Hid (RowC w2 (w.heap.size + 2) (.slice a1 t.info.length c1) t.info) := ⟨a1, c1, rfl, hM1, fun x off e => by have := q1 x off e; omega⟩
  have Q2 : Hid (RowC w2 (w.heap.size + 2) (.slice a2 t.data.length c2) t.data) := ⟨a2, c2, rfl, hD1, fun x off e => by have := q2 x off e; omega⟩
  have Q3 : Hid (RowN w2 (w.heap.size + 2) (.slice a3 t.rev.length c3) t.rev) := ⟨a3, c3, rfl, hR1, fun x off e => by have := q3 x off e; omega⟩
  clear hM1 hD1 hR1 m1 m2 m3 q1 q2 q3 ho HTo HO
  have hs2 : w.heap.size + 1 < w2.heap.size := by have := hb2.size; omega
  have hs2' : w.heap.size < w2.heap.size := by omega
  have K1' := hide (boxKeep hb2 hs1' K1.out)
  have K2' := hide (boxKeep hb2 hs1 K2.out)
  have HB2 := hide (bthen HB1.out hb2)
  clear x0 x1 x2 x3 x4 x5 x6 x7 x8 x9 y0 y1 y2 y3 y4 y5 y6 y7 y8 y9 ff hb2 K1 K2 HB1
  obtain ⟨⟨x0, x1, x2, x3, x4, x5, x6, x7, x8, x9⟩, _⟩ := box10 K1'.out
  obtain ⟨⟨y0, y1, y2, y3, y4, y5, y6, y7, y8, y9⟩, ff⟩ := box10 K2'.out
  go_wp2_with fail
  refine (among_any r d t.rev b _ (HR.out.below (bthen HB2.out (below1 _ _))) N3.out).mono ?_
  rintro e w' ⟨rfl, rfl⟩
  obtain ⟨w3, hw3⟩ : ∃ w3, w3 = w2.alloc (Obj.cells #[.int .i64 t.seq, .slice a1 t.info.length c1, .slice a2 t.data.length c2, .slice a3 t.rev.length c3, .bool t.h0.on, .int .i64 t.h0.left, .bool t.h1.on, .int .i64 t.h1.left, .bool t.h2.on, .int .i64 t.h2.left] 28) := ⟨_, rfl⟩
  have BX3 : Hid (w3.heap[w2.heap.size]? = some (Obj.cells #[.int .i64 t.seq, .slice a1 t.info.length c1, .slice a2 t.data.length c2, .slice a3 t.rev.length c3, .bool t.h0.on, .int .i64 t.h0.left, .bool t.h1.on, .int .i64 t.h1.left, .bool t.h2.on, .int .i64 t.h2.left] 28 (0, 0))) := by rw [Hid, hw3]; exact heap_alloc_new w2 _
  have HW3 : Hid (Below w2.heap.size w2 w3) := by rw [Hid, hw3]; exact below1 _ _
  rw [← hw3]
  clear hw3
  clear x0 x1 x2 x3 x4 x5 x6 x7 x8 x9 y0 y1 y2 y3 y4 y5 y6 y7 y8 y9 ff
  have KA3 := hide (boxKeep HW3.out hs2' K1'.out)
  have KB3 := hide (boxKeep HW3.out hs2 K2'.out)
  have HB3 := hide (bthen HB2.out HW3.out)
  have hs3 : w2.heap.size < w3.heap.size := (Array.getElem?_eq_some_iff.1 BX3.out).1
  obtain ⟨⟨x0, x1, x2, x3, x4, x5, x6, x7, x8, x9⟩, _⟩ := box10 KA3.out
  obtain ⟨⟨y0, y1, y2, y3, y4, y5, y6, y7, y8, y9⟩, ff⟩ := box10 KB3.out
  obtain ⟨⟨z0, z1, z2, z3, z4, z5, z6, z7, z8, z9⟩, gf⟩ := box10 BX3.out

  go_wp2_with fail
  refine (in_any a c t.info b _ (HM.out.below HB3.out) N1.out).mono ?_
  rintro e w5 ⟨rfl, hb5⟩
  have BX5 := hide (boxKeep hb5 hs3 BX3.out)
  have HW5 := hide (bthen HW3.out hb5)
  clear hb5 BX3 HW3 KA3 KB3 HB3
  clear x0 x1 x2 x3 x4 x5 x6 x7 x8 x9 y0 y1 y2 y3 y4 y5 y6 y7 y8 y9 ff z0 z1 z2 z3 z4 z5 z6 z7 z8 z9 gf
  have KA5 := hide (boxKeep HW5.out hs2' K1'.out)
  have KB5 := hide (boxKeep HW5.out hs2 K2'.out)
  have HB5 := hide (bthen HB2.out HW5.out)
  have hs5 : w2.heap.size < w5.heap.size := (Array.getElem?_eq_some_iff.1 BX5.out).1
  obtain ⟨⟨x0, x1, x2, x3, x4, x5, x6, x7, x8, x9⟩, _⟩ := box10 KA5.out
  obtain ⟨⟨y0, y1, y2, y3, y4, y5, y6, y7, y8, y9⟩, ff⟩ := box10 KB5.out
  obtain ⟨⟨z0, z1, z2, z3, z4, z5, z6, z7, z8, z9⟩, gf⟩ := box10 BX5.out
  go_wp2_with fail
  refine (among_any r d t.rev b _ (HR.out.below HB5.out) N3.out).mono ?_
  rintro e w' ⟨rfl, rfl⟩
  have hl := HL.out
  go_wp2
  refine bodyPost_ret (v := .tuple #[.agg #[.int .i64 t.seq, .slice a t.info.length c, .slice a' t.data.length c', .slice r t.rev.length d, .bool t.h0.on, .int .i64 t.h0.left, .bool t.h1.on, .int .i64 t.h1.left, .bool t.h2.on, .int .i64 t.h2.left], .int .i64 7]) (by simp [results, Tryz.results9, go_sem, y0, y1, y2, y3, y4, y5, y6, y7, y8, y9, hl]) rfl ⟨_, by rw [HE.out], ?_⟩
  refine ⟨?_, ?_, .inl rfl⟩
  · rw [HTT.out]
    refine HT.out.below ?_
    repeat refine Below.setCell ?_ (by simp) _
    exact HB5.out
  · repeat refine Below.setCell ?_ (by simp) _
    exact HB5.out

set_option maxHeartbeats 2000000 in
set_option maxRecDepth 100000 in
theorem alter2_had2 (v : Value) (t : Tx) (b : Int) (s : ByteArray) (w : World) (hT : IsTx w v t) (r1 : t.info.length * 24 ≤ 140737488355328) (r2 : t.data.length * 24 ≤ 140737488355328) (hr : reachE t 2 b = 0) (ha : amongB t.rev b = false) (hi : (textIn b t.info).isSome = true) :
    Calls Tryz.prog 9 #[.int .i64 2, v, .int .i64 2, .int .i64 b, .string s] w fun e w' => ∃ v2, e = .returned (.tuple #[v2, .int .i64 (revokeE t 2 b)]) ∧ IsTx w' v2 (revokeT t 2 b) ∧ Below w.heap.size w w' ∧ (v2 = v ∨ RowsFrom w.heap.size v2 (revokeT t 2 b)) := by
  have HRZ := hide hr
  have HE : Hid (revokeE t 2 b = 0) := by rw [Hid, revokeE, if_neg (by rw [HRZ.out]; simp), if_neg (by rw [ha]; simp), nameE, if_pos (by rw [namedB, hi]; rfl)]
  clear HRZ
  have HTT : Hid (revokeT t 2 b = { t with info := dropAt (·.1) t.info b, data := dropAt (·.1) t.data b, rev := putAt id t.rev b b }) := by rw [Hid, revokeT, if_pos HE.out, revokeY, nameT, if_pos (by rw [namedB, hi]; rfl)]
  have hrk := reach_ok hr
  have hg := hrk.1
  have HO : Hid (t.h2.on = true) := hrk.2.2.1
  have hb0 := hrk.2.2.2.1
  have hb1' := hrk.2.2.2.2
  have hb : withinB b 0 11 = true := withinB_iff.2 ⟨hb0, hb1'⟩
  have hsm := good_small hg
  have hgi := ((goodX_iff t).1 hg).2.2.1
  have RI := hide hgi.1
  have RD := hide hgi.2.1
  have RR := hide hgi.2.2
  clear hrk hgi hr
  have HT := hide hT
  obtain ⟨a, c, a', c', r, d, rfl, hM, hD, hR, n1, n2, n3⟩ := hT
  have HM := hide hM
  have HD := hide hD
  have HR := hide hR
  have N1 := hide n1
  have N2 := hide n2
  have N3 := hide n3
  clear hM hD hR n1 n2 n3
  go_enter Tryz.func9, Tryz.ntmps9
  go_wp2_with fail
  refine (goodTxn_any _ t _ (HT.out.below (bthen (below1 _ _) (below1 _ _))) r1 r2).mono ?_
  rintro e w1 ⟨rfl, hb1⟩
  have hs1 : w.heap.size + 1 < w1.heap.size := by have := hb1.size; simp at this; omega
  have hs1' : w.heap.size < w1.heap.size := by omega
  have K1 := hide (two1 hb1)
  have K2 := hide (two2 hb1)
  obtain ⟨⟨x0, x1, x2, x3, x4, x5, x6, x7, x8, x9⟩, _⟩ := box10 K1.out
  obtain ⟨⟨y0, y1, y2, y3, y4, y5, y6, y7, y8, y9⟩, ff⟩ := box10 K2.out
  have HB1 := hide (bthen (bthen (below1 _ _) (below1 _ _)) hb1)
  clear hb1
  have ho := HO.out
  have HTo : Hid (IsTx w (.agg #[.int .i64 t.seq, .slice a t.info.length c, .slice a' t.data.length c', .slice r t.rev.length d, .bool t.h0.on, .int .i64 t.h0.left, .bool t.h1.on, .int .i64 t.h1.left, .bool true, .int .i64 t.h2.left]) t) := by have := HT.out; rw [ho] at this; exact this
  go_wp2_with (go_at_call 45; refine (isBlock_any _ _).mono ?_; rintro e w' ⟨rfl, rfl⟩)
  refine (copyTxn_any _ t _ (HTo.out.below HB1.out) r1 r2 (by omega)).mono ?_
  rintro e w2 ⟨v2, rfl, hN, hb2⟩
  obtain ⟨a1, c1, a2, c2, a3, c3, rfl, ⟨hM1, hD1, hR1, m1, m2, m3⟩, q1, q2, q3⟩ := hN
  have Q1 : Hid (RowC w2 (w.heap.size + 2) (.slice a1 t.info.length c1) t.info) := ⟨a1, c1, rfl, hM1, fun x off e => by have := q1 x off e; omega⟩
  have Q2 : Hid (RowC w2 (w.heap.size + 2) (.slice a2 t.data.length c2) t.data) := ⟨a2, c2, rfl, hD1, fun x off e => by have := q2 x off e; omega⟩
  have Q3 : Hid (RowN w2 (w.heap.size + 2) (.slice a3 t.rev.length c3) t.rev) := ⟨a3, c3, rfl, hR1, fun x off e => by have := q3 x off e; omega⟩
  clear hM1 hD1 hR1 m1 m2 m3 q1 q2 q3 ho HTo HO
  have hs2 : w.heap.size + 1 < w2.heap.size := by have := hb2.size; omega
  have hs2' : w.heap.size < w2.heap.size := by omega
  have K1' := hide (boxKeep hb2 hs1' K1.out)
  have K2' := hide (boxKeep hb2 hs1 K2.out)
  have HB2 := hide (bthen HB1.out hb2)
  clear x0 x1 x2 x3 x4 x5 x6 x7 x8 x9 y0 y1 y2 y3 y4 y5 y6 y7 y8 y9 ff hb2 K1 K2 HB1
  obtain ⟨⟨x0, x1, x2, x3, x4, x5, x6, x7, x8, x9⟩, _⟩ := box10 K1'.out
  obtain ⟨⟨y0, y1, y2, y3, y4, y5, y6, y7, y8, y9⟩, ff⟩ := box10 K2'.out
  go_wp2_with fail
  refine (among_any r d t.rev b _ (HR.out.below (bthen HB2.out (below1 _ _))) N3.out).mono ?_
  rintro e w' ⟨rfl, rfl⟩
  obtain ⟨w3, hw3⟩ : ∃ w3, w3 = w2.alloc (Obj.cells #[.int .i64 t.seq, .slice a1 t.info.length c1, .slice a2 t.data.length c2, .slice a3 t.rev.length c3, .bool t.h0.on, .int .i64 t.h0.left, .bool t.h1.on, .int .i64 t.h1.left, .bool t.h2.on, .int .i64 t.h2.left] 28) := ⟨_, rfl⟩
  have BX3 : Hid (w3.heap[w2.heap.size]? = some (Obj.cells #[.int .i64 t.seq, .slice a1 t.info.length c1, .slice a2 t.data.length c2, .slice a3 t.rev.length c3, .bool t.h0.on, .int .i64 t.h0.left, .bool t.h1.on, .int .i64 t.h1.left, .bool t.h2.on, .int .i64 t.h2.left] 28 (0, 0))) := by rw [Hid, hw3]; exact heap_alloc_new w2 _
  have HW3 : Hid (Below w2.heap.size w2 w3) := by rw [Hid, hw3]; exact below1 _ _
  rw [← hw3]
  clear hw3
  clear x0 x1 x2 x3 x4 x5 x6 x7 x8 x9 y0 y1 y2 y3 y4 y5 y6 y7 y8 y9 ff
  have KA3 := hide (boxKeep HW3.out hs2' K1'.out)
  have KB3 := hide (boxKeep HW3.out hs2 K2'.out)
  have HB3 := hide (bthen HB2.out HW3.out)
  have hs3 : w2.heap.size < w3.heap.size := (Array.getElem?_eq_some_iff.1 BX3.out).1
  obtain ⟨⟨x0, x1, x2, x3, x4, x5, x6, x7, x8, x9⟩, _⟩ := box10 KA3.out
  obtain ⟨⟨y0, y1, y2, y3, y4, y5, y6, y7, y8, y9⟩, ff⟩ := box10 KB3.out
  obtain ⟨⟨z0, z1, z2, z3, z4, z5, z6, z7, z8, z9⟩, gf⟩ := box10 BX3.out

  go_wp2_with fail
  refine (in_any a c t.info b _ (HM.out.below HB3.out) N1.out).mono ?_
  rintro e w5 ⟨rfl, hb5⟩
  have BX5 := hide (boxKeep hb5 hs3 BX3.out)
  have HW5 := hide (bthen HW3.out hb5)
  clear hb5 BX3 HW3 KA3 KB3 HB3
  clear x0 x1 x2 x3 x4 x5 x6 x7 x8 x9 y0 y1 y2 y3 y4 y5 y6 y7 y8 y9 ff z0 z1 z2 z3 z4 z5 z6 z7 z8 z9 gf
  have KA5 := hide (boxKeep HW5.out hs2' K1'.out)
  have KB5 := hide (boxKeep HW5.out hs2 K2'.out)
  have HB5 := hide (bthen HB2.out HW5.out)
  have hs5 : w2.heap.size < w5.heap.size := (Array.getElem?_eq_some_iff.1 BX5.out).1
  obtain ⟨⟨x0, x1, x2, x3, x4, x5, x6, x7, x8, x9⟩, _⟩ := box10 KA5.out
  obtain ⟨⟨y0, y1, y2, y3, y4, y5, y6, y7, y8, y9⟩, ff⟩ := box10 KB5.out
  obtain ⟨⟨z0, z1, z2, z3, z4, z5, z6, z7, z8, z9⟩, gf⟩ := box10 BX5.out
  go_wp2
  go_loopw [115] (fun i wr => ∃ j : Nat, j ≤ 12 ∧ i = .int .i64 j ∧ ∃ vr : Value, Hid (wr.heap[w2.heap.size]? = some (Obj.cells #[.int .i64 t.seq, .slice a1 t.info.length c1, .slice a2 t.data.length c2, vr, .bool t.h0.on, .int .i64 t.h0.left, .bool t.h1.on, .int .i64 t.h1.left, .bool t.h2.on, .int .i64 t.h2.left] 28 (0, 0))) ∧ Hid (wr.ownsRow (w2.heap.size + 1) 3 1 vr ((List.range j).flatMap (docR t.rev b true)).length (cellsI ((List.range j).flatMap (docR t.rev b true)))) ∧ Hid (Below w2.heap.size w2 wr)) (fun i _ => 12 - (intOf i).toNat)
  case atStart => exact ⟨0, Nat.zero_le _, rfl, .slice none 0 0, heap_setCell_same w5 w2.heap.size 3 _ _ (.slice none 0 0) BX5.out, World.ownsRow_nil _ _ _ _, (HW5.out.setCell (Nat.le_refl _) _)⟩
  case round =>
    clear x0 x1 x2 x3 x4 x5 x6 x7 x8 x9 y0 y1 y2 y3 y4 y5 y6 y7 y8 y9 ff z0 z1 z2 z3 z4 z5 z6 z7 z8 z9 gf KA5 KB5 HB5 BX5 HW5 hs5
    obtain ⟨j, hj, rfl, vr, BX8, hown, HW8⟩ := hrel
    obtain ⟨w8, rfl⟩ : ∃ w8, w8 = wr := ⟨_, rfl⟩
    have KA8 := hide (boxKeep HW8.out hs2' K1'.out)
    have KB8 := hide (boxKeep HW8.out hs2 K2'.out)
    have HB8 := hide (bthen HB2.out HW8.out)
    have hs8 : w2.heap.size < w8.heap.size := (Array.getElem?_eq_some_iff.1 BX8.out).1
    obtain ⟨⟨x0, x1, x2, x3, x4, x5, x6, x7, x8, x9⟩, _⟩ := box10 KA8.out
    obtain ⟨⟨y0, y1, y2, y3, y4, y5, y6, y7, y8, y9⟩, ff⟩ := box10 KB8.out
    obtain ⟨⟨z0, z1, z2, z3, z4, z5, z6, z7, z8, z9⟩, gf⟩ := box10 BX8.out
    by_cases hlt : j < 12
    · have hlt' : (j : Int) < 12 := by omega
      have hq := flat_le (docR t.rev b true) (docR_le t.rev b true) j
      have HF := hide (flat_succ (docR t.rev b true) j)
      generalize (List.range j).flatMap (docR t.rev b true) = q at *
      by_cases he : (j : Int) = b
      · have he' : ((j : Int) == b) = true := by simpa using he
        have HF2 : Hid ((List.range (j + 1)).flatMap (docR t.rev b true) = q ++ [b]) := by rw [Hid, HF.out, docR, if_pos (.inl ⟨he, rfl⟩), he]
        clear HF
        go_wp2_with (at_builtin; refine wpList_appI _ _ (w2.heap.size + 1) rfl _ _ rfl _ q.length (cellsI q) rfl (owns_keep hown.out (below1 _ _)) (some ⟨w8.heap.size, 0, none⟩) 1 [b] rfl (.inr ⟨w8.heap.size, 0, rfl, by simp, fun i hi => ?_⟩) (by simp; omega) (by have := hs8; simp; omega) (Below.refl _ _) ?_)
        · have : i = 0 := by simpa using hi
          subst this
          simp [go_sem]
        · intro v' w9 hown' hB'
          have BX9 := hide ((hB'.out.block w2.heap.size (Nat.lt_succ_self _)).trans ((Below.heap_alloc _ _ _ hs8).trans BX8.out))
          have HW9 := hide ((bthen HW8.out (below1 _ _)).trans (hB'.out.mono (Nat.le_succ _)))
          have HN9 : Hid (w9.ownsRow (w2.heap.size + 1) 3 1 v' (q ++ [b]).length (cellsI (q ++ [b]))) := by rw [Hid, List.length_append, cellsI_append]; exact hown'.out
          obtain ⟨q2, hq2⟩ : ∃ q2, q2 = q ++ [b] := ⟨_, rfl⟩
          rw [← hq2] at HN9 HF2
          clear hown' hB' hq2
          obtain ⟨p9, r9, rfl, _, _⟩ := SegI.of_owns HN9.out
          clear hown BX8 HW8 KA8 KB8 HB8
          clear x0 x1 x2 x3 x4 x5 x6 x7 x8 x9 y0 y1 y2 y3 y4 y5 y6 y7 y8 y9 ff z0 z1 z2 z3 z4 z5 z6 z7 z8 z9 gf
          have KA9 := hide (boxKeep HW9.out hs2' K1'.out)
          have KB9 := hide (boxKeep HW9.out hs2 K2'.out)
          have HB9 := hide (bthen HB2.out HW9.out)
          have hs9 : w2.heap.size < w9.heap.size := (Array.getElem?_eq_some_iff.1 BX9.out).1
          obtain ⟨⟨x0, x1, x2, x3, x4, x5, x6, x7, x8, x9⟩, _⟩ := box10 KA9.out
          obtain ⟨⟨y0, y1, y2, y3, y4, y5, y6, y7, y8, y9⟩, ff⟩ := box10 KB9.out
          obtain ⟨⟨z0, z1, z2, z3, z4, z5, z6, z7, z8, z9⟩, gf⟩ := box10 BX9.out
          go_wp2
          go_roundw
          case rel => exact ⟨j + 1, by omega, by go_num, _, heap_setCell_same w9 w2.heap.size 3 _ _ _ BX9.out, by rw [HF2.out]; exact ownsRow_setCell_below HN9.out (by simp) _, HW9.out.setCell (Nat.le_refl _) _⟩
          case measure => simp [intOf]; omega
      · have he' : ((j : Int) == b) = false := by simpa using he
        go_wp2_with fail
        refine (among_any r d t.rev (j : Int) _ (HR.out.below HB8.out) N3.out).mono ?_
        rintro e w' ⟨rfl, rfl⟩
        cases hm : amongB t.rev (j : Int) with
        | false =>
          have HF2 : Hid ((List.range (j + 1)).flatMap (docR t.rev b true) = q) := by rw [Hid, HF.out, docR, if_neg (by simp [he, hm])]; simp
          clear HF
          go_wp2
          go_roundw
          case rel => exact ⟨j + 1, by omega, by go_num, vr, BX8, by rw [HF2.out]; exact hown, HW8⟩
          case measure => simp [intOf]; omega
        | true =>
          have HF2 : Hid ((List.range (j + 1)).flatMap (docR t.rev b true) = q ++ [(j : Int)]) := by rw [Hid, HF.out, docR, if_pos (.inr ⟨he, hm⟩)]
          clear HF
          go_wp2_with (at_builtin; refine wpList_appI _ _ (w2.heap.size + 1) rfl _ _ rfl _ q.length (cellsI q) rfl (owns_keep hown.out (below1 _ _)) (some ⟨w8.heap.size, 0, none⟩) 1 [(j : Int)] rfl (.inr ⟨w8.heap.size, 0, rfl, by simp, fun i hi => ?_⟩) (by simp; omega) (by have := hs8; simp; omega) (Below.refl _ _) ?_)
          · have : i = 0 := by simpa using hi
            subst this
            simp [go_sem]
          · intro v' w9 hown' hB'
            have BX9 := hide ((hB'.out.block w2.heap.size (Nat.lt_succ_self _)).trans ((Below.heap_alloc _ _ _ hs8).trans BX8.out))
            have HW9 := hide ((bthen HW8.out (below1 _ _)).trans (hB'.out.mono (Nat.le_succ _)))
            have HN9 : Hid (w9.ownsRow (w2.heap.size + 1) 3 1 v' (q ++ [(j : Int)]).length (cellsI (q ++ [(j : Int)]))) := by rw [Hid, List.length_append, cellsI_append]; exact hown'.out
            obtain ⟨q2, hq2⟩ : ∃ q2, q2 = q ++ [(j : Int)] := ⟨_, rfl⟩
            rw [← hq2] at HN9 HF2
            clear hown' hB' hq2
            obtain ⟨p9, r9, rfl, _, _⟩ := SegI.of_owns HN9.out
            clear hown BX8 HW8 KA8 KB8 HB8
            clear x0 x1 x2 x3 x4 x5 x6 x7 x8 x9 y0 y1 y2 y3 y4 y5 y6 y7 y8 y9 ff z0 z1 z2 z3 z4 z5 z6 z7 z8 z9 gf
            have KA9 := hide (boxKeep HW9.out hs2' K1'.out)
            have KB9 := hide (boxKeep HW9.out hs2 K2'.out)
            have HB9 := hide (bthen HB2.out HW9.out)
            have hs9 : w2.heap.size < w9.heap.size := (Array.getElem?_eq_some_iff.1 BX9.out).1
            obtain ⟨⟨x0, x1, x2, x3, x4, x5, x6, x7, x8, x9⟩, _⟩ := box10 KA9.out
            obtain ⟨⟨y0, y1, y2, y3, y4, y5, y6, y7, y8, y9⟩, ff⟩ := box10 KB9.out
            obtain ⟨⟨z0, z1, z2, z3, z4, z5, z6, z7, z8, z9⟩, gf⟩ := box10 BX9.out
            go_wp2
            go_roundw
            case rel => exact ⟨j + 1, by omega, by go_num, _, heap_setCell_same w9 w2.heap.size 3 _ _ _ BX9.out, by rw [HF2.out]; exact ownsRow_setCell_below HN9.out (by simp) _, HW9.out.setCell (Nat.le_refl _) _⟩
            case measure => simp [intOf]; omega
    · have e : j = 12 := by omega
      subst e
      rw [docR_put RR.out hb0 hb1'] at hown
      obtain ⟨p3, r3, rfl, _, _⟩ := SegI.of_owns hown.out
      have HV8 : Hid (RowN w8 (w2.heap.size + 1) (.slice p3 (putAt id t.rev b b).length r3) (putAt id t.rev b b)) := RowN.owned hown.out (Nat.le_refl _)
      clear hown
      go_wp2
      go_region_with (first
        | (go_at_call_of 49 (t.info); refine (rest_any a c t.info b _ (HM.out.below (bthen HB2.out (by first | exact HW8.out.drew | exact HW12.out | exact HW12.out.setCell (Nat.le_refl _) _))) (by omega)).mono ?_; rintro e w11 ⟨v11, rfl, ho11, hb11⟩; rw [rest_eq RI.out b] at ho11; obtain ⟨p11, q11, rfl, _, _⟩ := SegC.of_owns ho11; (first
          | (have hcur : Below w8.heap.size w8 w11 := ((Below.refl _ _).drew).trans hb11; have HW11 := hide (bthen HW8.out hcur); have BX11 : Hid (w11.heap[w2.heap.size]? = some (Obj.cells #[.int .i64 t.seq, .slice a1 t.info.length c1, .slice a2 t.data.length c2, .slice p3 (putAt id t.rev b b).length r3, .bool t.h0.on, .int .i64 t.h0.left, .bool t.h1.on, .int .i64 t.h1.left, .bool t.h2.on, .int .i64 t.h2.left] 28 (0, 0))) := boxKeep hcur hs8 BX8.out; have HV11 := hide (HV8.out.below hcur); have HR11 : Hid (RowC w11 (w2.heap.size + 1) (.slice p11 (dropAt (·.1) t.info b).length q11) (dropAt (·.1) t.info b)) := RowC.owned ho11 hs8)
          | (have hcur : Below w12.heap.size w12 w11 := hb11; have HW11 := hide (bthen HW12.out hcur); have BX11 : Hid (w11.heap[w2.heap.size]? = some (Obj.cells #[.int .i64 t.seq, .slice a1 t.info.length c1, .slice a2 t.data.length c2, .slice p3 (putAt id t.rev b b).length r3, .bool t.h0.on, .int .i64 t.h0.left, .bool t.h1.on, .int .i64 t.h1.left, .bool t.h2.on, .int .i64 t.h2.left] 28 (0, 0))) := boxKeep hcur hs12 BX12.out; have HV11 := hide (HV12.out.below hcur); have HS11 := hide (HR12.out.below hcur); have HR11 : Hid (RowC w11 (w2.heap.size + 1) (.slice p11 (dropAt (·.1) t.info b).length q11) (dropAt (·.1) t.info b)) := RowC.owned ho11 hs12)
          | (have hcur : Below (w12.setCell ⟨w2.heap.size, 2, none⟩ (.slice p12 (dropAt (·.1) t.data b).length q12)).heap.size (w12.setCell ⟨w2.heap.size, 2, none⟩ (.slice p12 (dropAt (·.1) t.data b).length q12)) w11 := hb11; have HW11 := hide (bthen (HW12.out.setCell (Nat.le_refl _) _) hcur); have BX11 : Hid (w11.heap[w2.heap.size]? = some (Obj.cells #[.int .i64 t.seq, .slice a1 t.info.length c1, .slice p12 (dropAt (·.1) t.data b).length q12, .slice p3 (putAt id t.rev b b).length r3, .bool t.h0.on, .int .i64 t.h0.left, .bool t.h1.on, .int .i64 t.h1.left, .bool t.h2.on, .int .i64 t.h2.left] 28 (0, 0))) := boxKeep hcur (by simp; exact hs12) (heap_setCell_same w12 w2.heap.size 2 _ _ (.slice p12 (dropAt (·.1) t.data b).length q12) BX12.out); have HV11 := hide ((HV12.out.set (Nat.lt_succ_self _) _).below hcur); have HS11 := hide ((HR12.out.set (Nat.lt_succ_self _) _).below hcur); have HR11 : Hid (RowC w11 (w2.heap.size + 1) (.slice p11 (dropAt (·.1) t.info b).length q11) (dropAt (·.1) t.info b)) := RowC.owned ho11 (by simp; exact hs12))); have hs11 : w2.heap.size < w11.heap.size := (Array.getElem?_eq_some_iff.1 BX11.out).1; obtain ⟨⟨x0, x1, x2, x3, x4, x5, x6, x7, x8, x9⟩, _⟩ := box10 (boxKeep HW11.out hs2' K1'.out); obtain ⟨⟨y0, y1, y2, y3, y4, y5, y6, y7, y8, y9⟩, ff⟩ := box10 (boxKeep HW11.out hs2 K2'.out); obtain ⟨⟨z0, z1, z2, z3, z4, z5, z6, z7, z8, z9⟩, gf⟩ := box10 BX11.out; clear hb11 ho11)
        | (go_at_call_of 49 (t.data); refine (rest_any a' c' t.data b _ (HD.out.below (bthen HB2.out (by first | exact HW8.out.drew | exact HW11.out | exact HW11.out.setCell (Nat.le_refl _) _))) (by omega)).mono ?_; rintro e w12 ⟨v12, rfl, ho12, hb12⟩; rw [rest_eq RD.out b] at ho12; obtain ⟨p12, q12, rfl, _, _⟩ := SegC.of_owns ho12; (first
          | (have hcur : Below w8.heap.size w8 w12 := ((Below.refl _ _).drew).trans hb12; have HW12 := hide (bthen HW8.out hcur); have BX12 : Hid (w12.heap[w2.heap.size]? = some (Obj.cells #[.int .i64 t.seq, .slice a1 t.info.length c1, .slice a2 t.data.length c2, .slice p3 (putAt id t.rev b b).length r3, .bool t.h0.on, .int .i64 t.h0.left, .bool t.h1.on, .int .i64 t.h1.left, .bool t.h2.on, .int .i64 t.h2.left] 28 (0, 0))) := boxKeep hcur hs8 BX8.out; have HV12 := hide (HV8.out.below hcur); have HR12 : Hid (RowC w12 (w2.heap.size + 1) (.slice p12 (dropAt (·.1) t.data b).length q12) (dropAt (·.1) t.data b)) := RowC.owned ho12 hs8)
          | (have hcur : Below w11.heap.size w11 w12 := hb12; have HW12 := hide (bthen HW11.out hcur); have BX12 : Hid (w12.heap[w2.heap.size]? = some (Obj.cells #[.int .i64 t.seq, .slice a1 t.info.length c1, .slice a2 t.data.length c2, .slice p3 (putAt id t.rev b b).length r3, .bool t.h0.on, .int .i64 t.h0.left, .bool t.h1.on, .int .i64 t.h1.left, .bool t.h2.on, .int .i64 t.h2.left] 28 (0, 0))) := boxKeep hcur hs11 BX11.out; have HV12 := hide (HV11.out.below hcur); have HS12 := hide (HR11.out.below hcur); have HR12 : Hid (RowC w12 (w2.heap.size + 1) (.slice p12 (dropAt (·.1) t.data b).length q12) (dropAt (·.1) t.data b)) := RowC.owned ho12 hs11)
          | (have hcur : Below (w11.setCell ⟨w2.heap.size, 1, none⟩ (.slice p11 (dropAt (·.1) t.info b).length q11)).heap.size (w11.setCell ⟨w2.heap.size, 1, none⟩ (.slice p11 (dropAt (·.1) t.info b).length q11)) w12 := hb12; have HW12 := hide (bthen (HW11.out.setCell (Nat.le_refl _) _) hcur); have BX12 : Hid (w12.heap[w2.heap.size]? = some (Obj.cells #[.int .i64 t.seq, .slice p11 (dropAt (·.1) t.info b).length q11, .slice a2 t.data.length c2, .slice p3 (putAt id t.rev b b).length r3, .bool t.h0.on, .int .i64 t.h0.left, .bool t.h1.on, .int .i64 t.h1.left, .bool t.h2.on, .int .i64 t.h2.left] 28 (0, 0))) := boxKeep hcur (by simp; exact hs11) (heap_setCell_same w11 w2.heap.size 1 _ _ (.slice p11 (dropAt (·.1) t.info b).length q11) BX11.out); have HV12 := hide ((HV11.out.set (Nat.lt_succ_self _) _).below hcur); have HS12 := hide ((HR11.out.set (Nat.lt_succ_self _) _).below hcur); have HR12 : Hid (RowC w12 (w2.heap.size + 1) (.slice p12 (dropAt (·.1) t.data b).length q12) (dropAt (·.1) t.data b)) := RowC.owned ho12 (by simp; exact hs11))); have hs12 : w2.heap.size < w12.heap.size := (Array.getElem?_eq_some_iff.1 BX12.out).1; obtain ⟨⟨x0, x1, x2, x3, x4, x5, x6, x7, x8, x9⟩, _⟩ := box10 (boxKeep HW12.out hs2' K1'.out); obtain ⟨⟨y0, y1, y2, y3, y4, y5, y6, y7, y8, y9⟩, ff⟩ := box10 (boxKeep HW12.out hs2 K2'.out); obtain ⟨⟨z0, z1, z2, z3, z4, z5, z6, z7, z8, z9⟩, gf⟩ := box10 BX12.out; clear hb12 ho12))
      all_goals
        go_wp2
        refine bodyPost_ret (v := .tuple #[.agg #[.int .i64 t.seq, .slice p11 (dropAt (·.1) t.info b).length q11, .slice p12 (dropAt (·.1) t.data b).length q12, .slice p3 (putAt id t.rev b b).length r3, .bool t.h0.on, .int .i64 t.h0.left, .bool t.h1.on, .int .i64 t.h1.left, .bool t.h2.on, .int .i64 t.h2.left], .int .i64 0]) (by simp [results, Tryz.results9, go_sem, y0, y1, y2, y3, y4, y5, y6, y7, y8, y9]) rfl ⟨_, by rw [HE.out], ?_⟩
        rw [HTT.out]
        refine ⟨?_, ?_, .inr (by first | exact Rows3.from (T := t) ⟨HR11.out, HS11.out, HV11.out⟩ (by omega) | exact Rows3.from (T := t) ⟨HS12.out, HR12.out, HV12.out⟩ (by omega))⟩
        · refine Rows3.is (lo := w.heap.size + 2) (T := t) ?_ (by have := dropLe (·.1) t.info b; omega) (by have := dropLe (·.1) t.data b; omega) (by have := putLe id t.rev b b; omega)
          iterate 10 (refine Rows3.set ?_ (by simp) _)
          refine Rows3.weak (lo := w2.heap.size + 1) ?_ (by omega)
          first
            | exact Rows3.set (Rows3.set ⟨HR11.out, HS11.out, HV11.out⟩ (Nat.lt_succ_self _) _) (Nat.lt_succ_self _) _
            | exact Rows3.set ⟨HR11.out, HS11.out, HV11.out⟩ (Nat.lt_succ_self _) _
            | exact Rows3.set (Rows3.set ⟨HS12.out, HR12.out, HV12.out⟩ (Nat.lt_succ_self _) _) (Nat.lt_succ_self _) _
            | exact Rows3.set ⟨HS12.out, HR12.out, HV12.out⟩ (Nat.lt_succ_self _) _
        · iterate 10 (refine Below.setCell ?_ (by simp) _)
          first
            | exact ((bthen HB2.out HW11.out).setCell (p := ⟨w2.heap.size, _, none⟩) (Nat.le_of_lt hs2') _).setCell (p := ⟨w2.heap.size, _, none⟩) (Nat.le_of_lt hs2') _
            | exact ((bthen HB2.out HW12.out).setCell (p := ⟨w2.heap.size, _, none⟩) (Nat.le_of_lt hs2') _).setCell (p := ⟨w2.heap.size, _, none⟩) (Nat.le_of_lt hs2') _
            | exact (bthen HB2.out HW11.out).setCell (p := ⟨w2.heap.size, _, none⟩) (Nat.le_of_lt hs2') _
            | exact (bthen HB2.out HW12.out).setCell (p := ⟨w2.heap.size, _, none⟩) (Nat.le_of_lt hs2') _

set_option maxHeartbeats 2000000 in
set_option maxRecDepth 100000 in
theorem alter2_new2 (v : Value) (t : Tx) (b : Int) (s : ByteArray) (w : World) (hT : IsTx w v t) (r1 : t.info.length * 24 ≤ 140737488355328) (r2 : t.data.length * 24 ≤ 140737488355328) (hr : reachE t 2 b = 0) (ha : amongB t.rev b = false) (hi : (textIn b t.info).isSome = false) (hl : ¬ t.h2.left = 0) :
    Calls Tryz.prog 9 #[.int .i64 2, v, .int .i64 2, .int .i64 b, .string s] w fun e w' => ∃ v2, e = .returned (.tuple #[v2, .int .i64 (revokeE t 2 b)]) ∧ IsTx w' v2 (revokeT t 2 b) ∧ Below w.heap.size w w' ∧ (v2 = v ∨ RowsFrom w.heap.size v2 (revokeT t 2 b)) := by
  have HRZ := hide hr
  have HE : Hid (revokeE t 2 b = 0) := by rw [Hid, revokeE, if_neg (by rw [HRZ.out]; simp), if_neg (by rw [ha]; simp), nameE, if_neg (by rw [namedB, hi, ha]; simp), if_neg (show ¬ (hdAt t 2).left = 0 from hl)]
  clear HRZ
  have HTT : Hid (revokeT t 2 b = { t with info := dropAt (·.1) t.info b, data := dropAt (·.1) t.data b, rev := putAt id t.rev b b, h2 := ⟨t.h2.on, t.h2.left - 1⟩ }) := by rw [Hid, revokeT, if_pos HE.out, revokeY, nameT, if_neg (by rw [namedB, hi, ha]; simp)]; rfl
  have hlb : 0 ≤ t.h2.left ∧ t.h2.left ≤ 24 := hd_left (good_hd (reach_ok hr).1 2)
  have hl0 := hlb.1
  have hl1 := hlb.2
  clear hlb
  have hle : (t.h2.left == 0) = false := by simpa using hl
  have hrk := reach_ok hr
  have hg := hrk.1
  have HO : Hid (t.h2.on = true) := hrk.2.2.1
  have hb0 := hrk.2.2.2.1
  have hb1' := hrk.2.2.2.2
  have hb : withinB b 0 11 = true := withinB_iff.2 ⟨hb0, hb1'⟩
  have hsm := good_small hg
  have hgi := ((goodX_iff t).1 hg).2.2.1
  have RI := hide hgi.1
  have RD := hide hgi.2.1
  have RR := hide hgi.2.2
  clear hrk hgi hr
  have HT := hide hT
  obtain ⟨a, c, a', c', r, d, rfl, hM, hD, hR, n1, n2, n3⟩ := hT
  have HM := hide hM
  have HD := hide hD
  have HR := hide hR
  have N1 := hide n1
  have N2 := hide n2
  have N3 := hide n3
  clear hM hD hR n1 n2 n3
  go_enter Tryz.func9, Tryz.ntmps9
  go_wp2_with fail
  refine (goodTxn_any _ t _ (HT.out.below (bthen (below1 _ _) (below1 _ _))) r1 r2).mono ?_
  rintro e w1 ⟨rfl, hb1⟩
  have hs1 : w.heap.size + 1 < w1.heap.size := by have := hb1.size; simp at this; omega
  have hs1' : w.heap.size < w1.heap.size := by omega
  have K1 := hide (two1 hb1)
  have K2 := hide (two2 hb1)
  obtain ⟨⟨x0, x1, x2, x3, x4, x5, x6, x7, x8, x9⟩, _⟩ := box10 K1.out
  obtain ⟨⟨y0, y1, y2, y3, y4, y5, y6, y7, y8, y9⟩, ff⟩ := box10 K2.out
  have HB1 := hide (bthen (bthen (below1 _ _) (below1 _ _)) hb1)
  clear hb1
  have ho := HO.out
  have HTo : Hid (IsTx w (.agg #[.int .i64 t.seq, .slice a t.info.length c, .slice a' t.data.length c', .slice r t.rev.length d, .bool t.h0.on, .int .i64 t.h0.left, .bool t.h1.on, .int .i64 t.h1.left, .bool true, .int .i64 t.h2.left]) t) := by have := HT.out; rw [ho] at this; exact this
  go_wp2_with (go_at_call 45; refine (isBlock_any _ _).mono ?_; rintro e w' ⟨rfl, rfl⟩)
  refine (copyTxn_any _ t _ (HTo.out.below HB1.out) r1 r2 (by omega)).mono ?_
  rintro e w2 ⟨v2, rfl, hN, hb2⟩
  obtain ⟨a1, c1, a2, c2, a3, c3, rfl, ⟨hM1, hD1, hR1, m1, m2, m3⟩, q1, q2, q3⟩ := hN
  have Q1 : Hid (RowC w2 (w.heap.size + 2) (.slice a1 t.info.length c1) t.info) := ⟨a1, c1, rfl, hM1, fun x off e => by have := q1 x off e; omega⟩
  have Q2 : Hid (RowC w2 (w.heap.size + 2) (.slice a2 t.data.length c2) t.data) := ⟨a2, c2, rfl, hD1, fun x off e => by have := q2 x off e; omega⟩
  have Q3 : Hid (RowN w2 (w.heap.size + 2) (.slice a3 t.rev.length c3) t.rev) := ⟨a3, c3, rfl, hR1, fun x off e => by have := q3 x off e; omega⟩
  clear hM1 hD1 hR1 m1 m2 m3 q1 q2 q3 ho HTo HO
  have hs2 : w.heap.size + 1 < w2.heap.size := by have := hb2.size; omega
  have hs2' : w.heap.size < w2.heap.size := by omega
  have K1' := hide (boxKeep hb2 hs1' K1.out)
  have K2' := hide (boxKeep hb2 hs1 K2.out)
  have HB2 := hide (bthen HB1.out hb2)
  clear x0 x1 x2 x3 x4 x5 x6 x7 x8 x9 y0 y1 y2 y3 y4 y5 y6 y7 y8 y9 ff hb2 K1 K2 HB1
  obtain ⟨⟨x0, x1, x2, x3, x4, x5, x6, x7, x8, x9⟩, _⟩ := box10 K1'.out
  obtain ⟨⟨y0, y1, y2, y3, y4, y5, y6, y7, y8, y9⟩, ff⟩ := box10 K2'.out
  go_wp2_with fail
  refine (among_any r d t.rev b _ (HR.out.below (bthen HB2.out (below1 _ _))) N3.out).mono ?_
  rintro e w' ⟨rfl, rfl⟩
  obtain ⟨w3, hw3⟩ : ∃ w3, w3 = w2.alloc (Obj.cells #[.int .i64 t.seq, .slice a1 t.info.length c1, .slice a2 t.data.length c2, .slice a3 t.rev.length c3, .bool t.h0.on, .int .i64 t.h0.left, .bool t.h1.on, .int .i64 t.h1.left, .bool t.h2.on, .int .i64 t.h2.left] 28) := ⟨_, rfl⟩
  have BX3 : Hid (w3.heap[w2.heap.size]? = some (Obj.cells #[.int .i64 t.seq, .slice a1 t.info.length c1, .slice a2 t.data.length c2, .slice a3 t.rev.length c3, .bool t.h0.on, .int .i64 t.h0.left, .bool t.h1.on, .int .i64 t.h1.left, .bool t.h2.on, .int .i64 t.h2.left] 28 (0, 0))) := by rw [Hid, hw3]; exact heap_alloc_new w2 _
  have HW3 : Hid (Below w2.heap.size w2 w3) := by rw [Hid, hw3]; exact below1 _ _
  rw [← hw3]
  clear hw3
  clear x0 x1 x2 x3 x4 x5 x6 x7 x8 x9 y0 y1 y2 y3 y4 y5 y6 y7 y8 y9 ff
  have KA3 := hide (boxKeep HW3.out hs2' K1'.out)
  have KB3 := hide (boxKeep HW3.out hs2 K2'.out)
  have HB3 := hide (bthen HB2.out HW3.out)
  have hs3 : w2.heap.size < w3.heap.size := (Array.getElem?_eq_some_iff.1 BX3.out).1
  obtain ⟨⟨x0, x1, x2, x3, x4, x5, x6, x7, x8, x9⟩, _⟩ := box10 KA3.out
  obtain ⟨⟨y0, y1, y2, y3, y4, y5, y6, y7, y8, y9⟩, ff⟩ := box10 KB3.out
  obtain ⟨⟨z0, z1, z2, z3, z4, z5, z6, z7, z8, z9⟩, gf⟩ := box10 BX3.out

  go_wp2_with fail
  refine (in_any a c t.info b _ (HM.out.below HB3.out) N1.out).mono ?_
  rintro e w5 ⟨rfl, hb5⟩
  have BX5 := hide (boxKeep hb5 hs3 BX3.out)
  have HW5 := hide (bthen HW3.out hb5)
  clear hb5 BX3 HW3 KA3 KB3 HB3
  clear x0 x1 x2 x3 x4 x5 x6 x7 x8 x9 y0 y1 y2 y3 y4 y5 y6 y7 y8 y9 ff z0 z1 z2 z3 z4 z5 z6 z7 z8 z9 gf
  have KA5 := hide (boxKeep HW5.out hs2' K1'.out)
  have KB5 := hide (boxKeep HW5.out hs2 K2'.out)
  have HB5 := hide (bthen HB2.out HW5.out)
  have hs5 : w2.heap.size < w5.heap.size := (Array.getElem?_eq_some_iff.1 BX5.out).1
  obtain ⟨⟨x0, x1, x2, x3, x4, x5, x6, x7, x8, x9⟩, _⟩ := box10 KA5.out
  obtain ⟨⟨y0, y1, y2, y3, y4, y5, y6, y7, y8, y9⟩, ff⟩ := box10 KB5.out
  obtain ⟨⟨z0, z1, z2, z3, z4, z5, z6, z7, z8, z9⟩, gf⟩ := box10 BX5.out
  go_wp2_with fail
  refine (among_any r d t.rev b _ (HR.out.below HB5.out) N3.out).mono ?_
  rintro e w' ⟨rfl, rfl⟩
  go_wp2
  go_loopw [115] (fun i wr => ∃ j : Nat, j ≤ 12 ∧ i = .int .i64 j ∧ ∃ vr : Value, Hid (wr.heap[w2.heap.size]? = some (Obj.cells #[.int .i64 t.seq, .slice a1 t.info.length c1, .slice a2 t.data.length c2, vr, .bool t.h0.on, .int .i64 t.h0.left, .bool t.h1.on, .int .i64 t.h1.left, .bool t.h2.on, .int .i64 (t.h2.left - 1)] 28 (0, 0))) ∧ Hid (wr.ownsRow (w2.heap.size + 1) 3 1 vr ((List.range j).flatMap (docR t.rev b true)).length (cellsI ((List.range j).flatMap (docR t.rev b true)))) ∧ Hid (Below w2.heap.size w2 wr)) (fun i _ => 12 - (intOf i).toNat)
  case atStart => exact ⟨0, Nat.zero_le _, rfl, .slice none 0 0, heap_setCell_same (w5.setCell ⟨w2.heap.size, 9, none⟩ (.int .i64 (t.h2.left - 1))) w2.heap.size 3 _ _ (.slice none 0 0) (heap_setCell_same w5 w2.heap.size 9 _ _ (.int .i64 (t.h2.left - 1)) BX5.out), World.ownsRow_nil _ _ _ _, ((HW5.out.setCell (Nat.le_refl _) _).setCell (Nat.le_refl _) _)⟩
  case round =>
    clear x0 x1 x2 x3 x4 x5 x6 x7 x8 x9 y0 y1 y2 y3 y4 y5 y6 y7 y8 y9 ff z0 z1 z2 z3 z4 z5 z6 z7 z8 z9 gf KA5 KB5 HB5 BX5 HW5 hs5
    obtain ⟨j, hj, rfl, vr, BX8, hown, HW8⟩ := hrel
    obtain ⟨w8, rfl⟩ : ∃ w8, w8 = wr := ⟨_, rfl⟩
    have KA8 := hide (boxKeep HW8.out hs2' K1'.out)
    have KB8 := hide (boxKeep HW8.out hs2 K2'.out)
    have HB8 := hide (bthen HB2.out HW8.out)
    have hs8 : w2.heap.size < w8.heap.size := (Array.getElem?_eq_some_iff.1 BX8.out).1
    obtain ⟨⟨x0, x1, x2, x3, x4, x5, x6, x7, x8, x9⟩, _⟩ := box10 KA8.out
    obtain ⟨⟨y0, y1, y2, y3, y4, y5, y6, y7, y8, y9⟩, ff⟩ := box10 KB8.out
    obtain ⟨⟨z0, z1, z2, z3, z4, z5, z6, z7, z8, z9⟩, gf⟩ := box10 BX8.out
    by_cases hlt : j < 12
    · have hlt' : (j : Int) < 12 := by omega
      have hq := flat_le (docR t.rev b true) (docR_le t.rev b true) j
      have HF := hide (flat_succ (docR t.rev b true) j)
      generalize (List.range j).flatMap (docR t.rev b true) = q at *
      by_cases he : (j : Int) = b
      · have he' : ((j : Int) == b) = true := by simpa using he
        have HF2 : Hid ((List.range (j + 1)).flatMap (docR t.rev b true) = q ++ [b]) := by rw [Hid, HF.out, docR, if_pos (.inl ⟨he, rfl⟩), he]
        clear HF
        go_wp2_with (at_builtin; refine wpList_appI _ _ (w2.heap.size + 1) rfl _ _ rfl _ q.length (cellsI q) rfl (owns_keep hown.out (below1 _ _)) (some ⟨w8.heap.size, 0, none⟩) 1 [b] rfl (.inr ⟨w8.heap.size, 0, rfl, by simp, fun i hi => ?_⟩) (by simp; omega) (by have := hs8; simp; omega) (Below.refl _ _) ?_)
        · have : i = 0 := by simpa using hi
          subst this
          simp [go_sem]
        · intro v' w9 hown' hB'
          have BX9 := hide ((hB'.out.block w2.heap.size (Nat.lt_succ_self _)).trans ((Below.heap_alloc _ _ _ hs8).trans BX8.out))
          have HW9 := hide ((bthen HW8.out (below1 _ _)).trans (hB'.out.mono (Nat.le_succ _)))
          have HN9 : Hid (w9.ownsRow (w2.heap.size + 1) 3 1 v' (q ++ [b]).length (cellsI (q ++ [b]))) := by rw [Hid, List.length_append, cellsI_append]; exact hown'.out
          obtain ⟨q2, hq2⟩ : ∃ q2, q2 = q ++ [b] := ⟨_, rfl⟩
          rw [← hq2] at HN9 HF2
          clear hown' hB' hq2
          obtain ⟨p9, r9, rfl, _, _⟩ := SegI.of_owns HN9.out
          clear hown BX8 HW8 KA8 KB8 HB8
          clear x0 x1 x2 x3 x4 x5 x6 x7 x8 x9 y0 y1 y2 y3 y4 y5 y6 y7 y8 y9 ff z0 z1 z2 z3 z4 z5 z6 z7 z8 z9 gf
          have KA9 := hide (boxKeep HW9.out hs2' K1'.out)
          have KB9 := hide (boxKeep HW9.out hs2 K2'.out)
          have HB9 := hide (bthen HB2.out HW9.out)
          have hs9 : w2.heap.size < w9.heap.size := (Array.getElem?_eq_some_iff.1 BX9.out).1
          obtain ⟨⟨x0, x1, x2, x3, x4, x5, x6, x7, x8, x9⟩, _⟩ := box10 KA9.out
          obtain ⟨⟨y0, y1, y2, y3, y4, y5, y6, y7, y8, y9⟩, ff⟩ := box10 KB9.out
          obtain ⟨⟨z0, z1, z2, z3, z4, z5, z6, z7, z8, z9⟩, gf⟩ := box10 BX9.out
          go_wp2
          go_roundw
          case rel => exact ⟨j + 1, by omega, by go_num, _, heap_setCell_same w9 w2.heap.size 3 _ _ _ BX9.out, by rw [HF2.out]; exact ownsRow_setCell_below HN9.out (by simp) _, HW9.out.setCell (Nat.le_refl _) _⟩
          case measure => simp [intOf]; omega
      · have he' : ((j : Int) == b) = false := by simpa using he
        go_wp2_with fail
        refine (among_any r d t.rev (j : Int) _ (HR.out.below HB8.out) N3.out).mono ?_
        rintro e w' ⟨rfl, rfl⟩
        cases hm : amongB t.rev (j : Int) with
        | false =>
          have HF2 : Hid ((List.range (j + 1)).flatMap (docR t.rev b true) = q) := by rw [Hid, HF.out, docR, if_neg (by simp [he, hm])]; simp
          clear HF
          go_wp2
          go_roundw
          case rel => exact ⟨j + 1, by omega, by go_num, vr, BX8, by rw [HF2.out]; exact hown, HW8⟩
          case measure => simp [intOf]; omega
        | true =>
          have HF2 : Hid ((List.range (j + 1)).flatMap (docR t.rev b true) = q ++ [(j : Int)]) := by rw [Hid, HF.out, docR, if_pos (.inr ⟨he, hm⟩)]
          clear HF
          go_wp2_with (at_builtin; refine wpList_appI _ _ (w2.heap.size + 1) rfl _ _ rfl _ q.length (cellsI q) rfl (owns_keep hown.out (below1 _ _)) (some ⟨w8.heap.size, 0, none⟩) 1 [(j : Int)] rfl (.inr ⟨w8.heap.size, 0, rfl, by simp, fun i hi => ?_⟩) (by simp; omega) (by have := hs8; simp; omega) (Below.refl _ _) ?_)
          · have : i = 0 := by simpa using hi
            subst this
            simp [go_sem]
          · intro v' w9 hown' hB'
            have BX9 := hide ((hB'.out.block w2.heap.size (Nat.lt_succ_self _)).trans ((Below.heap_alloc _ _ _ hs8).trans BX8.out))
            have HW9 := hide ((bthen HW8.out (below1 _ _)).trans (hB'.out.mono (Nat.le_succ _)))
            have HN9 : Hid (w9.ownsRow (w2.heap.size + 1) 3 1 v' (q ++ [(j : Int)]).length (cellsI (q ++ [(j : Int)]))) := by rw [Hid, List.length_append, cellsI_append]; exact hown'.out
            obtain ⟨q2, hq2⟩ : ∃ q2, q2 = q ++ [(j : Int)] := ⟨_, rfl⟩
            rw [← hq2] at HN9 HF2
            clear hown' hB' hq2
            obtain ⟨p9, r9, rfl, _, _⟩ := SegI.of_owns HN9.out
            clear hown BX8 HW8 KA8 KB8 HB8
            clear x0 x1 x2 x3 x4 x5 x6 x7 x8 x9 y0 y1 y2 y3 y4 y5 y6 y7 y8 y9 ff z0 z1 z2 z3 z4 z5 z6 z7 z8 z9 gf
            have KA9 := hide (boxKeep HW9.out hs2' K1'.out)
            have KB9 := hide (boxKeep HW9.out hs2 K2'.out)
            have HB9 := hide (bthen HB2.out HW9.out)
            have hs9 : w2.heap.size < w9.heap.size := (Array.getElem?_eq_some_iff.1 BX9.out).1
            obtain ⟨⟨x0, x1, x2, x3, x4, x5, x6, x7, x8, x9⟩, _⟩ := box10 KA9.out
            obtain ⟨⟨y0, y1, y2, y3, y4, y5, y6, y7, y8, y9⟩, ff⟩ := box10 KB9.out
            obtain ⟨⟨z0, z1, z2, z3, z4, z5, z6, z7, z8, z9⟩, gf⟩ := box10 BX9.out
            go_wp2
            go_roundw
            case rel => exact ⟨j + 1, by omega, by go_num, _, heap_setCell_same w9 w2.heap.size 3 _ _ _ BX9.out, by rw [HF2.out]; exact ownsRow_setCell_below HN9.out (by simp) _, HW9.out.setCell (Nat.le_refl _) _⟩
            case measure => simp [intOf]; omega
    · have e : j = 12 := by omega
      subst e
      rw [docR_put RR.out hb0 hb1'] at hown
      obtain ⟨p3, r3, rfl, _, _⟩ := SegI.of_owns hown.out
      have HV8 : Hid (RowN w8 (w2.heap.size + 1) (.slice p3 (putAt id t.rev b b).length r3) (putAt id t.rev b b)) := RowN.owned hown.out (Nat.le_refl _)
      clear hown
      go_wp2
      go_region_with (first
        | (go_at_call_of 49 (t.info); refine (rest_any a c t.info b _ (HM.out.below (bthen HB2.out (by first | exact HW8.out.drew | exact HW12.out | exact HW12.out.setCell (Nat.le_refl _) _))) (by omega)).mono ?_; rintro e w11 ⟨v11, rfl, ho11, hb11⟩; rw [rest_eq RI.out b] at ho11; obtain ⟨p11, q11, rfl, _, _⟩ := SegC.of_owns ho11; (first
          | (have hcur : Below w8.heap.size w8 w11 := ((Below.refl _ _).drew).trans hb11; have HW11 := hide (bthen HW8.out hcur); have BX11 : Hid (w11.heap[w2.heap.size]? = some (Obj.cells #[.int .i64 t.seq, .slice a1 t.info.length c1, .slice a2 t.data.length c2, .slice p3 (putAt id t.rev b b).length r3, .bool t.h0.on, .int .i64 t.h0.left, .bool t.h1.on, .int .i64 t.h1.left, .bool t.h2.on, .int .i64 (t.h2.left - 1)] 28 (0, 0))) := boxKeep hcur hs8 BX8.out; have HV11 := hide (HV8.out.below hcur); have HR11 : Hid (RowC w11 (w2.heap.size + 1) (.slice p11 (dropAt (·.1) t.info b).length q11) (dropAt (·.1) t.info b)) := RowC.owned ho11 hs8)
          | (have hcur : Below w12.heap.size w12 w11 := hb11; have HW11 := hide (bthen HW12.out hcur); have BX11 : Hid (w11.heap[w2.heap.size]? = some (Obj.cells #[.int .i64 t.seq, .slice a1 t.info.length c1, .slice a2 t.data.length c2, .slice p3 (putAt id t.rev b b).length r3, .bool t.h0.on, .int .i64 t.h0.left, .bool t.h1.on, .int .i64 t.h1.left, .bool t.h2.on, .int .i64 (t.h2.left - 1)] 28 (0, 0))) := boxKeep hcur hs12 BX12.out; have HV11 := hide (HV12.out.below hcur); have HS11 := hide (HR12.out.below hcur); have HR11 : Hid (RowC w11 (w2.heap.size + 1) (.slice p11 (dropAt (·.1) t.info b).length q11) (dropAt (·.1) t.info b)) := RowC.owned ho11 hs12)
          | (have hcur : Below (w12.setCell ⟨w2.heap.size, 2, none⟩ (.slice p12 (dropAt (·.1) t.data b).length q12)).heap.size (w12.setCell ⟨w2.heap.size, 2, none⟩ (.slice p12 (dropAt (·.1) t.data b).length q12)) w11 := hb11; have HW11 := hide (bthen (HW12.out.setCell (Nat.le_refl _) _) hcur); have BX11 : Hid (w11.heap[w2.heap.size]? = some (Obj.cells #[.int .i64 t.seq, .slice a1 t.info.length c1, .slice p12 (dropAt (·.1) t.data b).length q12, .slice p3 (putAt id t.rev b b).length r3, .bool t.h0.on, .int .i64 t.h0.left, .bool t.h1.on, .int .i64 t.h1.left, .bool t.h2.on, .int .i64 (t.h2.left - 1)] 28 (0, 0))) := boxKeep hcur (by simp; exact hs12) (heap_setCell_same w12 w2.heap.size 2 _ _ (.slice p12 (dropAt (·.1) t.data b).length q12) BX12.out); have HV11 := hide ((HV12.out.set (Nat.lt_succ_self _) _).below hcur); have HS11 := hide ((HR12.out.set (Nat.lt_succ_self _) _).below hcur); have HR11 : Hid (RowC w11 (w2.heap.size + 1) (.slice p11 (dropAt (·.1) t.info b).length q11) (dropAt (·.1) t.info b)) := RowC.owned ho11 (by simp; exact hs12))); have hs11 : w2.heap.size < w11.heap.size := (Array.getElem?_eq_some_iff.1 BX11.out).1; obtain ⟨⟨x0, x1, x2, x3, x4, x5, x6, x7, x8, x9⟩, _⟩ := box10 (boxKeep HW11.out hs2' K1'.out); obtain ⟨⟨y0, y1, y2, y3, y4, y5, y6, y7, y8, y9⟩, ff⟩ := box10 (boxKeep HW11.out hs2 K2'.out); obtain ⟨⟨z0, z1, z2, z3, z4, z5, z6, z7, z8, z9⟩, gf⟩ := box10 BX11.out; clear hb11 ho11)
        | (go_at_call_of 49 (t.data); refine (rest_any a' c' t.data b _ (HD.out.below (bthen HB2.out (by first | exact HW8.out.drew | exact HW11.out | exact HW11.out.setCell (Nat.le_refl _) _))) (by omega)).mono ?_; rintro e w12 ⟨v12, rfl, ho12, hb12⟩; rw [rest_eq RD.out b] at ho12; obtain ⟨p12, q12, rfl, _, _⟩ := SegC.of_owns ho12; (first
          | (have hcur : Below w8.heap.size w8 w12 := ((Below.refl _ _).drew).trans hb12; have HW12 := hide (bthen HW8.out hcur); have BX12 : Hid (w12.heap[w2.heap.size]? = some (Obj.cells #[.int .i64 t.seq, .slice a1 t.info.length c1, .slice a2 t.data.length c2, .slice p3 (putAt id t.rev b b).length r3, .bool t.h0.on, .int .i64 t.h0.left, .bool t.h1.on, .int .i64 t.h1.left, .bool t.h2.on, .int .i64 (t.h2.left - 1)] 28 (0, 0))) := boxKeep hcur hs8 BX8.out; have HV12 := hide (HV8.out.below hcur); have HR12 : Hid (RowC w12 (w2.heap.size + 1) (.slice p12 (dropAt (·.1) t.data b).length q12) (dropAt (·.1) t.data b)) := RowC.owned ho12 hs8)
          | (have hcur : Below w11.heap.size w11 w12 := hb12; have HW12 := hide (bthen HW11.out hcur); have BX12 : Hid (w12.heap[w2.heap.size]? = some (Obj.cells #[.int .i64 t.seq, .slice a1 t.info.length c1, .slice a2 t.data.length c2, .slice p3 (putAt id t.rev b b).length r3, .bool t.h0.on, .int .i64 t.h0.left, .bool t.h1.on, .int .i64 t.h1.left, .bool t.h2.on, .int .i64 (t.h2.left - 1)] 28 (0, 0))) := boxKeep hcur hs11 BX11.out; have HV12 := hide (HV11.out.below hcur); have HS12 := hide (HR11.out.below hcur); have HR12 : Hid (RowC w12 (w2.heap.size + 1) (.slice p12 (dropAt (·.1) t.data b).length q12) (dropAt (·.1) t.data b)) := RowC.owned ho12 hs11)
          | (have hcur : Below (w11.setCell ⟨w2.heap.size, 1, none⟩ (.slice p11 (dropAt (·.1) t.info b).length q11)).heap.size (w11.setCell ⟨w2.heap.size, 1, none⟩ (.slice p11 (dropAt (·.1) t.info b).length q11)) w12 := hb12; have HW12 := hide (bthen (HW11.out.setCell (Nat.le_refl _) _) hcur); have BX12 : Hid (w12.heap[w2.heap.size]? = some (Obj.cells #[.int .i64 t.seq, .slice p11 (dropAt (·.1) t.info b).length q11, .slice a2 t.data.length c2, .slice p3 (putAt id t.rev b b).length r3, .bool t.h0.on, .int .i64 t.h0.left, .bool t.h1.on, .int .i64 t.h1.left, .bool t.h2.on, .int .i64 (t.h2.left - 1)] 28 (0, 0))) := boxKeep hcur (by simp; exact hs11) (heap_setCell_same w11 w2.heap.size 1 _ _ (.slice p11 (dropAt (·.1) t.info b).length q11) BX11.out); have HV12 := hide ((HV11.out.set (Nat.lt_succ_self _) _).below hcur); have HS12 := hide ((HR11.out.set (Nat.lt_succ_self _) _).below hcur); have HR12 : Hid (RowC w12 (w2.heap.size + 1) (.slice p12 (dropAt (·.1) t.data b).length q12) (dropAt (·.1) t.data b)) := RowC.owned ho12 (by simp; exact hs11))); have hs12 : w2.heap.size < w12.heap.size := (Array.getElem?_eq_some_iff.1 BX12.out).1; obtain ⟨⟨x0, x1, x2, x3, x4, x5, x6, x7, x8, x9⟩, _⟩ := box10 (boxKeep HW12.out hs2' K1'.out); obtain ⟨⟨y0, y1, y2, y3, y4, y5, y6, y7, y8, y9⟩, ff⟩ := box10 (boxKeep HW12.out hs2 K2'.out); obtain ⟨⟨z0, z1, z2, z3, z4, z5, z6, z7, z8, z9⟩, gf⟩ := box10 BX12.out; clear hb12 ho12))
      all_goals
        go_wp2
        refine bodyPost_ret (v := .tuple #[.agg #[.int .i64 t.seq, .slice p11 (dropAt (·.1) t.info b).length q11, .slice p12 (dropAt (·.1) t.data b).length q12, .slice p3 (putAt id t.rev b b).length r3, .bool t.h0.on, .int .i64 t.h0.left, .bool t.h1.on, .int .i64 t.h1.left, .bool t.h2.on, .int .i64 (t.h2.left - 1)], .int .i64 0]) (by simp [results, Tryz.results9, go_sem, y0, y1, y2, y3, y4, y5, y6, y7, y8, y9]) rfl ⟨_, by rw [HE.out], ?_⟩
        rw [HTT.out]
        refine ⟨?_, ?_, .inr (by first | exact Rows3.from (T := { t with h2 := ⟨t.h2.on, t.h2.left - 1⟩ }) ⟨HR11.out, HS11.out, HV11.out⟩ (by omega) | exact Rows3.from (T := { t with h2 := ⟨t.h2.on, t.h2.left - 1⟩ }) ⟨HS12.out, HR12.out, HV12.out⟩ (by omega))⟩
        · refine Rows3.is (lo := w.heap.size + 2) (T := { t with h2 := ⟨t.h2.on, t.h2.left - 1⟩ }) ?_ (by have := dropLe (·.1) t.info b; omega) (by have := dropLe (·.1) t.data b; omega) (by have := putLe id t.rev b b; omega)
          iterate 10 (refine Rows3.set ?_ (by simp) _)
          refine Rows3.weak (lo := w2.heap.size + 1) ?_ (by omega)
          first
            | exact Rows3.set (Rows3.set ⟨HR11.out, HS11.out, HV11.out⟩ (Nat.lt_succ_self _) _) (Nat.lt_succ_self _) _
            | exact Rows3.set ⟨HR11.out, HS11.out, HV11.out⟩ (Nat.lt_succ_self _) _
            | exact Rows3.set (Rows3.set ⟨HS12.out, HR12.out, HV12.out⟩ (Nat.lt_succ_self _) _) (Nat.lt_succ_self _) _
            | exact Rows3.set ⟨HS12.out, HR12.out, HV12.out⟩ (Nat.lt_succ_self _) _
        · iterate 10 (refine Below.setCell ?_ (by simp) _)
          first
            | exact ((bthen HB2.out HW11.out).setCell (p := ⟨w2.heap.size, _, none⟩) (Nat.le_of_lt hs2') _).setCell (p := ⟨w2.heap.size, _, none⟩) (Nat.le_of_lt hs2') _
            | exact ((bthen HB2.out HW12.out).setCell (p := ⟨w2.heap.size, _, none⟩) (Nat.le_of_lt hs2') _).setCell (p := ⟨w2.heap.size, _, none⟩) (Nat.le_of_lt hs2') _
            | exact (bthen HB2.out HW11.out).setCell (p := ⟨w2.heap.size, _, none⟩) (Nat.le_of_lt hs2') _
            | exact (bthen HB2.out HW12.out).setCell (p := ⟨w2.heap.size, _, none⟩) (Nat.le_of_lt hs2') _

end Go.Proofs.YtjnpndfpajjihabGreat
