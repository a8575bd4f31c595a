/-
  The walk of package txn's Change.
-/
import Derived.Test.YtjnpndfpajjihabGreatTName
import Derived.Test.YtjnpndfpajjihabGreatTWiths
namespace Go.Proofs.YtjnpndfpajjihabGreat
open Go.RowKit



set_option maxHeartbeats 2000000 in
set_option maxRecDepth 100000 in
theorem tChange_no (v : Value) (t : Tx) (h b : Int) (s : ByteArray) (w : World) (hT : IsTx w v t) (r1 : t.info.length * 24 ≤ 140737488355328) (r2 : t.data.length * 24 ≤ 140737488355328) (hr : ¬ reachE t h b = 0) :
    Calls Tryz.prog 8 #[v, .int .i64 h, .int .i64 b, .string s] w fun e w' => ∃ v2, e = .returned (.tuple #[v2, .int .i64 (changeE t h b s)]) ∧ IsTx w' v2 (changeT t h b s) ∧ Below w.heap.size w w' ∧ (v2 = v ∨ RowsFromR w.heap.size v2 (changeT t h b s)) := by
  have HT := hide hT
  obtain ⟨a, c, a', c', r, d, rfl, hM, hD, hR, n1, n2, n3⟩ := hT
  have HM := hide hM
  have HD := hide hD
  have HR := hide hR
  have N1 := hide n1
  have N2 := hide n2
  have N3 := hide n3
  clear hM hD hR n1 n2 n3
  go_enter Tryz.func8, Tryz.ntmps8
  go_wp2_with fail
  refine (reach_any _ t h b _ (HT.out.below (bthen (below1 _ _) (below1 _ _))) r1 r2).mono ?_
  rintro e w1 ⟨rfl, hb1⟩
  have hs1 : w.heap.size + 1 < w1.heap.size := by have := hb1.size; simp at this; omega
  have hs1' : w.heap.size < w1.heap.size := by omega
  have K1 := hide (two1 hb1)
  have K2 := hide (two2 hb1)
  obtain ⟨⟨x0, x1, x2, x3, x4, x5, x6, x7, x8, x9⟩, _⟩ := box10 K1.out
  obtain ⟨⟨y0, y1, y2, y3, y4, y5, y6, y7, y8, y9⟩, ff⟩ := box10 K2.out
  have HB1 := hide (bthen (bthen (below1 _ _) (below1 _ _)) hb1)
  clear hb1
  have HE : Hid (changeE t h b s = reachE t h b) := by rw [Hid, changeE, if_pos hr]
  have HTT : Hid (changeT t h b s = t) := by rw [Hid, changeT, if_neg (by rw [HE.out]; exact hr)]
  generalize reachE t h b = z at *
  go_wp2
  refine bodyPost_ret (v := .tuple #[.agg #[.int .i64 t.seq, .slice a t.info.length c, .slice a' t.data.length c', .slice r t.rev.length d, .bool t.h0.on, .int .i64 t.h0.left, .bool t.h1.on, .int .i64 t.h1.left, .bool t.h2.on, .int .i64 t.h2.left], .int .i64 z]) (by simp [results, Tryz.results8, go_sem, y0, y1, y2, y3, y4, y5, y6, y7, y8, y9]) rfl ⟨_, by rw [HE.out], ?_⟩
  refine ⟨?_, ?_, .inl rfl⟩
  · rw [HTT.out]
    refine HT.out.below ?_
    repeat refine Below.setCell ?_ (by simp) _
    exact HB1.out
  · repeat refine Below.setCell ?_ (by simp) _
    exact HB1.out

set_option maxHeartbeats 2000000 in
set_option maxRecDepth 100000 in
theorem tChange_form (v : Value) (t : Tx) (h b : Int) (s : ByteArray) (w : World) (hT : IsTx w v t) (r1 : t.info.length * 24 ≤ 140737488355328) (r2 : t.data.length * 24 ≤ 140737488355328) (hr : reachE t h b = 0) (hs : fitsB s = false) :
    Calls Tryz.prog 8 #[v, .int .i64 h, .int .i64 b, .string s] w fun e w' => ∃ v2, e = .returned (.tuple #[v2, .int .i64 (changeE t h b s)]) ∧ IsTx w' v2 (changeT t h b s) ∧ Below w.heap.size w w' ∧ (v2 = v ∨ RowsFromR w.heap.size v2 (changeT t h b s)) := by
  have HT := hide hT
  obtain ⟨a, c, a', c', r, d, rfl, hM, hD, hR, n1, n2, n3⟩ := hT
  have HM := hide hM
  have HD := hide hD
  have HR := hide hR
  have N1 := hide n1
  have N2 := hide n2
  have N3 := hide n3
  clear hM hD hR n1 n2 n3
  go_enter Tryz.func8, Tryz.ntmps8
  go_wp2_with fail
  refine (reach_any _ t h b _ (HT.out.below (bthen (below1 _ _) (below1 _ _))) r1 r2).mono ?_
  rintro e w1 ⟨rfl, hb1⟩
  have hs1 : w.heap.size + 1 < w1.heap.size := by have := hb1.size; simp at this; omega
  have hs1' : w.heap.size < w1.heap.size := by omega
  have K1 := hide (two1 hb1)
  have K2 := hide (two2 hb1)
  obtain ⟨⟨x0, x1, x2, x3, x4, x5, x6, x7, x8, x9⟩, _⟩ := box10 K1.out
  obtain ⟨⟨y0, y1, y2, y3, y4, y5, y6, y7, y8, y9⟩, ff⟩ := box10 K2.out
  have HB1 := hide (bthen (bthen (below1 _ _) (below1 _ _)) hb1)
  clear hb1
  have HE : Hid (changeE t h b s = 1) := by rw [Hid, changeE, if_neg (by rw [hr]; simp), if_pos hs]
  have HTT : Hid (changeT t h b s = t) := by rw [Hid, changeT, if_neg (by rw [HE.out]; decide)]
  have hz : ¬ (s.size : Int) = 32 := by simpa [fitsB] using hs
  clear hs
  go_wp2
  refine bodyPost_ret (v := .tuple #[.agg #[.int .i64 t.seq, .slice a t.info.length c, .slice a' t.data.length c', .slice r t.rev.length d, .bool t.h0.on, .int .i64 t.h0.left, .bool t.h1.on, .int .i64 t.h1.left, .bool t.h2.on, .int .i64 t.h2.left], .int .i64 1]) (by simp [results, Tryz.results8, go_sem, y0, y1, y2, y3, y4, y5, y6, y7, y8, y9]) rfl ⟨_, by rw [HE.out], ?_⟩
  refine ⟨?_, ?_, .inl rfl⟩
  · rw [HTT.out]
    refine HT.out.below ?_
    repeat refine Below.setCell ?_ (by simp) _
    exact HB1.out
  · repeat refine Below.setCell ?_ (by simp) _
    exact HB1.out

set_option maxHeartbeats 2000000 in
set_option maxRecDepth 100000 in
theorem tChange_role (v : Value) (t : Tx) (h b : Int) (s : ByteArray) (w : World) (hT : IsTx w v t) (r1 : t.info.length * 24 ≤ 140737488355328) (r2 : t.data.length * 24 ≤ 140737488355328) (hr : reachE t h b = 0) (hs : fitsB s = true) (hd : (textIn b t.data).isSome = true) :
    Calls Tryz.prog 8 #[v, .int .i64 h, .int .i64 b, .string s] w fun e w' => ∃ v2, e = .returned (.tuple #[v2, .int .i64 (changeE t h b s)]) ∧ IsTx w' v2 (changeT t h b s) ∧ Below w.heap.size w w' ∧ (v2 = v ∨ RowsFromR w.heap.size v2 (changeT t h b s)) := by
  have HT := hide hT
  obtain ⟨a, c, a', c', r, d, rfl, hM, hD, hR, n1, n2, n3⟩ := hT
  have HM := hide hM
  have HD := hide hD
  have HR := hide hR
  have N1 := hide n1
  have N2 := hide n2
  have N3 := hide n3
  clear hM hD hR n1 n2 n3
  go_enter Tryz.func8, Tryz.ntmps8
  go_wp2_with fail
  refine (reach_any _ t h b _ (HT.out.below (bthen (below1 _ _) (below1 _ _))) r1 r2).mono ?_
  rintro e w1 ⟨rfl, hb1⟩
  have hs1 : w.heap.size + 1 < w1.heap.size := by have := hb1.size; simp at this; omega
  have hs1' : w.heap.size < w1.heap.size := by omega
  have K1 := hide (two1 hb1)
  have K2 := hide (two2 hb1)
  obtain ⟨⟨x0, x1, x2, x3, x4, x5, x6, x7, x8, x9⟩, _⟩ := box10 K1.out
  obtain ⟨⟨y0, y1, y2, y3, y4, y5, y6, y7, y8, y9⟩, ff⟩ := box10 K2.out
  have HB1 := hide (bthen (bthen (below1 _ _) (below1 _ _)) hb1)
  clear hb1
  have HE : Hid (changeE t h b s = 8) := by rw [Hid, changeE, if_neg (by rw [hr]; simp), if_neg (by rw [hs]; simp), if_pos hd]
  have HTT : Hid (changeT t h b s = t) := by rw [Hid, changeT, if_neg (by rw [HE.out]; decide)]
  have hz : (s.size : Int) = 32 := by simpa [fitsB] using hs
  clear hs
  go_wp2_with fail
  refine (holds_any a' c' t.data b _ (HD.out.below HB1.out) N2.out).mono ?_
  rintro e w2 ⟨rfl, hb2⟩
  have hs2 : w.heap.size + 1 < w2.heap.size := by have := hb2.size; omega
  have hs2' : w.heap.size < w2.heap.size := by omega
  have K1' := hide (boxKeep hb2 hs1' K1.out)
  have K2' := hide (boxKeep hb2 hs1 K2.out)
  have HB2 := hide (bthen HB1.out hb2)
  clear x0 x1 x2 x3 x4 x5 x6 x7 x8 x9 y0 y1 y2 y3 y4 y5 y6 y7 y8 y9 ff hb2 K1 K2 HB1
  obtain ⟨⟨x0, x1, x2, x3, x4, x5, x6, x7, x8, x9⟩, _⟩ := box10 K1'.out
  obtain ⟨⟨y0, y1, y2, y3, y4, y5, y6, y7, y8, y9⟩, ff⟩ := box10 K2'.out
  go_wp2
  refine bodyPost_ret (v := .tuple #[.agg #[.int .i64 t.seq, .slice a t.info.length c, .slice a' t.data.length c', .slice r t.rev.length d, .bool t.h0.on, .int .i64 t.h0.left, .bool t.h1.on, .int .i64 t.h1.left, .bool t.h2.on, .int .i64 t.h2.left], .int .i64 8]) (by simp [results, Tryz.results8, go_sem, y0, y1, y2, y3, y4, y5, y6, y7, y8, y9]) rfl ⟨_, by rw [HE.out], ?_⟩
  refine ⟨?_, ?_, .inl rfl⟩
  · rw [HTT.out]
    refine HT.out.below ?_
    repeat refine Below.setCell ?_ (by simp) _
    exact HB2.out
  · repeat refine Below.setCell ?_ (by simp) _
    exact HB2.out

set_option maxHeartbeats 2000000 in
set_option maxRecDepth 100000 in
theorem tChange_credit (v : Value) (t : Tx) (h b : Int) (s : ByteArray) (w : World) (hT : IsTx w v t) (r1 : t.info.length * 24 ≤ 140737488355328) (r2 : t.data.length * 24 ≤ 140737488355328) (hr : reachE t h b = 0) (hs : fitsB s = true) (hd : (textIn b t.data).isSome = false) (hn : ¬ nameE t h b = 0) :
    Calls Tryz.prog 8 #[v, .int .i64 h, .int .i64 b, .string s] w fun e w' => ∃ v2, e = .returned (.tuple #[v2, .int .i64 (changeE t h b s)]) ∧ IsTx w' v2 (changeT t h b s) ∧ Below w.heap.size w w' ∧ (v2 = v ∨ RowsFromR w.heap.size v2 (changeT t h b s)) := by
  have hrk := reach_ok hr
  have hg := hrk.1
  have hh := hrk.2.1
  clear hrk
  have hsm := good_small hg
  have HT := hide hT
  obtain ⟨a, c, a', c', r, d, rfl, hM, hD, hR, n1, n2, n3⟩ := hT
  have HM := hide hM
  have HD := hide hD
  have HR := hide hR
  have N1 := hide n1
  have N2 := hide n2
  have N3 := hide n3
  clear hM hD hR n1 n2 n3
  go_enter Tryz.func8, Tryz.ntmps8
  go_wp2_with fail
  refine (reach_any _ t h b _ (HT.out.below (bthen (below1 _ _) (below1 _ _))) r1 r2).mono ?_
  rintro e w1 ⟨rfl, hb1⟩
  have hs1 : w.heap.size + 1 < w1.heap.size := by have := hb1.size; simp at this; omega
  have hs1' : w.heap.size < w1.heap.size := by omega
  have K1 := hide (two1 hb1)
  have K2 := hide (two2 hb1)
  obtain ⟨⟨x0, x1, x2, x3, x4, x5, x6, x7, x8, x9⟩, _⟩ := box10 K1.out
  obtain ⟨⟨y0, y1, y2, y3, y4, y5, y6, y7, y8, y9⟩, ff⟩ := box10 K2.out
  have HB1 := hide (bthen (bthen (below1 _ _) (below1 _ _)) hb1)
  clear hb1
  have HE : Hid (changeE t h b s = nameE t h b) := by rw [Hid, changeE, if_neg (by rw [hr]; simp), if_neg (by rw [hs]; simp), if_neg (by rw [hd]; simp)]
  have HTT : Hid (changeT t h b s = t) := by rw [Hid, changeT, if_neg (by rw [HE.out]; exact hn)]
  have hz : (s.size : Int) = 32 := by simpa [fitsB] using hs
  clear hs
  go_wp2_with fail
  refine (holds_any a' c' t.data b _ (HD.out.below HB1.out) N2.out).mono ?_
  rintro e w2 ⟨rfl, hb2⟩
  have hs2 : w.heap.size + 1 < w2.heap.size := by have := hb2.size; omega
  have hs2' : w.heap.size < w2.heap.size := by omega
  have K1' := hide (boxKeep hb2 hs1' K1.out)
  have K2' := hide (boxKeep hb2 hs1 K2.out)
  have HB2 := hide (bthen HB1.out hb2)
  clear x0 x1 x2 x3 x4 x5 x6 x7 x8 x9 y0 y1 y2 y3 y4 y5 y6 y7 y8 y9 ff hb2 K1 K2 HB1
  obtain ⟨⟨x0, x1, x2, x3, x4, x5, x6, x7, x8, x9⟩, _⟩ := box10 K1'.out
  obtain ⟨⟨y0, y1, y2, y3, y4, y5, y6, y7, y8, y9⟩, ff⟩ := box10 K2'.out
  go_wp2_with fail
  refine (fresh_any _ t _ (HT.out.below HB2.out) (by omega) (by omega) (by omega)).mono ?_
  rintro e w4 ⟨va, vd, vr, rfl, hbx, hb4⟩
  obtain ⟨a1, c1, rfl, _, _⟩ := SegC.of_owns hbx.2.1
  obtain ⟨a2, c2, rfl, _, _⟩ := SegC.of_owns hbx.2.2.1
  obtain ⟨a3, c3, rfl, _, _⟩ := SegI.of_owns hbx.2.2.2
  have BX := hide hbx
  have hs4 := hbx.lt
  have HB4 := hide (bthen HB2.out hb4)
  have KT4 := hide (boxKeep hb4 hs2' K1'.out)
  have KR4 := hide (boxKeep hb4 hs2 K2'.out)
  clear x0 x1 x2 x3 x4 x5 x6 x7 x8 x9 y0 y1 y2 y3 y4 y5 y6 y7 y8 y9 ff hb4 hbx HB2 K1' K2'
  obtain ⟨⟨z0, z1, z2, z3, z4, z5, z6, z7, z8, z9⟩, gf⟩ := box10 BX.out.1
  go_wp2_with fail
  refine (name_any w2.heap.size t _ _ _ h b w4 BX.out hg hh).mono ?_
  rintro e w5 ⟨rfl, hbx5, hb5⟩
  have BX5 := hide hbx5
  have hs5 := hbx5.lt
  have KT5 := hide ((hb5.block w.heap.size (by omega)).trans KT4.out)
  have KR5 := hide ((hb5.block (w.heap.size + 1) (by omega)).trans KR4.out)
  have HB5 := hide (HB4.out.trans (hb5.mono (by omega)))
  clear z0 z1 z2 z3 z4 z5 z6 z7 z8 z9 gf hb5 hbx5 HB4 KT4 KR4 BX
  obtain ⟨⟨x0, x1, x2, x3, x4, x5, x6, x7, x8, x9⟩, _⟩ := box10 KT5.out
  obtain ⟨⟨y0, y1, y2, y3, y4, y5, y6, y7, y8, y9⟩, ff⟩ := box10 KR5.out
  clear BX5
  generalize nameE t h b = z at *
  go_wp2
  refine bodyPost_ret (v := .tuple #[.agg #[.int .i64 t.seq, .slice a t.info.length c, .slice a' t.data.length c', .slice r t.rev.length d, .bool t.h0.on, .int .i64 t.h0.left, .bool t.h1.on, .int .i64 t.h1.left, .bool t.h2.on, .int .i64 t.h2.left], .int .i64 z]) (by simp [results, Tryz.results8, go_sem, y0, y1, y2, y3, y4, y5, y6, y7, y8, y9]) rfl ⟨_, by rw [HE.out], ?_⟩
  refine ⟨?_, ?_, .inl rfl⟩
  · rw [HTT.out]
    refine HT.out.below ?_
    repeat refine Below.setCell ?_ (by simp) _
    exact HB5.out
  · repeat refine Below.setCell ?_ (by simp) _
    exact HB5.out

set_option maxHeartbeats 2000000 in
set_option maxRecDepth 100000 in
theorem tChange_ok (v : Value) (t : Tx) (h b : Int) (s : ByteArray) (w : World) (hT : IsTx w v t) (r1 : t.info.length * 24 ≤ 140737488355328) (r2 : t.data.length * 24 ≤ 140737488355328) (hr : reachE t h b = 0) (hs : fitsB s = true) (hd : (textIn b t.data).isSome = false) (hn : nameE t h b = 0) :
    Calls Tryz.prog 8 #[v, .int .i64 h, .int .i64 b, .string s] w fun e w' => ∃ v2, e = .returned (.tuple #[v2, .int .i64 (changeE t h b s)]) ∧ IsTx w' v2 (changeT t h b s) ∧ Below w.heap.size w w' ∧ (v2 = v ∨ RowsFromR w.heap.size v2 (changeT t h b s)) := by
  have hrk := reach_ok hr
  have hg := hrk.1
  have hh := hrk.2.1
  clear hrk
  have hgi := (goodX_iff t).1 hg
  have hu1 : Up (·.1) t.info := (up_map _ _).1 ((rises_iff _).1 hgi.2.2.1.1).2
  have hu2 : Up (·.1) t.data := (up_map _ _).1 ((rises_iff _).1 hgi.2.2.1.2.1).2
  have hu3 : Up id t.rev := ((rises_iff _).1 hgi.2.2.1.2.2).2
  have hsm := good_small hg
  clear hgi
  have HT := hide hT
  obtain ⟨a, c, a', c', r, d, rfl, hM, hD, hR, n1, n2, n3⟩ := hT
  have HM := hide hM
  have HD := hide hD
  have HR := hide hR
  have N1 := hide n1
  have N2 := hide n2
  have N3 := hide n3
  clear hM hD hR n1 n2 n3
  go_enter Tryz.func8, Tryz.ntmps8
  go_wp2_with fail
  refine (reach_any _ t h b _ (HT.out.below (bthen (below1 _ _) (below1 _ _))) r1 r2).mono ?_
  rintro e w1 ⟨rfl, hb1⟩
  have hs1 : w.heap.size + 1 < w1.heap.size := by have := hb1.size; simp at this; omega
  have hs1' : w.heap.size < w1.heap.size := by omega
  have K1 := hide (two1 hb1)
  have K2 := hide (two2 hb1)
  obtain ⟨⟨x0, x1, x2, x3, x4, x5, x6, x7, x8, x9⟩, _⟩ := box10 K1.out
  obtain ⟨⟨y0, y1, y2, y3, y4, y5, y6, y7, y8, y9⟩, ff⟩ := box10 K2.out
  have HB1 := hide (bthen (bthen (below1 _ _) (below1 _ _)) hb1)
  clear hb1
  have HE : Hid (changeE t h b s = 0) := by rw [Hid, changeE, if_neg (by rw [hr]; simp), if_neg (by rw [hs]; simp), if_neg (by rw [hd]; simp), hn]
  have HTT : Hid (changeT t h b s = { { nameT t h b with info := putAt (·.1) t.info b (b, s) } with rev := dropAt id t.rev b }) := by rw [Hid, changeT, if_pos HE.out]; rfl
  have hz : (s.size : Int) = 32 := by simpa [fitsB] using hs
  clear hs
  go_wp2_with fail
  refine (holds_any a' c' t.data b _ (HD.out.below HB1.out) N2.out).mono ?_
  rintro e w2 ⟨rfl, hb2⟩
  have hs2 : w.heap.size + 1 < w2.heap.size := by have := hb2.size; omega
  have hs2' : w.heap.size < w2.heap.size := by omega
  have K1' := hide (boxKeep hb2 hs1' K1.out)
  have K2' := hide (boxKeep hb2 hs1 K2.out)
  have HB2 := hide (bthen HB1.out hb2)
  clear x0 x1 x2 x3 x4 x5 x6 x7 x8 x9 y0 y1 y2 y3 y4 y5 y6 y7 y8 y9 ff hb2 K1 K2 HB1
  obtain ⟨⟨x0, x1, x2, x3, x4, x5, x6, x7, x8, x9⟩, _⟩ := box10 K1'.out
  obtain ⟨⟨y0, y1, y2, y3, y4, y5, y6, y7, y8, y9⟩, ff⟩ := box10 K2'.out
  go_wp2_with fail
  refine (fresh_any _ t _ (HT.out.below HB2.out) (by omega) (by omega) (by omega)).mono ?_
  rintro e w4 ⟨va, vd, vr, rfl, hbx, hb4⟩
  obtain ⟨a1, c1, rfl, _, _⟩ := SegC.of_owns hbx.2.1
  obtain ⟨a2, c2, rfl, _, _⟩ := SegC.of_owns hbx.2.2.1
  obtain ⟨a3, c3, rfl, _, _⟩ := SegI.of_owns hbx.2.2.2
  have BX := hide hbx
  have hs4 := hbx.lt
  have HB4 := hide (bthen HB2.out hb4)
  have KT4 := hide (boxKeep hb4 hs2' K1'.out)
  have KR4 := hide (boxKeep hb4 hs2 K2'.out)
  clear x0 x1 x2 x3 x4 x5 x6 x7 x8 x9 y0 y1 y2 y3 y4 y5 y6 y7 y8 y9 ff hb4 hbx HB2 K1' K2'
  obtain ⟨⟨z0, z1, z2, z3, z4, z5, z6, z7, z8, z9⟩, gf⟩ := box10 BX.out.1
  go_wp2_with fail
  refine (name_any w2.heap.size t _ _ _ h b w4 BX.out hg hh).mono ?_
  rintro e w5 ⟨rfl, hbx5, hb5⟩
  have BX5 := hide hbx5
  have hs5 := hbx5.lt
  have KT5 := hide ((hb5.block w.heap.size (by omega)).trans KT4.out)
  have KR5 := hide ((hb5.block (w.heap.size + 1) (by omega)).trans KR4.out)
  have HB5 := hide (HB4.out.trans (hb5.mono (by omega)))
  clear z0 z1 z2 z3 z4 z5 z6 z7 z8 z9 gf hb5 hbx5 HB4 KT4 KR4 BX
  rw [nameX, if_pos hn] at BX5
  have hnt := nameT_info t h b
  obtain ⟨t', ht'⟩ : ∃ t', t' = nameT t h b := ⟨_, rfl⟩
  rw [← ht'] at BX5 HTT hnt
  have EQ1 : Hid (t'.info = t.info) := hnt.1
  have EQ2 : Hid (t'.data = t.data) := hnt.2.1
  have EQ3 : Hid (t'.rev = t.rev) := hnt.2.2
  clear ht' hnt
  have o6 := BX5.out.2.1
  rw [EQ1.out] at o6
  obtain ⟨⟨z0, z1, z2, z3, z4, z5, z6, z7, z8, z9⟩, gf⟩ := box10 BX5.out.1
  obtain ⟨⟨y0, y1, y2, y3, y4, y5, y6, y7, y8, y9⟩, ff⟩ := box10 KR5.out
  go_wp2_with fail
  refine (withC_any (w2.heap.size + 1) _ t.info b s _ o6 (by omega) hu1).mono ?_
  clear o6
  rintro e w6 ⟨v6, rfl, ho6, hb6⟩
  obtain ⟨p6, q6, rfl, _, _⟩ := SegC.of_owns ho6
  have hz6 := hb6.size
  have hs6 : w2.heap.size < w6.heap.size := by omega
  have BXa6 := hide (BX5.out.below hb6)
  have HOn6 : Hid (w6.ownsRow (w2.heap.size + 1) 78 2 (.slice p6 (putAt (·.1) t.info b (b, s)).length q6) (putAt (·.1) t.info b (b, s)).length (cellsC (putAt (·.1) t.info b (b, s)))) := owns_base ho6 (by omega)
  have BX6 := hide (BXa6.out.set (t' := { t' with info := putAt (·.1) t.info b (b, s) }) 1 (.slice p6 (putAt (·.1) t.info b (b, s)).length q6) rfl HOn6.out BXa6.out.2.2.1 BXa6.out.2.2.2)
  have KA6 := hide (boxKeep hb6 (by omega) KR5.out)
  have K6 : Hid ((w6.setCell ⟨w2.heap.size, 1, none⟩ (.slice p6 (putAt (·.1) t.info b (b, s)).length q6)).heap[w.heap.size + 1]? = _) := (Below.heap_setCell _ _ _ _ (by simp; omega)).trans KA6.out
  have HB6 := hide ((HB5.out.trans (hb6.mono (by omega))).setCell (p := ⟨w2.heap.size, 1, none⟩) (by simp; omega) (.slice p6 (putAt (·.1) t.info b (b, s)).length q6))
  clear z0 z1 z2 z3 z4 z5 z6 z7 z8 z9 gf y0 y1 y2 y3 y4 y5 y6 y7 y8 y9 ff hb6 ho6 HOn6 BX5 HB5 KR5
  have o7 := BX6.out.2.2.2
  dsimp only at o7
  rw [EQ3.out] at o7
  obtain ⟨⟨z0, z1, z2, z3, z4, z5, z6, z7, z8, z9⟩, gf⟩ := box10 BXa6.out.1
  obtain ⟨⟨y0, y1, y2, y3, y4, y5, y6, y7, y8, y9⟩, ff⟩ := box10 KA6.out
  go_wp2_with fail
  refine (withoutI_any (w2.heap.size + 1) _ t.rev b _ o7 (by omega) hu3).mono ?_
  clear o7
  rintro e w7 ⟨v7, rfl, ho7, hb7⟩
  obtain ⟨p7, q7, rfl, _, _⟩ := SegI.of_owns ho7
  have hz7 := hb7.size
  simp only [World.size_setCell] at hz7
  have hs7 : w2.heap.size < w7.heap.size := by omega
  have BXa7 := hide (BX6.out.below hb7)
  have HOn7 : Hid (w7.ownsRow (w2.heap.size + 1) 3 1 (.slice p7 (dropAt id t.rev b).length q7) (dropAt id t.rev b).length (cellsI (dropAt id t.rev b))) := owns_base ho7 (by simp; omega)
  have BX7 := hide (BXa7.out.set (t' := { { t' with info := putAt (·.1) t.info b (b, s) } with rev := dropAt id t.rev b }) 3 (.slice p7 (dropAt id t.rev b).length q7) rfl BXa7.out.2.1 BXa7.out.2.2.1 HOn7.out)
  have KA7 := hide (boxKeep hb7 (by simp; omega) K6.out)
  have K7 : Hid ((w7.setCell ⟨w2.heap.size, 3, none⟩ (.slice p7 (dropAt id t.rev b).length q7)).heap[w.heap.size + 1]? = _) := (Below.heap_setCell _ _ _ _ (by simp; omega)).trans KA7.out
  have HB7 := hide ((HB6.out.trans (hb7.mono (by simp; omega))).setCell (p := ⟨w2.heap.size, 3, none⟩) (by simp; omega) (.slice p7 (dropAt id t.rev b).length q7))
  clear z0 z1 z2 z3 z4 z5 z6 z7 z8 z9 gf y0 y1 y2 y3 y4 y5 y6 y7 y8 y9 ff hb7 ho7 HOn7 BX6 HB6 K6
  obtain ⟨⟨z0, z1, z2, z3, z4, z5, z6, z7, z8, z9⟩, gf⟩ := box10 BXa7.out.1
  obtain ⟨⟨y0, y1, y2, y3, y4, y5, y6, y7, y8, y9⟩, ff⟩ := box10 KA7.out
  go_wp2
  refine bodyPost_ret (v := .tuple #[.agg #[.int .i64 t'.seq, (.slice p6 (putAt (·.1) t.info b (b, s)).length q6), (.slice a2 t.data.length c2), (.slice p7 (dropAt id t.rev b).length q7), .bool t'.h0.on, .int .i64 t'.h0.left, .bool t'.h1.on, .int .i64 t'.h1.left, .bool t'.h2.on, .int .i64 t'.h2.left], .int .i64 0]) (by simp [results, Tryz.results8, go_sem, y0, y1, y2, y3, y4, y5, y6, y7, y8, y9]) rfl ⟨_, by rw [HE.out], ?_⟩
  rw [HTT.out]
  refine ⟨?_, ?_, .inr (BX7.out.fromR (t := { { t' with info := putAt (·.1) t.info b (b, s) } with rev := dropAt id t.rev b }) (by omega))⟩
  · refine BoxTx.is (t := { { t' with info := putAt (·.1) t.info b (b, s) } with rev := dropAt id t.rev b }) (B := w2.heap.size) ?_ (by have := put_length (·.1) t.info b (b, s); unfold maxLen; dsimp only at this ⊢; omega) (by have := EQ2.out; unfold maxLen; dsimp only; rw [this]; omega) (by have := drop_length id t.rev b; unfold maxLen; dsimp only; omega)
    repeat refine BoxTx.other ?_ (by simp; omega) _
    exact BX7.out
  · iterate 10 (refine Below.setCell ?_ (by simp; try omega) _)
    exact HB7.out

set_option maxHeartbeats 2000000 in
set_option maxRecDepth 100000 in
theorem tChange_room (v : Value) (t : Tx) (h b : Int) (s : ByteArray) (w : World) (hT : IsTx w v t) (r1 : t.info.length * 24 ≤ 140737488355328) (r2 : t.data.length * 24 ≤ 140737488355328) :
    Calls Tryz.prog 8 #[v, .int .i64 h, .int .i64 b, .string s] w fun e w' => ∃ v2, e = .returned (.tuple #[v2, .int .i64 (changeE t h b s)]) ∧ IsTx w' v2 (changeT t h b s) ∧ Below w.heap.size w w' ∧ (v2 = v ∨ RowsFromR w.heap.size v2 (changeT t h b s)) := by
  by_cases hr : reachE t h b = 0
  · cases hs : fitsB s with
    | false => exact tChange_form v t h b s w hT r1 r2 hr hs
    | true =>
      cases hd : (textIn b t.data).isSome with
      | true => exact tChange_role v t h b s w hT r1 r2 hr hs hd
      | false =>
        by_cases hn : nameE t h b = 0
        · exact tChange_ok v t h b s w hT r1 r2 hr hs hd hn
        · exact tChange_credit v t h b s w hT r1 r2 hr hs hd hn
  · exact tChange_no v t h b s w hT r1 r2 hr
theorem tChange_all (v : Value) (t : Tx) (h b : Int) (s : ByteArray) (w : World) (hT : IsTx w v t) (r1 : t.info.length * 24 ≤ 140737488355328) (r2 : t.data.length * 24 ≤ 140737488355328) :
    Calls Tryz.prog 8 #[v, .int .i64 h, .int .i64 b, .string s] w fun e w' => ∃ v2, e = .returned (.tuple #[v2, .int .i64 (changeE t h b s)]) ∧ IsTx w' v2 (changeT t h b s) ∧ Below w.heap.size w w' ∧ (v2 = v ∨ RowsFrom w.heap.size v2 (changeT t h b s)) :=
  (tChange_room v t h b s w hT r1 r2).mono fun _ _ ⟨v2, h1, h2, h3, h4⟩ => ⟨v2, h1, h2, h3, h4.imp id (·.1)⟩
theorem tChange_any (v : Value) (t : Tx) (h b : Int) (s : ByteArray) (w : World) (hT : IsTx w v t) (r1 : t.info.length * 24 ≤ 140737488355328) (r2 : t.data.length * 24 ≤ 140737488355328) :
    Calls Tryz.prog 8 #[v, .int .i64 h, .int .i64 b, .string s] w fun e w' => ∃ v2, e = .returned (.tuple #[v2, .int .i64 (changeE t h b s)]) ∧ IsTx w' v2 (changeT t h b s) ∧ Below w.heap.size w w' :=
  (tChange_all v t h b s w hT r1 r2).mono fun _ _ ⟨v2, h1, h2, h3, _⟩ => ⟨v2, h1, h2, h3⟩

end Go.Proofs.YtjnpndfpajjihabGreat
