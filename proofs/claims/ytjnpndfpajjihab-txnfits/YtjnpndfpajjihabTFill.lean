/-
  The walk of package txn's Fill.
-/
import Derived.Test.YtjnpndfpajjihabTChange
namespace Go.Proofs.Ytjnpndfpajjihab
open Go.RowKit

set_option maxHeartbeats 2000000 in
set_option maxRecDepth 100000 in
theorem tFill_no (v : Value) (t : Tx) (h b : Int) (s : ByteArray) (w : World) (hT : IsTx w v t) (r1 : t.info.length * 24 ≤ 140737488355328) (r2 : t.data.length * 24 ≤ 140737488355328) (hr : ¬ reachE t h b = 0) :
    Calls Try.prog 36 #[v, .int .i64 h, .int .i64 b, .string s] w fun e w' => ∃ v2, e = .returned (.tuple #[v2, .int .i64 (fillE t h b s)]) ∧ IsTx w' v2 (fillT t h b s) ∧ Below w.heap.size w w' ∧ (v2 = v ∨ RowsFromR w.heap.size v2 (fillT t h b s)) := by
  have HT := hide hT
  obtain ⟨a, c, a', c', r, d, rfl, hM, hD, hR, n1, n2, n3⟩ := hT
  have HM := hide hM
  have HD := hide hD
  have HR := hide hR
  have N1 := hide n1
  have N2 := hide n2
  have N3 := hide n3
  clear hM hD hR n1 n2 n3
  go_enter Try.func36, Try.ntmps36
  go_wp2_with fail
  refine (reach_any _ t h b _ (HT.out.below (bthen (below1 _ _) (below1 _ _))) r1 r2).mono ?_
  rintro e w1 ⟨rfl, hb1⟩
  have hs1 : w.heap.size + 1 < w1.heap.size := by have := hb1.size; simp at this; omega
  have hs1' : w.heap.size < w1.heap.size := by omega
  have K1 := hide (two1 hb1)
  have K2 := hide (two2 hb1)
  obtain ⟨⟨x0, x1, x2, x3, x4, x5, x6, x7, x8, x9⟩, _⟩ := box10 K1.out
  obtain ⟨⟨y0, y1, y2, y3, y4, y5, y6, y7, y8, y9⟩, ff⟩ := box10 K2.out
  have HB1 := hide (bthen (bthen (below1 _ _) (below1 _ _)) hb1)
  clear hb1
  have HE : Hid (fillE t h b s = reachE t h b) := by rw [Hid, fillE, if_pos hr]
  have HTT : Hid (fillT t h b s = t) := by rw [Hid, fillT, if_neg (by rw [HE.out]; exact hr)]
  generalize reachE t h b = z at *
  go_wp2
  refine bodyPost_ret (v := .tuple #[.agg #[.int .i64 t.seq, .slice a t.info.length c, .slice a' t.data.length c', .slice r t.rev.length d, .bool t.h0.on, .int .i64 t.h0.left, .bool t.h1.on, .int .i64 t.h1.left, .bool t.h2.on, .int .i64 t.h2.left], .int .i64 z]) (by simp [results, Try.results36, go_sem, y0, y1, y2, y3, y4, y5, y6, y7, y8, y9]) rfl ⟨_, by rw [HE.out], ?_⟩
  refine ⟨?_, ?_, .inl rfl⟩
  · rw [HTT.out]
    refine HT.out.below ?_
    repeat refine Below.setCell ?_ (by simp) _
    exact HB1.out
  · repeat refine Below.setCell ?_ (by simp) _
    exact HB1.out

set_option maxHeartbeats 2000000 in
set_option maxRecDepth 100000 in
theorem tFill_form (v : Value) (t : Tx) (h b : Int) (s : ByteArray) (w : World) (hT : IsTx w v t) (r1 : t.info.length * 24 ≤ 140737488355328) (r2 : t.data.length * 24 ≤ 140737488355328) (hr : reachE t h b = 0) (hs : fitsB s = false) :
    Calls Try.prog 36 #[v, .int .i64 h, .int .i64 b, .string s] w fun e w' => ∃ v2, e = .returned (.tuple #[v2, .int .i64 (fillE t h b s)]) ∧ IsTx w' v2 (fillT t h b s) ∧ Below w.heap.size w w' ∧ (v2 = v ∨ RowsFromR w.heap.size v2 (fillT t h b s)) := by
  have HT := hide hT
  obtain ⟨a, c, a', c', r, d, rfl, hM, hD, hR, n1, n2, n3⟩ := hT
  have HM := hide hM
  have HD := hide hD
  have HR := hide hR
  have N1 := hide n1
  have N2 := hide n2
  have N3 := hide n3
  clear hM hD hR n1 n2 n3
  go_enter Try.func36, Try.ntmps36
  go_wp2_with fail
  refine (reach_any _ t h b _ (HT.out.below (bthen (below1 _ _) (below1 _ _))) r1 r2).mono ?_
  rintro e w1 ⟨rfl, hb1⟩
  have hs1 : w.heap.size + 1 < w1.heap.size := by have := hb1.size; simp at this; omega
  have hs1' : w.heap.size < w1.heap.size := by omega
  have K1 := hide (two1 hb1)
  have K2 := hide (two2 hb1)
  obtain ⟨⟨x0, x1, x2, x3, x4, x5, x6, x7, x8, x9⟩, _⟩ := box10 K1.out
  obtain ⟨⟨y0, y1, y2, y3, y4, y5, y6, y7, y8, y9⟩, ff⟩ := box10 K2.out
  have HB1 := hide (bthen (bthen (below1 _ _) (below1 _ _)) hb1)
  clear hb1
  have HE : Hid (fillE t h b s = 1) := by rw [Hid, fillE, if_neg (by rw [hr]; simp), if_pos hs]
  have HTT : Hid (fillT t h b s = t) := by rw [Hid, fillT, if_neg (by rw [HE.out]; decide)]
  have hz : ¬ (s.size : Int) = 32 := by simpa [fitsB] using hs
  clear hs
  go_wp2
  refine bodyPost_ret (v := .tuple #[.agg #[.int .i64 t.seq, .slice a t.info.length c, .slice a' t.data.length c', .slice r t.rev.length d, .bool t.h0.on, .int .i64 t.h0.left, .bool t.h1.on, .int .i64 t.h1.left, .bool t.h2.on, .int .i64 t.h2.left], .int .i64 1]) (by simp [results, Try.results36, go_sem, y0, y1, y2, y3, y4, y5, y6, y7, y8, y9]) rfl ⟨_, by rw [HE.out], ?_⟩
  refine ⟨?_, ?_, .inl rfl⟩
  · rw [HTT.out]
    refine HT.out.below ?_
    repeat refine Below.setCell ?_ (by simp) _
    exact HB1.out
  · repeat refine Below.setCell ?_ (by simp) _
    exact HB1.out

set_option maxHeartbeats 2000000 in
set_option maxRecDepth 100000 in
theorem tFill_role (v : Value) (t : Tx) (h b : Int) (s : ByteArray) (w : World) (hT : IsTx w v t) (r1 : t.info.length * 24 ≤ 140737488355328) (r2 : t.data.length * 24 ≤ 140737488355328) (hr : reachE t h b = 0) (hs : fitsB s = true) (hd : namedB t b = true) :
    Calls Try.prog 36 #[v, .int .i64 h, .int .i64 b, .string s] w fun e w' => ∃ v2, e = .returned (.tuple #[v2, .int .i64 (fillE t h b s)]) ∧ IsTx w' v2 (fillT t h b s) ∧ Below w.heap.size w w' ∧ (v2 = v ∨ RowsFromR w.heap.size v2 (fillT t h b s)) := by
  have HT := hide hT
  obtain ⟨a, c, a', c', r, d, rfl, hM, hD, hR, n1, n2, n3⟩ := hT
  have HM := hide hM
  have HD := hide hD
  have HR := hide hR
  have N1 := hide n1
  have N2 := hide n2
  have N3 := hide n3
  clear hM hD hR n1 n2 n3
  go_enter Try.func36, Try.ntmps36
  go_wp2_with fail
  refine (reach_any _ t h b _ (HT.out.below (bthen (below1 _ _) (below1 _ _))) r1 r2).mono ?_
  rintro e w1 ⟨rfl, hb1⟩
  have hs1 : w.heap.size + 1 < w1.heap.size := by have := hb1.size; simp at this; omega
  have hs1' : w.heap.size < w1.heap.size := by omega
  have K1 := hide (two1 hb1)
  have K2 := hide (two2 hb1)
  obtain ⟨⟨x0, x1, x2, x3, x4, x5, x6, x7, x8, x9⟩, _⟩ := box10 K1.out
  obtain ⟨⟨y0, y1, y2, y3, y4, y5, y6, y7, y8, y9⟩, ff⟩ := box10 K2.out
  have HB1 := hide (bthen (bthen (below1 _ _) (below1 _ _)) hb1)
  clear hb1
  have HE : Hid (fillE t h b s = 8) := by rw [Hid, fillE, if_neg (by rw [hr]; simp), if_neg (by rw [hs]; simp), if_pos hd]
  have HTT : Hid (fillT t h b s = t) := by rw [Hid, fillT, if_neg (by rw [HE.out]; decide)]
  have hz : (s.size : Int) = 32 := by simpa [fitsB] using hs
  clear hs
  go_wp2_with fail
  refine (named_any _ t b _ (HT.out.below HB1.out)).mono ?_
  rintro e w2 ⟨rfl, hb2⟩
  have hs2 : w.heap.size + 1 < w2.heap.size := by have := hb2.size; omega
  have hs2' : w.heap.size < w2.heap.size := by omega
  have K1' := hide (boxKeep hb2 hs1' K1.out)
  have K2' := hide (boxKeep hb2 hs1 K2.out)
  have HB2 := hide (bthen HB1.out hb2)
  clear x0 x1 x2 x3 x4 x5 x6 x7 x8 x9 y0 y1 y2 y3 y4 y5 y6 y7 y8 y9 ff hb2 K1 K2 HB1
  obtain ⟨⟨x0, x1, x2, x3, x4, x5, x6, x7, x8, x9⟩, _⟩ := box10 K1'.out
  obtain ⟨⟨y0, y1, y2, y3, y4, y5, y6, y7, y8, y9⟩, ff⟩ := box10 K2'.out
  go_wp2
  refine bodyPost_ret (v := .tuple #[.agg #[.int .i64 t.seq, .slice a t.info.length c, .slice a' t.data.length c', .slice r t.rev.length d, .bool t.h0.on, .int .i64 t.h0.left, .bool t.h1.on, .int .i64 t.h1.left, .bool t.h2.on, .int .i64 t.h2.left], .int .i64 8]) (by simp [results, Try.results36, go_sem, y0, y1, y2, y3, y4, y5, y6, y7, y8, y9]) rfl ⟨_, by rw [HE.out], ?_⟩
  refine ⟨?_, ?_, .inl rfl⟩
  · rw [HTT.out]
    refine HT.out.below ?_
    repeat refine Below.setCell ?_ (by simp) _
    exact HB2.out
  · repeat refine Below.setCell ?_ (by simp) _
    exact HB2.out

set_option maxHeartbeats 2000000 in
set_option maxRecDepth 100000 in
theorem tFill_ok (v : Value) (t : Tx) (h b : Int) (s : ByteArray) (w : World) (hT : IsTx w v t) (r1 : t.info.length * 24 ≤ 140737488355328) (r2 : t.data.length * 24 ≤ 140737488355328) (hr : reachE t h b = 0) (hs : fitsB s = true) (hd : namedB t b = false) :
    Calls Try.prog 36 #[v, .int .i64 h, .int .i64 b, .string s] w fun e w' => ∃ v2, e = .returned (.tuple #[v2, .int .i64 (fillE t h b s)]) ∧ IsTx w' v2 (fillT t h b s) ∧ Below w.heap.size w w' ∧ (v2 = v ∨ RowsFromR w.heap.size v2 (fillT t h b s)) := by
  have hrk := reach_ok hr
  have hg := hrk.1
  clear hrk
  have hgi := (goodX_iff t).1 hg
  have hu1 : Up (·.1) t.info := (up_map _ _).1 ((rises_iff _).1 hgi.2.2.1.1).2
  have hu2 : Up (·.1) t.data := (up_map _ _).1 ((rises_iff _).1 hgi.2.2.1.2.1).2
  have hu3 : Up id t.rev := ((rises_iff _).1 hgi.2.2.1.2.2).2
  have hsm := good_small hg
  clear hgi
  have HT := hide hT
  obtain ⟨a, c, a', c', r, d, rfl, hM, hD, hR, n1, n2, n3⟩ := hT
  have HM := hide hM
  have HD := hide hD
  have HR := hide hR
  have N1 := hide n1
  have N2 := hide n2
  have N3 := hide n3
  clear hM hD hR n1 n2 n3
  go_enter Try.func36, Try.ntmps36
  go_wp2_with fail
  refine (reach_any _ t h b _ (HT.out.below (bthen (below1 _ _) (below1 _ _))) r1 r2).mono ?_
  rintro e w1 ⟨rfl, hb1⟩
  have hs1 : w.heap.size + 1 < w1.heap.size := by have := hb1.size; simp at this; omega
  have hs1' : w.heap.size < w1.heap.size := by omega
  have K1 := hide (two1 hb1)
  have K2 := hide (two2 hb1)
  obtain ⟨⟨x0, x1, x2, x3, x4, x5, x6, x7, x8, x9⟩, _⟩ := box10 K1.out
  obtain ⟨⟨y0, y1, y2, y3, y4, y5, y6, y7, y8, y9⟩, ff⟩ := box10 K2.out
  have HB1 := hide (bthen (bthen (below1 _ _) (below1 _ _)) hb1)
  clear hb1
  have HE : Hid (fillE t h b s = 0) := by rw [Hid, fillE, if_neg (by rw [hr]; simp), if_neg (by rw [hs]; simp), if_neg (by rw [hd]; simp)]
  have HTT : Hid (fillT t h b s = { t with data := putAt (·.1) t.data b (b, s) }) := by rw [Hid, fillT, if_pos HE.out]
  have hz : (s.size : Int) = 32 := by simpa [fitsB] using hs
  clear hs
  go_wp2_with fail
  refine (named_any _ t b _ (HT.out.below HB1.out)).mono ?_
  rintro e w2 ⟨rfl, hb2⟩
  have hs2 : w.heap.size + 1 < w2.heap.size := by have := hb2.size; omega
  have hs2' : w.heap.size < w2.heap.size := by omega
  have K1' := hide (boxKeep hb2 hs1' K1.out)
  have K2' := hide (boxKeep hb2 hs1 K2.out)
  have HB2 := hide (bthen HB1.out hb2)
  clear x0 x1 x2 x3 x4 x5 x6 x7 x8 x9 y0 y1 y2 y3 y4 y5 y6 y7 y8 y9 ff hb2 K1 K2 HB1
  obtain ⟨⟨x0, x1, x2, x3, x4, x5, x6, x7, x8, x9⟩, _⟩ := box10 K1'.out
  obtain ⟨⟨y0, y1, y2, y3, y4, y5, y6, y7, y8, y9⟩, ff⟩ := box10 K2'.out
  go_wp2_with fail
  refine (fresh_any _ t _ (HT.out.below HB2.out) (by omega) (by omega) (by omega)).mono ?_
  rintro e w4 ⟨va, vd, vr, rfl, hbx, hb4⟩
  obtain ⟨a1, c1, rfl, _, _⟩ := SegC.of_owns hbx.2.1
  obtain ⟨a2, c2, rfl, _, _⟩ := SegC.of_owns hbx.2.2.1
  obtain ⟨a3, c3, rfl, _, _⟩ := SegI.of_owns hbx.2.2.2
  have BX := hide hbx
  have hs4 := hbx.lt
  have HB4 := hide (bthen HB2.out hb4)
  have KT4 := hide (boxKeep hb4 hs2' K1'.out)
  have KR4 := hide (boxKeep hb4 hs2 K2'.out)
  clear x0 x1 x2 x3 x4 x5 x6 x7 x8 x9 y0 y1 y2 y3 y4 y5 y6 y7 y8 y9 ff hb4 hbx HB2 K1' K2'
  have o6 := BX.out.2.2.1
  obtain ⟨⟨z0, z1, z2, z3, z4, z5, z6, z7, z8, z9⟩, gf⟩ := box10 BX.out.1
  obtain ⟨⟨y0, y1, y2, y3, y4, y5, y6, y7, y8, y9⟩, ff⟩ := box10 KR4.out
  go_wp2_with fail
  refine (withC_any (w2.heap.size + 1) _ t.data b s _ o6 (by omega) hu2).mono ?_
  clear o6
  rintro e w6 ⟨v6, rfl, ho6, hb6⟩
  obtain ⟨p6, q6, rfl, _, _⟩ := SegC.of_owns ho6
  have hz6 := hb6.size
  have hs6 : w2.heap.size < w6.heap.size := by omega
  have BXa6 := hide (BX.out.below hb6)
  have HOn6 : Hid (w6.ownsRow (w2.heap.size + 1) 91 2 (.slice p6 (putAt (·.1) t.data b (b, s)).length q6) (putAt (·.1) t.data b (b, s)).length (cellsC (putAt (·.1) t.data b (b, s)))) := owns_base ho6 (by omega)
  have BX6 := hide (BXa6.out.set (t' := { t with data := putAt (·.1) t.data b (b, s) }) 2 (.slice p6 (putAt (·.1) t.data b (b, s)).length q6) rfl BXa6.out.2.1 HOn6.out BXa6.out.2.2.2)
  have KA6 := hide (boxKeep hb6 (by omega) KR4.out)
  have K6 : Hid ((w6.setCell ⟨w2.heap.size, 2, none⟩ (.slice p6 (putAt (·.1) t.data b (b, s)).length q6)).heap[w.heap.size + 1]? = _) := (Below.heap_setCell _ _ _ _ (by simp; omega)).trans KA6.out
  have HB6 := hide ((HB4.out.trans (hb6.mono (by omega))).setCell (p := ⟨w2.heap.size, 2, none⟩) (by simp; omega) (.slice p6 (putAt (·.1) t.data b (b, s)).length q6))
  clear z0 z1 z2 z3 z4 z5 z6 z7 z8 z9 gf y0 y1 y2 y3 y4 y5 y6 y7 y8 y9 ff hb6 ho6 HOn6 BX HB4 KR4
  obtain ⟨⟨z0, z1, z2, z3, z4, z5, z6, z7, z8, z9⟩, gf⟩ := box10 BXa6.out.1
  obtain ⟨⟨y0, y1, y2, y3, y4, y5, y6, y7, y8, y9⟩, ff⟩ := box10 KA6.out
  go_wp2
  refine bodyPost_ret (v := .tuple #[.agg #[.int .i64 t.seq, (.slice a1 t.info.length c1), (.slice p6 (putAt (·.1) t.data b (b, s)).length q6), (.slice a3 t.rev.length c3), .bool t.h0.on, .int .i64 t.h0.left, .bool t.h1.on, .int .i64 t.h1.left, .bool t.h2.on, .int .i64 t.h2.left], .int .i64 0]) (by simp [results, Try.results36, go_sem, y0, y1, y2, y3, y4, y5, y6, y7, y8, y9]) rfl ⟨_, by rw [HE.out], ?_⟩
  rw [HTT.out]
  refine ⟨?_, ?_, .inr (BX6.out.fromR (t := { t with data := putAt (·.1) t.data b (b, s) }) (by omega))⟩
  · refine BoxTx.is (t := { t with data := putAt (·.1) t.data b (b, s) }) (B := w2.heap.size) ?_ (by exact N1.out) (by have := put_length (·.1) t.data b (b, s); unfold maxLen; dsimp only at this ⊢; omega) (by exact N3.out)
    repeat refine BoxTx.other ?_ (by simp; omega) _
    exact BX6.out
  · iterate 10 (refine Below.setCell ?_ (by simp; try omega) _)
    exact HB6.out

set_option maxHeartbeats 2000000 in
set_option maxRecDepth 100000 in
theorem tFill_room (v : Value) (t : Tx) (h b : Int) (s : ByteArray) (w : World) (hT : IsTx w v t) (r1 : t.info.length * 24 ≤ 140737488355328) (r2 : t.data.length * 24 ≤ 140737488355328) :
    Calls Try.prog 36 #[v, .int .i64 h, .int .i64 b, .string s] w fun e w' => ∃ v2, e = .returned (.tuple #[v2, .int .i64 (fillE t h b s)]) ∧ IsTx w' v2 (fillT t h b s) ∧ Below w.heap.size w w' ∧ (v2 = v ∨ RowsFromR w.heap.size v2 (fillT t h b s)) := by
  by_cases hr : reachE t h b = 0
  · cases hs : fitsB s with
    | false => exact tFill_form v t h b s w hT r1 r2 hr hs
    | true =>
      cases hd : namedB t b with
      | true => exact tFill_role v t h b s w hT r1 r2 hr hs hd
      | false => exact tFill_ok v t h b s w hT r1 r2 hr hs hd
  · exact tFill_no v t h b s w hT r1 r2 hr
theorem tFill_all (v : Value) (t : Tx) (h b : Int) (s : ByteArray) (w : World) (hT : IsTx w v t) (r1 : t.info.length * 24 ≤ 140737488355328) (r2 : t.data.length * 24 ≤ 140737488355328) :
    Calls Try.prog 36 #[v, .int .i64 h, .int .i64 b, .string s] w fun e w' => ∃ v2, e = .returned (.tuple #[v2, .int .i64 (fillE t h b s)]) ∧ IsTx w' v2 (fillT t h b s) ∧ Below w.heap.size w w' ∧ (v2 = v ∨ RowsFrom w.heap.size v2 (fillT t h b s)) :=
  (tFill_room v t h b s w hT r1 r2).mono fun _ _ ⟨v2, h1, h2, h3, h4⟩ => ⟨v2, h1, h2, h3, h4.imp id (·.1)⟩
theorem tFill_any (v : Value) (t : Tx) (h b : Int) (s : ByteArray) (w : World) (hT : IsTx w v t) (r1 : t.info.length * 24 ≤ 140737488355328) (r2 : t.data.length * 24 ≤ 140737488355328) :
    Calls Try.prog 36 #[v, .int .i64 h, .int .i64 b, .string s] w fun e w' => ∃ v2, e = .returned (.tuple #[v2, .int .i64 (fillE t h b s)]) ∧ IsTx w' v2 (fillT t h b s) ∧ Below w.heap.size w w' :=
  (tFill_all v t h b s w hT r1 r2).mono fun _ _ ⟨v2, h1, h2, h3, _⟩ => ⟨v2, h1, h2, h3⟩

end Go.Proofs.Ytjnpndfpajjihab
