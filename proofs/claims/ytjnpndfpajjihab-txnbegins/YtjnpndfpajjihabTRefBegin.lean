/-
  The walks of the document's own BeginTxn and StopTxn.
-/
import Derived.Test.YtjnpndfpajjihabTRefGood
import Derived.Test.YtjnpndfpajjihabTReach
import Derived.Test.YtjnpndfpajjihabTAsk
import Derived.Test.YtjnpndfpajjihabRMost
namespace Go.Proofs.Ytjnpndfpajjihab
open Go.RowKit

/-- The same rows, with other handles. -/
theorem is_hd {w : World} {a : Option Addr} {c : Nat} {a' : Option Addr} {c' : Nat} {r : Option Addr} {d : Nat} {t : Tx}
    (h : IsTx w (.agg #[.int .i64 t.seq, .slice a t.info.length c, .slice a' t.data.length c', .slice r t.rev.length d, .bool t.h0.on, .int .i64 t.h0.left, .bool t.h1.on, .int .i64 t.h1.left, .bool t.h2.on, .int .i64 t.h2.left]) t) (t' : Tx) (e0 : t'.seq = t.seq) (e1 : t'.info = t.info) (e2 : t'.data = t.data) (e3 : t'.rev = t.rev) :
    IsTx w (.agg #[.int .i64 t.seq, .slice a t.info.length c, .slice a' t.data.length c', .slice r t.rev.length d, .bool t'.h0.on, .int .i64 t'.h0.left, .bool t'.h1.on, .int .i64 t'.h1.left, .bool t'.h2.on, .int .i64 t'.h2.left]) t' := by
  obtain ⟨a1, c1, a2, c2, a3, c3, e, h1, h2, h3, n1, n2, n3⟩ := h
  simp only [Value.agg.injEq] at e
  injection e with e
  simp only [List.cons.injEq, Value.slice.injEq, true_and, and_true] at e
  obtain ⟨⟨rfl, rfl⟩, ⟨rfl, rfl⟩, rfl, rfl⟩ := e
  exact ⟨a, c, a', c', r, d, by rw [e0, e1, e2, e3], by rw [e1]; exact h1, by rw [e2]; exact h2, by rw [e3]; exact h3, by rw [e1]; exact n1, by rw [e2]; exact n2, by rw [e3]; exact n3⟩

set_option maxHeartbeats 2000000 in
set_option maxRecDepth 100000 in
theorem beginTxn_bad (v : Value) (t : Tx) (h n free : Int) (w : World) (hT : IsTx w v t) (r1 : t.info.length * 24 ≤ 140737488355328) (r2 : t.data.length * 24 ≤ 140737488355328) (hg : goodX t = false) :
    Calls Try.prog 18 #[v, .int .i64 h, .int .i64 n, .int .i64 free] w fun e w' => ∃ v2, e = .returned (.tuple #[v2, .int .i64 (beginE t h n free)]) ∧ IsTx w' v2 (beginT t h n free) ∧ Below w.heap.size w w' := by
  have HT := hide hT
  obtain ⟨a, c, a', c', r, d, rfl, hM, hD, hR, n1, n2, n3⟩ := hT
  have N1 := hide n1
  have N2 := hide n2
  have N3 := hide n3
  clear hM hD hR n1 n2 n3
  go_enter Try.func18, Try.ntmps18
  go_wp2_with fail
  refine (goodTxn_any _ t _ (HT.out.below (bthen (below1 _ _) (below1 _ _))) r1 r2).mono ?_
  rintro e w1 ⟨rfl, hb1⟩
  have hs1 : w.heap.size + 1 < w1.heap.size := by have := hb1.size; simp at this; omega
  have hs1' : w.heap.size < w1.heap.size := by omega
  have K1 := hide (two1 hb1)
  have K2 := hide (two2 hb1)
  obtain ⟨⟨x0, x1, x2, x3, x4, x5, x6, x7, x8, x9⟩, _⟩ := box10 K1.out
  obtain ⟨⟨y0, y1, y2, y3, y4, y5, y6, y7, y8, y9⟩, ff⟩ := box10 K2.out
  have HB1 := hide (bthen (bthen (below1 _ _) (below1 _ _)) hb1)
  clear hb1
  have HE : Hid (beginE t h n free = 2) := by rw [Hid, beginE, if_pos hg]
  have HTT : Hid (beginT t h n free = t) := by rw [Hid, beginT, HE.out]; rfl
  go_wp2
  refine bodyPost_ret (v := .tuple #[.agg #[.int .i64 t.seq, .slice a t.info.length c, .slice a' t.data.length c', .slice r t.rev.length d, .bool t.h0.on, .int .i64 t.h0.left, .bool t.h1.on, .int .i64 t.h1.left, .bool t.h2.on, .int .i64 t.h2.left], .int .i64 2]) (by simp [results, Try.results18, go_sem, y0, y1, y2, y3, y4, y5, y6, y7, y8, y9]) rfl ⟨_, by rw [HE.out], ?_⟩
  refine ⟨?_, ?_⟩
  · rw [HTT.out]
    refine HT.out.below ?_
    repeat refine Below.setCell ?_ (by simp) _
    exact HB1.out
  · repeat refine Below.setCell ?_ (by simp) _
    exact HB1.out

set_option maxHeartbeats 2000000 in
set_option maxRecDepth 100000 in
theorem beginTxn_low (v : Value) (t : Tx) (h n free : Int) (w : World) (hT : IsTx w v t) (r1 : t.info.length * 24 ≤ 140737488355328) (r2 : t.data.length * 24 ≤ 140737488355328) (hg : goodX t = true) (hw : h < 0) :
    Calls Try.prog 18 #[v, .int .i64 h, .int .i64 n, .int .i64 free] w fun e w' => ∃ v2, e = .returned (.tuple #[v2, .int .i64 (beginE t h n free)]) ∧ IsTx w' v2 (beginT t h n free) ∧ Below w.heap.size w w' := by
  have HT := hide hT
  obtain ⟨a, c, a', c', r, d, rfl, hM, hD, hR, n1, n2, n3⟩ := hT
  have N1 := hide n1
  have N2 := hide n2
  have N3 := hide n3
  clear hM hD hR n1 n2 n3
  go_enter Try.func18, Try.ntmps18
  go_wp2_with fail
  refine (goodTxn_any _ t _ (HT.out.below (bthen (below1 _ _) (below1 _ _))) r1 r2).mono ?_
  rintro e w1 ⟨rfl, hb1⟩
  have hs1 : w.heap.size + 1 < w1.heap.size := by have := hb1.size; simp at this; omega
  have hs1' : w.heap.size < w1.heap.size := by omega
  have K1 := hide (two1 hb1)
  have K2 := hide (two2 hb1)
  obtain ⟨⟨x0, x1, x2, x3, x4, x5, x6, x7, x8, x9⟩, _⟩ := box10 K1.out
  obtain ⟨⟨y0, y1, y2, y3, y4, y5, y6, y7, y8, y9⟩, ff⟩ := box10 K2.out
  have HB1 := hide (bthen (bthen (below1 _ _) (below1 _ _)) hb1)
  clear hb1
  have HE : Hid (beginE t h n free = 4) := by rw [Hid, beginE, if_neg (by rw [hg]; simp), if_pos (by omega)]
  have HTT : Hid (beginT t h n free = t) := by rw [Hid, beginT, HE.out]; rfl
  go_wp2
  refine bodyPost_ret (v := .tuple #[.agg #[.int .i64 t.seq, .slice a t.info.length c, .slice a' t.data.length c', .slice r t.rev.length d, .bool t.h0.on, .int .i64 t.h0.left, .bool t.h1.on, .int .i64 t.h1.left, .bool t.h2.on, .int .i64 t.h2.left], .int .i64 4]) (by simp [results, Try.results18, go_sem, y0, y1, y2, y3, y4, y5, y6, y7, y8, y9]) rfl ⟨_, by rw [HE.out], ?_⟩
  refine ⟨?_, ?_⟩
  · rw [HTT.out]
    refine HT.out.below ?_
    repeat refine Below.setCell ?_ (by simp) _
    exact HB1.out
  · repeat refine Below.setCell ?_ (by simp) _
    exact HB1.out

set_option maxHeartbeats 2000000 in
set_option maxRecDepth 100000 in
theorem beginTxn_high (v : Value) (t : Tx) (h n free : Int) (w : World) (hT : IsTx w v t) (r1 : t.info.length * 24 ≤ 140737488355328) (r2 : t.data.length * 24 ≤ 140737488355328) (hg : goodX t = true) (hw : 2 < h) :
    Calls Try.prog 18 #[v, .int .i64 h, .int .i64 n, .int .i64 free] w fun e w' => ∃ v2, e = .returned (.tuple #[v2, .int .i64 (beginE t h n free)]) ∧ IsTx w' v2 (beginT t h n free) ∧ Below w.heap.size w w' := by
  have HT := hide hT
  obtain ⟨a, c, a', c', r, d, rfl, hM, hD, hR, n1, n2, n3⟩ := hT
  have N1 := hide n1
  have N2 := hide n2
  have N3 := hide n3
  clear hM hD hR n1 n2 n3
  go_enter Try.func18, Try.ntmps18
  go_wp2_with fail
  refine (goodTxn_any _ t _ (HT.out.below (bthen (below1 _ _) (below1 _ _))) r1 r2).mono ?_
  rintro e w1 ⟨rfl, hb1⟩
  have hs1 : w.heap.size + 1 < w1.heap.size := by have := hb1.size; simp at this; omega
  have hs1' : w.heap.size < w1.heap.size := by omega
  have K1 := hide (two1 hb1)
  have K2 := hide (two2 hb1)
  obtain ⟨⟨x0, x1, x2, x3, x4, x5, x6, x7, x8, x9⟩, _⟩ := box10 K1.out
  obtain ⟨⟨y0, y1, y2, y3, y4, y5, y6, y7, y8, y9⟩, ff⟩ := box10 K2.out
  have HB1 := hide (bthen (bthen (below1 _ _) (below1 _ _)) hb1)
  clear hb1
  have HE : Hid (beginE t h n free = 4) := by rw [Hid, beginE, if_neg (by rw [hg]; simp), if_pos (by omega)]
  have HTT : Hid (beginT t h n free = t) := by rw [Hid, beginT, HE.out]; rfl
  have hw2 : ¬ h < 0 := by omega
  go_wp2
  refine bodyPost_ret (v := .tuple #[.agg #[.int .i64 t.seq, .slice a t.info.length c, .slice a' t.data.length c', .slice r t.rev.length d, .bool t.h0.on, .int .i64 t.h0.left, .bool t.h1.on, .int .i64 t.h1.left, .bool t.h2.on, .int .i64 t.h2.left], .int .i64 4]) (by simp [results, Try.results18, go_sem, y0, y1, y2, y3, y4, y5, y6, y7, y8, y9]) rfl ⟨_, by rw [HE.out], ?_⟩
  refine ⟨?_, ?_⟩
  · rw [HTT.out]
    refine HT.out.below ?_
    repeat refine Below.setCell ?_ (by simp) _
    exact HB1.out
  · repeat refine Below.setCell ?_ (by simp) _
    exact HB1.out

set_option maxHeartbeats 2000000 in
set_option maxRecDepth 100000 in
theorem beginTxn_on0 (v : Value) (t : Tx) (n free : Int) (w : World) (hT : IsTx w v t) (r1 : t.info.length * 24 ≤ 140737488355328) (r2 : t.data.length * 24 ≤ 140737488355328) (hg : goodX t = true) (ho : t.h0.on = true) :
    Calls Try.prog 18 #[v, .int .i64 0, .int .i64 n, .int .i64 free] w fun e w' => ∃ v2, e = .returned (.tuple #[v2, .int .i64 (beginE t 0 n free)]) ∧ IsTx w' v2 (beginT t 0 n free) ∧ Below w.heap.size w w' := by
  have HO := hide ho
  clear ho
  have HT := hide hT
  obtain ⟨a, c, a', c', r, d, rfl, hM, hD, hR, n1, n2, n3⟩ := hT
  have N1 := hide n1
  have N2 := hide n2
  have N3 := hide n3
  clear hM hD hR n1 n2 n3
  go_enter Try.func18, Try.ntmps18
  go_wp2_with fail
  refine (goodTxn_any _ t _ (HT.out.below (bthen (below1 _ _) (below1 _ _))) r1 r2).mono ?_
  rintro e w1 ⟨rfl, hb1⟩
  have hs1 : w.heap.size + 1 < w1.heap.size := by have := hb1.size; simp at this; omega
  have hs1' : w.heap.size < w1.heap.size := by omega
  have K1 := hide (two1 hb1)
  have K2 := hide (two2 hb1)
  obtain ⟨⟨x0, x1, x2, x3, x4, x5, x6, x7, x8, x9⟩, _⟩ := box10 K1.out
  obtain ⟨⟨y0, y1, y2, y3, y4, y5, y6, y7, y8, y9⟩, ff⟩ := box10 K2.out
  have HB1 := hide (bthen (bthen (below1 _ _) (below1 _ _)) hb1)
  clear hb1
  have ho := HO.out
  have HE : Hid (beginE t 0 n free = 5) := by rw [Hid, beginE, if_neg (by rw [hg]; simp), if_neg (by omega), show hdAt t 0 = t.h0 from rfl, if_pos ho]
  have HTT : Hid (beginT t 0 n free = t) := by rw [Hid, beginT, HE.out]; rfl
  go_wp2
  refine bodyPost_ret (v := .tuple #[.agg #[.int .i64 t.seq, .slice a t.info.length c, .slice a' t.data.length c', .slice r t.rev.length d, .bool t.h0.on, .int .i64 t.h0.left, .bool t.h1.on, .int .i64 t.h1.left, .bool t.h2.on, .int .i64 t.h2.left], .int .i64 5]) (by simp [results, Try.results18, go_sem, y0, y1, y2, y3, y4, y5, y6, y7, y8, y9, ho]) rfl ⟨_, by rw [HE.out], ?_⟩
  refine ⟨?_, ?_⟩
  · rw [HTT.out]
    refine HT.out.below ?_
    repeat refine Below.setCell ?_ (by simp) _
    exact HB1.out
  · repeat refine Below.setCell ?_ (by simp) _
    exact HB1.out

set_option maxHeartbeats 2000000 in
set_option maxRecDepth 100000 in
theorem beginTxn_off0 (v : Value) (t : Tx) (n free : Int) (w : World) (hT : IsTx w v t) (r1 : t.info.length * 24 ≤ 140737488355328) (r2 : t.data.length * 24 ≤ 140737488355328) (hg : goodX t = true) (ho : t.h0.on = false) :
    Calls Try.prog 18 #[v, .int .i64 0, .int .i64 n, .int .i64 free] w fun e w' => ∃ v2, e = .returned (.tuple #[v2, .int .i64 (beginE t 0 n free)]) ∧ IsTx w' v2 (beginT t 0 n free) ∧ Below w.heap.size w w' := by
  have hak := good_asked hg
  have HO := hide ho
  clear ho
  have HT := hide hT
  obtain ⟨a, c, a', c', r, d, rfl, hM, hD, hR, n1, n2, n3⟩ := hT
  have N1 := hide n1
  have N2 := hide n2
  have N3 := hide n3
  clear hM hD hR n1 n2 n3
  go_enter Try.func18, Try.ntmps18
  go_wp2_with fail
  refine (goodTxn_any _ t _ (HT.out.below (bthen (below1 _ _) (below1 _ _))) r1 r2).mono ?_
  rintro e w1 ⟨rfl, hb1⟩
  have hs1 : w.heap.size + 1 < w1.heap.size := by have := hb1.size; simp at this; omega
  have hs1' : w.heap.size < w1.heap.size := by omega
  have K1 := hide (two1 hb1)
  have K2 := hide (two2 hb1)
  obtain ⟨⟨x0, x1, x2, x3, x4, x5, x6, x7, x8, x9⟩, _⟩ := box10 K1.out
  obtain ⟨⟨y0, y1, y2, y3, y4, y5, y6, y7, y8, y9⟩, ff⟩ := box10 K2.out
  have HB1 := hide (bthen (bthen (below1 _ _) (below1 _ _)) hb1)
  clear hb1
  have ho := HO.out
  have NG : ¬ goodX t = false := by rw [hg]; simp
  have NO : ¬ (hdAt t 0).on = true := by rw [show hdAt t 0 = t.h0 from rfl, ho]; simp
  have HTo : Hid (IsTx w (.agg #[.int .i64 t.seq, .slice a t.info.length c, .slice a' t.data.length c', .slice r t.rev.length d, .bool false, .int .i64 t.h0.left, .bool t.h1.on, .int .i64 t.h1.left, .bool t.h2.on, .int .i64 t.h2.left]) t) := by have := HT.out; rw [ho] at this; exact this
  by_cases hn1 : n < 0
  · have HE : Hid (beginE t 0 n free = 2) := by rw [Hid, beginE, if_neg NG, if_neg (by omega), if_neg NO, if_pos (by omega)]
    have HTT : Hid (beginT t 0 n free = t) := by rw [Hid, beginT, HE.out]; rfl
    clear NG NO hak
    go_wp2
    refine bodyPost_ret (v := .tuple #[.agg #[.int .i64 t.seq, .slice a t.info.length c, .slice a' t.data.length c', .slice r t.rev.length d, .bool t.h0.on, .int .i64 t.h0.left, .bool t.h1.on, .int .i64 t.h1.left, .bool t.h2.on, .int .i64 t.h2.left], .int .i64 2]) (by simp [results, Try.results18, go_sem, y0, y1, y2, y3, y4, y5, y6, y7, y8, y9, ho]) rfl ⟨_, by rw [HE.out], ?_⟩
    refine ⟨?_, ?_⟩
    · rw [HTT.out]
      refine HT.out.below ?_
      repeat refine Below.setCell ?_ (by simp) _
      exact HB1.out
    · repeat refine Below.setCell ?_ (by simp) _
      exact HB1.out
  · by_cases hn2 : 12 < n
    · have HE : Hid (beginE t 0 n free = 2) := by rw [Hid, beginE, if_neg NG, if_neg (by omega), if_neg NO, if_pos (by omega)]
      have HTT : Hid (beginT t 0 n free = t) := by rw [Hid, beginT, HE.out]; rfl
      clear NG NO hak
      go_wp2
      refine bodyPost_ret (v := .tuple #[.agg #[.int .i64 t.seq, .slice a t.info.length c, .slice a' t.data.length c', .slice r t.rev.length d, .bool t.h0.on, .int .i64 t.h0.left, .bool t.h1.on, .int .i64 t.h1.left, .bool t.h2.on, .int .i64 t.h2.left], .int .i64 2]) (by simp [results, Try.results18, go_sem, y0, y1, y2, y3, y4, y5, y6, y7, y8, y9, ho]) rfl ⟨_, by rw [HE.out], ?_⟩
      refine ⟨?_, ?_⟩
      · rw [HTT.out]
        refine HT.out.below ?_
        repeat refine Below.setCell ?_ (by simp) _
        exact HB1.out
      · repeat refine Below.setCell ?_ (by simp) _
        exact HB1.out
    · have NN : ¬ (n < 0 ∨ 12 < n) := by omega
      go_wp2_with fail
      refine (askedOf_any _ t _ (HTo.out.below HB1.out)).mono ?_
      rintro e w2 ⟨rfl, hb2⟩
      have hs2 : w.heap.size + 1 < w2.heap.size := by have := hb2.size; omega
      have hs2' : w.heap.size < w2.heap.size := by omega
      have K1' := hide (boxKeep hb2 hs1' K1.out)
      have K2' := hide (boxKeep hb2 hs1 K2.out)
      have HB2 := hide (bthen HB1.out hb2)
      clear x0 x1 x2 x3 x4 x5 x6 x7 x8 x9 y0 y1 y2 y3 y4 y5 y6 y7 y8 y9 ff hb2 K1 K2 HB1
      obtain ⟨⟨x0, x1, x2, x3, x4, x5, x6, x7, x8, x9⟩, _⟩ := box10 K1'.out
      obtain ⟨⟨y0, y1, y2, y3, y4, y5, y6, y7, y8, y9⟩, ff⟩ := box10 K2'.out
      have gf : ∀ k, w2.frozen? ⟨w.heap.size, k, none⟩ = false := (box10 K1'.out).2
      have hlo := hak.2.1
      have hhi := hak.2.2
      have HE0 : Hid (beginE t 0 n free = if 24 < askedN t + n ∨ free < mostN (askedN t + n) then 6 else 0) := by rw [Hid, beginE, if_neg NG, if_neg (by omega), if_neg NO, if_neg NN]
      obtain ⟨q, hqq⟩ : ∃ q, q = askedN t := ⟨_, rfl⟩
      rw [← hqq] at HE0 hlo hhi
      rw [← hqq]
      clear hak NG NO NN hqq
      by_cases hr1 : 24 < q + n
      · have HE : Hid (beginE t 0 n free = 6) := by rw [Hid, HE0.out, if_pos (.inl hr1)]
        have HTT : Hid (beginT t 0 n free = t) := by rw [Hid, beginT, HE.out]; rfl
        clear HE0
        go_wp2
        refine bodyPost_ret (v := .tuple #[.agg #[.int .i64 t.seq, .slice a t.info.length c, .slice a' t.data.length c', .slice r t.rev.length d, .bool t.h0.on, .int .i64 t.h0.left, .bool t.h1.on, .int .i64 t.h1.left, .bool t.h2.on, .int .i64 t.h2.left], .int .i64 6]) (by simp [results, Try.results18, go_sem, y0, y1, y2, y3, y4, y5, y6, y7, y8, y9, ho]) rfl ⟨_, by rw [HE.out], ?_⟩
        refine ⟨?_, ?_⟩
        · rw [HTT.out]
          refine HT.out.below ?_
          repeat refine Below.setCell ?_ (by simp) _
          exact HB2.out
        · repeat refine Below.setCell ?_ (by simp) _
          exact HB2.out
      · have hmost := mostOf_any (q + n) w2
        obtain ⟨mq, hmq⟩ : ∃ mq, mq = mostN (q + n) := ⟨_, rfl⟩
        rw [← hmq] at hmost HE0
        clear hmq
        by_cases hr2 : free < mq
        · have HE : Hid (beginE t 0 n free = 6) := by rw [Hid, HE0.out, if_pos (.inr hr2)]
          have HTT : Hid (beginT t 0 n free = t) := by rw [Hid, beginT, HE.out]; rfl
          clear HE0
          go_wp2_with fail
          refine hmost.mono ?_
          rintro e w3 ⟨rfl, rfl⟩
          go_wp2
          refine bodyPost_ret (v := .tuple #[.agg #[.int .i64 t.seq, .slice a t.info.length c, .slice a' t.data.length c', .slice r t.rev.length d, .bool t.h0.on, .int .i64 t.h0.left, .bool t.h1.on, .int .i64 t.h1.left, .bool t.h2.on, .int .i64 t.h2.left], .int .i64 6]) (by simp [results, Try.results18, go_sem, y0, y1, y2, y3, y4, y5, y6, y7, y8, y9, ho]) rfl ⟨_, by rw [HE.out], ?_⟩
          refine ⟨?_, ?_⟩
          · rw [HTT.out]
            refine HT.out.below ?_
            repeat refine Below.setCell ?_ (by simp) _
            exact HB2.out
          · repeat refine Below.setCell ?_ (by simp) _
            exact HB2.out
        · have HE : Hid (beginE t 0 n free = 0) := by rw [Hid, HE0.out, if_neg (by omega)]
          have HTT : Hid (beginT t 0 n free = { t with h0 := ⟨true, n⟩ }) := by rw [Hid, beginT, HE.out]; rfl
          have HTX : Hid (IsTx w (.agg #[.int .i64 t.seq, .slice a t.info.length c, .slice a' t.data.length c', .slice r t.rev.length d, .bool true, .int .i64 n, .bool t.h1.on, .int .i64 t.h1.left, .bool t.h2.on, .int .i64 t.h2.left]) { t with h0 := ⟨true, n⟩ }) := is_hd HT.out { t with h0 := ⟨true, n⟩ } rfl rfl rfl rfl
          clear HE0
          go_wp2_with fail
          refine hmost.mono ?_
          rintro e w3 ⟨rfl, rfl⟩
          go_wp2
          refine bodyPost_ret (v := .tuple #[.agg #[.int .i64 t.seq, .slice a t.info.length c, .slice a' t.data.length c', .slice r t.rev.length d, .bool true, .int .i64 n, .bool t.h1.on, .int .i64 t.h1.left, .bool t.h2.on, .int .i64 t.h2.left], .int .i64 0]) (by simp [results, Try.results18, go_sem, y0, y1, y2, y3, y4, y5, y6, y7, y8, y9]) rfl ⟨_, by rw [HE.out], ?_⟩
          rw [HTT.out]
          refine ⟨?_, ?_⟩
          · refine (HTX.out).below ?_
            repeat refine Below.setCell ?_ (by simp) _
            exact HB2.out
          · repeat refine Below.setCell ?_ (by simp) _
            exact HB2.out

set_option maxHeartbeats 2000000 in
set_option maxRecDepth 100000 in
theorem beginTxn_on1 (v : Value) (t : Tx) (n free : Int) (w : World) (hT : IsTx w v t) (r1 : t.info.length * 24 ≤ 140737488355328) (r2 : t.data.length * 24 ≤ 140737488355328) (hg : goodX t = true) (ho : t.h1.on = true) :
    Calls Try.prog 18 #[v, .int .i64 1, .int .i64 n, .int .i64 free] w fun e w' => ∃ v2, e = .returned (.tuple #[v2, .int .i64 (beginE t 1 n free)]) ∧ IsTx w' v2 (beginT t 1 n free) ∧ Below w.heap.size w w' := by
  have HO := hide ho
  clear ho
  have HT := hide hT
  obtain ⟨a, c, a', c', r, d, rfl, hM, hD, hR, n1, n2, n3⟩ := hT
  have N1 := hide n1
  have N2 := hide n2
  have N3 := hide n3
  clear hM hD hR n1 n2 n3
  go_enter Try.func18, Try.ntmps18
  go_wp2_with fail
  refine (goodTxn_any _ t _ (HT.out.below (bthen (below1 _ _) (below1 _ _))) r1 r2).mono ?_
  rintro e w1 ⟨rfl, hb1⟩
  have hs1 : w.heap.size + 1 < w1.heap.size := by have := hb1.size; simp at this; omega
  have hs1' : w.heap.size < w1.heap.size := by omega
  have K1 := hide (two1 hb1)
  have K2 := hide (two2 hb1)
  obtain ⟨⟨x0, x1, x2, x3, x4, x5, x6, x7, x8, x9⟩, _⟩ := box10 K1.out
  obtain ⟨⟨y0, y1, y2, y3, y4, y5, y6, y7, y8, y9⟩, ff⟩ := box10 K2.out
  have HB1 := hide (bthen (bthen (below1 _ _) (below1 _ _)) hb1)
  clear hb1
  have ho := HO.out
  have HE : Hid (beginE t 1 n free = 5) := by rw [Hid, beginE, if_neg (by rw [hg]; simp), if_neg (by omega), show hdAt t 1 = t.h1 from rfl, if_pos ho]
  have HTT : Hid (beginT t 1 n free = t) := by rw [Hid, beginT, HE.out]; rfl
  go_wp2
  refine bodyPost_ret (v := .tuple #[.agg #[.int .i64 t.seq, .slice a t.info.length c, .slice a' t.data.length c', .slice r t.rev.length d, .bool t.h0.on, .int .i64 t.h0.left, .bool t.h1.on, .int .i64 t.h1.left, .bool t.h2.on, .int .i64 t.h2.left], .int .i64 5]) (by simp [results, Try.results18, go_sem, y0, y1, y2, y3, y4, y5, y6, y7, y8, y9, ho]) rfl ⟨_, by rw [HE.out], ?_⟩
  refine ⟨?_, ?_⟩
  · rw [HTT.out]
    refine HT.out.below ?_
    repeat refine Below.setCell ?_ (by simp) _
    exact HB1.out
  · repeat refine Below.setCell ?_ (by simp) _
    exact HB1.out

set_option maxHeartbeats 2000000 in
set_option maxRecDepth 100000 in
theorem beginTxn_off1 (v : Value) (t : Tx) (n free : Int) (w : World) (hT : IsTx w v t) (r1 : t.info.length * 24 ≤ 140737488355328) (r2 : t.data.length * 24 ≤ 140737488355328) (hg : goodX t = true) (ho : t.h1.on = false) :
    Calls Try.prog 18 #[v, .int .i64 1, .int .i64 n, .int .i64 free] w fun e w' => ∃ v2, e = .returned (.tuple #[v2, .int .i64 (beginE t 1 n free)]) ∧ IsTx w' v2 (beginT t 1 n free) ∧ Below w.heap.size w w' := by
  have hak := good_asked hg
  have HO := hide ho
  clear ho
  have HT := hide hT
  obtain ⟨a, c, a', c', r, d, rfl, hM, hD, hR, n1, n2, n3⟩ := hT
  have N1 := hide n1
  have N2 := hide n2
  have N3 := hide n3
  clear hM hD hR n1 n2 n3
  go_enter Try.func18, Try.ntmps18
  go_wp2_with fail
  refine (goodTxn_any _ t _ (HT.out.below (bthen (below1 _ _) (below1 _ _))) r1 r2).mono ?_
  rintro e w1 ⟨rfl, hb1⟩
  have hs1 : w.heap.size + 1 < w1.heap.size := by have := hb1.size; simp at this; omega
  have hs1' : w.heap.size < w1.heap.size := by omega
  have K1 := hide (two1 hb1)
  have K2 := hide (two2 hb1)
  obtain ⟨⟨x0, x1, x2, x3, x4, x5, x6, x7, x8, x9⟩, _⟩ := box10 K1.out
  obtain ⟨⟨y0, y1, y2, y3, y4, y5, y6, y7, y8, y9⟩, ff⟩ := box10 K2.out
  have HB1 := hide (bthen (bthen (below1 _ _) (below1 _ _)) hb1)
  clear hb1
  have ho := HO.out
  have NG : ¬ goodX t = false := by rw [hg]; simp
  have NO : ¬ (hdAt t 1).on = true := by rw [show hdAt t 1 = t.h1 from rfl, ho]; simp
  have HTo : Hid (IsTx w (.agg #[.int .i64 t.seq, .slice a t.info.length c, .slice a' t.data.length c', .slice r t.rev.length d, .bool t.h0.on, .int .i64 t.h0.left, .bool false, .int .i64 t.h1.left, .bool t.h2.on, .int .i64 t.h2.left]) t) := by have := HT.out; rw [ho] at this; exact this
  by_cases hn1 : n < 0
  · have HE : Hid (beginE t 1 n free = 2) := by rw [Hid, beginE, if_neg NG, if_neg (by omega), if_neg NO, if_pos (by omega)]
    have HTT : Hid (beginT t 1 n free = t) := by rw [Hid, beginT, HE.out]; rfl
    clear NG NO hak
    go_wp2
    refine bodyPost_ret (v := .tuple #[.agg #[.int .i64 t.seq, .slice a t.info.length c, .slice a' t.data.length c', .slice r t.rev.length d, .bool t.h0.on, .int .i64 t.h0.left, .bool t.h1.on, .int .i64 t.h1.left, .bool t.h2.on, .int .i64 t.h2.left], .int .i64 2]) (by simp [results, Try.results18, go_sem, y0, y1, y2, y3, y4, y5, y6, y7, y8, y9, ho]) rfl ⟨_, by rw [HE.out], ?_⟩
    refine ⟨?_, ?_⟩
    · rw [HTT.out]
      refine HT.out.below ?_
      repeat refine Below.setCell ?_ (by simp) _
      exact HB1.out
    · repeat refine Below.setCell ?_ (by simp) _
      exact HB1.out
  · by_cases hn2 : 12 < n
    · have HE : Hid (beginE t 1 n free = 2) := by rw [Hid, beginE, if_neg NG, if_neg (by omega), if_neg NO, if_pos (by omega)]
      have HTT : Hid (beginT t 1 n free = t) := by rw [Hid, beginT, HE.out]; rfl
      clear NG NO hak
      go_wp2
      refine bodyPost_ret (v := .tuple #[.agg #[.int .i64 t.seq, .slice a t.info.length c, .slice a' t.data.length c', .slice r t.rev.length d, .bool t.h0.on, .int .i64 t.h0.left, .bool t.h1.on, .int .i64 t.h1.left, .bool t.h2.on, .int .i64 t.h2.left], .int .i64 2]) (by simp [results, Try.results18, go_sem, y0, y1, y2, y3, y4, y5, y6, y7, y8, y9, ho]) rfl ⟨_, by rw [HE.out], ?_⟩
      refine ⟨?_, ?_⟩
      · rw [HTT.out]
        refine HT.out.below ?_
        repeat refine Below.setCell ?_ (by simp) _
        exact HB1.out
      · repeat refine Below.setCell ?_ (by simp) _
        exact HB1.out
    · have NN : ¬ (n < 0 ∨ 12 < n) := by omega
      go_wp2_with fail
      refine (askedOf_any _ t _ (HTo.out.below HB1.out)).mono ?_
      rintro e w2 ⟨rfl, hb2⟩
      have hs2 : w.heap.size + 1 < w2.heap.size := by have := hb2.size; omega
      have hs2' : w.heap.size < w2.heap.size := by omega
      have K1' := hide (boxKeep hb2 hs1' K1.out)
      have K2' := hide (boxKeep hb2 hs1 K2.out)
      have HB2 := hide (bthen HB1.out hb2)
      clear x0 x1 x2 x3 x4 x5 x6 x7 x8 x9 y0 y1 y2 y3 y4 y5 y6 y7 y8 y9 ff hb2 K1 K2 HB1
      obtain ⟨⟨x0, x1, x2, x3, x4, x5, x6, x7, x8, x9⟩, _⟩ := box10 K1'.out
      obtain ⟨⟨y0, y1, y2, y3, y4, y5, y6, y7, y8, y9⟩, ff⟩ := box10 K2'.out
      have gf : ∀ k, w2.frozen? ⟨w.heap.size, k, none⟩ = false := (box10 K1'.out).2
      have hlo := hak.2.1
      have hhi := hak.2.2
      have HE0 : Hid (beginE t 1 n free = if 24 < askedN t + n ∨ free < mostN (askedN t + n) then 6 else 0) := by rw [Hid, beginE, if_neg NG, if_neg (by omega), if_neg NO, if_neg NN]
      obtain ⟨q, hqq⟩ : ∃ q, q = askedN t := ⟨_, rfl⟩
      rw [← hqq] at HE0 hlo hhi
      rw [← hqq]
      clear hak NG NO NN hqq
      by_cases hr1 : 24 < q + n
      · have HE : Hid (beginE t 1 n free = 6) := by rw [Hid, HE0.out, if_pos (.inl hr1)]
        have HTT : Hid (beginT t 1 n free = t) := by rw [Hid, beginT, HE.out]; rfl
        clear HE0
        go_wp2
        refine bodyPost_ret (v := .tuple #[.agg #[.int .i64 t.seq, .slice a t.info.length c, .slice a' t.data.length c', .slice r t.rev.length d, .bool t.h0.on, .int .i64 t.h0.left, .bool t.h1.on, .int .i64 t.h1.left, .bool t.h2.on, .int .i64 t.h2.left], .int .i64 6]) (by simp [results, Try.results18, go_sem, y0, y1, y2, y3, y4, y5, y6, y7, y8, y9, ho]) rfl ⟨_, by rw [HE.out], ?_⟩
        refine ⟨?_, ?_⟩
        · rw [HTT.out]
          refine HT.out.below ?_
          repeat refine Below.setCell ?_ (by simp) _
          exact HB2.out
        · repeat refine Below.setCell ?_ (by simp) _
          exact HB2.out
      · have hmost := mostOf_any (q + n) w2
        obtain ⟨mq, hmq⟩ : ∃ mq, mq = mostN (q + n) := ⟨_, rfl⟩
        rw [← hmq] at hmost HE0
        clear hmq
        by_cases hr2 : free < mq
        · have HE : Hid (beginE t 1 n free = 6) := by rw [Hid, HE0.out, if_pos (.inr hr2)]
          have HTT : Hid (beginT t 1 n free = t) := by rw [Hid, beginT, HE.out]; rfl
          clear HE0
          go_wp2_with fail
          refine hmost.mono ?_
          rintro e w3 ⟨rfl, rfl⟩
          go_wp2
          refine bodyPost_ret (v := .tuple #[.agg #[.int .i64 t.seq, .slice a t.info.length c, .slice a' t.data.length c', .slice r t.rev.length d, .bool t.h0.on, .int .i64 t.h0.left, .bool t.h1.on, .int .i64 t.h1.left, .bool t.h2.on, .int .i64 t.h2.left], .int .i64 6]) (by simp [results, Try.results18, go_sem, y0, y1, y2, y3, y4, y5, y6, y7, y8, y9, ho]) rfl ⟨_, by rw [HE.out], ?_⟩
          refine ⟨?_, ?_⟩
          · rw [HTT.out]
            refine HT.out.below ?_
            repeat refine Below.setCell ?_ (by simp) _
            exact HB2.out
          · repeat refine Below.setCell ?_ (by simp) _
            exact HB2.out
        · have HE : Hid (beginE t 1 n free = 0) := by rw [Hid, HE0.out, if_neg (by omega)]
          have HTT : Hid (beginT t 1 n free = { t with h1 := ⟨true, n⟩ }) := by rw [Hid, beginT, HE.out]; rfl
          have HTX : Hid (IsTx w (.agg #[.int .i64 t.seq, .slice a t.info.length c, .slice a' t.data.length c', .slice r t.rev.length d, .bool t.h0.on, .int .i64 t.h0.left, .bool true, .int .i64 n, .bool t.h2.on, .int .i64 t.h2.left]) { t with h1 := ⟨true, n⟩ }) := is_hd HT.out { t with h1 := ⟨true, n⟩ } rfl rfl rfl rfl
          clear HE0
          go_wp2_with fail
          refine hmost.mono ?_
          rintro e w3 ⟨rfl, rfl⟩
          go_wp2
          refine bodyPost_ret (v := .tuple #[.agg #[.int .i64 t.seq, .slice a t.info.length c, .slice a' t.data.length c', .slice r t.rev.length d, .bool t.h0.on, .int .i64 t.h0.left, .bool true, .int .i64 n, .bool t.h2.on, .int .i64 t.h2.left], .int .i64 0]) (by simp [results, Try.results18, go_sem, y0, y1, y2, y3, y4, y5, y6, y7, y8, y9]) rfl ⟨_, by rw [HE.out], ?_⟩
          rw [HTT.out]
          refine ⟨?_, ?_⟩
          · refine (HTX.out).below ?_
            repeat refine Below.setCell ?_ (by simp) _
            exact HB2.out
          · repeat refine Below.setCell ?_ (by simp) _
            exact HB2.out

set_option maxHeartbeats 2000000 in
set_option maxRecDepth 100000 in
theorem beginTxn_on2 (v : Value) (t : Tx) (n free : Int) (w : World) (hT : IsTx w v t) (r1 : t.info.length * 24 ≤ 140737488355328) (r2 : t.data.length * 24 ≤ 140737488355328) (hg : goodX t = true) (ho : t.h2.on = true) :
    Calls Try.prog 18 #[v, .int .i64 2, .int .i64 n, .int .i64 free] w fun e w' => ∃ v2, e = .returned (.tuple #[v2, .int .i64 (beginE t 2 n free)]) ∧ IsTx w' v2 (beginT t 2 n free) ∧ Below w.heap.size w w' := by
  have HO := hide ho
  clear ho
  have HT := hide hT
  obtain ⟨a, c, a', c', r, d, rfl, hM, hD, hR, n1, n2, n3⟩ := hT
  have N1 := hide n1
  have N2 := hide n2
  have N3 := hide n3
  clear hM hD hR n1 n2 n3
  go_enter Try.func18, Try.ntmps18
  go_wp2_with fail
  refine (goodTxn_any _ t _ (HT.out.below (bthen (below1 _ _) (below1 _ _))) r1 r2).mono ?_
  rintro e w1 ⟨rfl, hb1⟩
  have hs1 : w.heap.size + 1 < w1.heap.size := by have := hb1.size; simp at this; omega
  have hs1' : w.heap.size < w1.heap.size := by omega
  have K1 := hide (two1 hb1)
  have K2 := hide (two2 hb1)
  obtain ⟨⟨x0, x1, x2, x3, x4, x5, x6, x7, x8, x9⟩, _⟩ := box10 K1.out
  obtain ⟨⟨y0, y1, y2, y3, y4, y5, y6, y7, y8, y9⟩, ff⟩ := box10 K2.out
  have HB1 := hide (bthen (bthen (below1 _ _) (below1 _ _)) hb1)
  clear hb1
  have ho := HO.out
  have HE : Hid (beginE t 2 n free = 5) := by rw [Hid, beginE, if_neg (by rw [hg]; simp), if_neg (by omega), show hdAt t 2 = t.h2 from rfl, if_pos ho]
  have HTT : Hid (beginT t 2 n free = t) := by rw [Hid, beginT, HE.out]; rfl
  go_wp2
  refine bodyPost_ret (v := .tuple #[.agg #[.int .i64 t.seq, .slice a t.info.length c, .slice a' t.data.length c', .slice r t.rev.length d, .bool t.h0.on, .int .i64 t.h0.left, .bool t.h1.on, .int .i64 t.h1.left, .bool t.h2.on, .int .i64 t.h2.left], .int .i64 5]) (by simp [results, Try.results18, go_sem, y0, y1, y2, y3, y4, y5, y6, y7, y8, y9, ho]) rfl ⟨_, by rw [HE.out], ?_⟩
  refine ⟨?_, ?_⟩
  · rw [HTT.out]
    refine HT.out.below ?_
    repeat refine Below.setCell ?_ (by simp) _
    exact HB1.out
  · repeat refine Below.setCell ?_ (by simp) _
    exact HB1.out

set_option maxHeartbeats 2000000 in
set_option maxRecDepth 100000 in
theorem beginTxn_off2 (v : Value) (t : Tx) (n free : Int) (w : World) (hT : IsTx w v t) (r1 : t.info.length * 24 ≤ 140737488355328) (r2 : t.data.length * 24 ≤ 140737488355328) (hg : goodX t = true) (ho : t.h2.on = false) :
    Calls Try.prog 18 #[v, .int .i64 2, .int .i64 n, .int .i64 free] w fun e w' => ∃ v2, e = .returned (.tuple #[v2, .int .i64 (beginE t 2 n free)]) ∧ IsTx w' v2 (beginT t 2 n free) ∧ Below w.heap.size w w' := by
  have hak := good_asked hg
  have HO := hide ho
  clear ho
  have HT := hide hT
  obtain ⟨a, c, a', c', r, d, rfl, hM, hD, hR, n1, n2, n3⟩ := hT
  have N1 := hide n1
  have N2 := hide n2
  have N3 := hide n3
  clear hM hD hR n1 n2 n3
  go_enter Try.func18, Try.ntmps18
  go_wp2_with fail
  refine (goodTxn_any _ t _ (HT.out.below (bthen (below1 _ _) (below1 _ _))) r1 r2).mono ?_
  rintro e w1 ⟨rfl, hb1⟩
  have hs1 : w.heap.size + 1 < w1.heap.size := by have := hb1.size; simp at this; omega
  have hs1' : w.heap.size < w1.heap.size := by omega
  have K1 := hide (two1 hb1)
  have K2 := hide (two2 hb1)
  obtain ⟨⟨x0, x1, x2, x3, x4, x5, x6, x7, x8, x9⟩, _⟩ := box10 K1.out
  obtain ⟨⟨y0, y1, y2, y3, y4, y5, y6, y7, y8, y9⟩, ff⟩ := box10 K2.out
  have HB1 := hide (bthen (bthen (below1 _ _) (below1 _ _)) hb1)
  clear hb1
  have ho := HO.out
  have NG : ¬ goodX t = false := by rw [hg]; simp
  have NO : ¬ (hdAt t 2).on = true := by rw [show hdAt t 2 = t.h2 from rfl, ho]; simp
  have HTo : Hid (IsTx w (.agg #[.int .i64 t.seq, .slice a t.info.length c, .slice a' t.data.length c', .slice r t.rev.length d, .bool t.h0.on, .int .i64 t.h0.left, .bool t.h1.on, .int .i64 t.h1.left, .bool false, .int .i64 t.h2.left]) t) := by have := HT.out; rw [ho] at this; exact this
  by_cases hn1 : n < 0
  · have HE : Hid (beginE t 2 n free = 2) := by rw [Hid, beginE, if_neg NG, if_neg (by omega), if_neg NO, if_pos (by omega)]
    have HTT : Hid (beginT t 2 n free = t) := by rw [Hid, beginT, HE.out]; rfl
    clear NG NO hak
    go_wp2
    refine bodyPost_ret (v := .tuple #[.agg #[.int .i64 t.seq, .slice a t.info.length c, .slice a' t.data.length c', .slice r t.rev.length d, .bool t.h0.on, .int .i64 t.h0.left, .bool t.h1.on, .int .i64 t.h1.left, .bool t.h2.on, .int .i64 t.h2.left], .int .i64 2]) (by simp [results, Try.results18, go_sem, y0, y1, y2, y3, y4, y5, y6, y7, y8, y9, ho]) rfl ⟨_, by rw [HE.out], ?_⟩
    refine ⟨?_, ?_⟩
    · rw [HTT.out]
      refine HT.out.below ?_
      repeat refine Below.setCell ?_ (by simp) _
      exact HB1.out
    · repeat refine Below.setCell ?_ (by simp) _
      exact HB1.out
  · by_cases hn2 : 12 < n
    · have HE : Hid (beginE t 2 n free = 2) := by rw [Hid, beginE, if_neg NG, if_neg (by omega), if_neg NO, if_pos (by omega)]
      have HTT : Hid (beginT t 2 n free = t) := by rw [Hid, beginT, HE.out]; rfl
      clear NG NO hak
      go_wp2
      refine bodyPost_ret (v := .tuple #[.agg #[.int .i64 t.seq, .slice a t.info.length c, .slice a' t.data.length c', .slice r t.rev.length d, .bool t.h0.on, .int .i64 t.h0.left, .bool t.h1.on, .int .i64 t.h1.left, .bool t.h2.on, .int .i64 t.h2.left], .int .i64 2]) (by simp [results, Try.results18, go_sem, y0, y1, y2, y3, y4, y5, y6, y7, y8, y9, ho]) rfl ⟨_, by rw [HE.out], ?_⟩
      refine ⟨?_, ?_⟩
      · rw [HTT.out]
        refine HT.out.below ?_
        repeat refine Below.setCell ?_ (by simp) _
        exact HB1.out
      · repeat refine Below.setCell ?_ (by simp) _
        exact HB1.out
    · have NN : ¬ (n < 0 ∨ 12 < n) := by omega
      go_wp2_with fail
      refine (askedOf_any _ t _ (HTo.out.below HB1.out)).mono ?_
      rintro e w2 ⟨rfl, hb2⟩
      have hs2 : w.heap.size + 1 < w2.heap.size := by have := hb2.size; omega
      have hs2' : w.heap.size < w2.heap.size := by omega
      have K1' := hide (boxKeep hb2 hs1' K1.out)
      have K2' := hide (boxKeep hb2 hs1 K2.out)
      have HB2 := hide (bthen HB1.out hb2)
      clear x0 x1 x2 x3 x4 x5 x6 x7 x8 x9 y0 y1 y2 y3 y4 y5 y6 y7 y8 y9 ff hb2 K1 K2 HB1
      obtain ⟨⟨x0, x1, x2, x3, x4, x5, x6, x7, x8, x9⟩, _⟩ := box10 K1'.out
      obtain ⟨⟨y0, y1, y2, y3, y4, y5, y6, y7, y8, y9⟩, ff⟩ := box10 K2'.out
      have gf : ∀ k, w2.frozen? ⟨w.heap.size, k, none⟩ = false := (box10 K1'.out).2
      have hlo := hak.2.1
      have hhi := hak.2.2
      have HE0 : Hid (beginE t 2 n free = if 24 < askedN t + n ∨ free < mostN (askedN t + n) then 6 else 0) := by rw [Hid, beginE, if_neg NG, if_neg (by omega), if_neg NO, if_neg NN]
      obtain ⟨q, hqq⟩ : ∃ q, q = askedN t := ⟨_, rfl⟩
      rw [← hqq] at HE0 hlo hhi
      rw [← hqq]
      clear hak NG NO NN hqq
      by_cases hr1 : 24 < q + n
      · have HE : Hid (beginE t 2 n free = 6) := by rw [Hid, HE0.out, if_pos (.inl hr1)]
        have HTT : Hid (beginT t 2 n free = t) := by rw [Hid, beginT, HE.out]; rfl
        clear HE0
        go_wp2
        refine bodyPost_ret (v := .tuple #[.agg #[.int .i64 t.seq, .slice a t.info.length c, .slice a' t.data.length c', .slice r t.rev.length d, .bool t.h0.on, .int .i64 t.h0.left, .bool t.h1.on, .int .i64 t.h1.left, .bool t.h2.on, .int .i64 t.h2.left], .int .i64 6]) (by simp [results, Try.results18, go_sem, y0, y1, y2, y3, y4, y5, y6, y7, y8, y9, ho]) rfl ⟨_, by rw [HE.out], ?_⟩
        refine ⟨?_, ?_⟩
        · rw [HTT.out]
          refine HT.out.below ?_
          repeat refine Below.setCell ?_ (by simp) _
          exact HB2.out
        · repeat refine Below.setCell ?_ (by simp) _
          exact HB2.out
      · have hmost := mostOf_any (q + n) w2
        obtain ⟨mq, hmq⟩ : ∃ mq, mq = mostN (q + n) := ⟨_, rfl⟩
        rw [← hmq] at hmost HE0
        clear hmq
        by_cases hr2 : free < mq
        · have HE : Hid (beginE t 2 n free = 6) := by rw [Hid, HE0.out, if_pos (.inr hr2)]
          have HTT : Hid (beginT t 2 n free = t) := by rw [Hid, beginT, HE.out]; rfl
          clear HE0
          go_wp2_with fail
          refine hmost.mono ?_
          rintro e w3 ⟨rfl, rfl⟩
          go_wp2
          refine bodyPost_ret (v := .tuple #[.agg #[.int .i64 t.seq, .slice a t.info.length c, .slice a' t.data.length c', .slice r t.rev.length d, .bool t.h0.on, .int .i64 t.h0.left, .bool t.h1.on, .int .i64 t.h1.left, .bool t.h2.on, .int .i64 t.h2.left], .int .i64 6]) (by simp [results, Try.results18, go_sem, y0, y1, y2, y3, y4, y5, y6, y7, y8, y9, ho]) rfl ⟨_, by rw [HE.out], ?_⟩
          refine ⟨?_, ?_⟩
          · rw [HTT.out]
            refine HT.out.below ?_
            repeat refine Below.setCell ?_ (by simp) _
            exact HB2.out
          · repeat refine Below.setCell ?_ (by simp) _
            exact HB2.out
        · have HE : Hid (beginE t 2 n free = 0) := by rw [Hid, HE0.out, if_neg (by omega)]
          have HTT : Hid (beginT t 2 n free = { t with h2 := ⟨true, n⟩ }) := by rw [Hid, beginT, HE.out]; rfl
          have HTX : Hid (IsTx w (.agg #[.int .i64 t.seq, .slice a t.info.length c, .slice a' t.data.length c', .slice r t.rev.length d, .bool t.h0.on, .int .i64 t.h0.left, .bool t.h1.on, .int .i64 t.h1.left, .bool true, .int .i64 n]) { t with h2 := ⟨true, n⟩ }) := is_hd HT.out { t with h2 := ⟨true, n⟩ } rfl rfl rfl rfl
          clear HE0
          go_wp2_with fail
          refine hmost.mono ?_
          rintro e w3 ⟨rfl, rfl⟩
          go_wp2
          refine bodyPost_ret (v := .tuple #[.agg #[.int .i64 t.seq, .slice a t.info.length c, .slice a' t.data.length c', .slice r t.rev.length d, .bool t.h0.on, .int .i64 t.h0.left, .bool t.h1.on, .int .i64 t.h1.left, .bool true, .int .i64 n], .int .i64 0]) (by simp [results, Try.results18, go_sem, y0, y1, y2, y3, y4, y5, y6, y7, y8, y9]) rfl ⟨_, by rw [HE.out], ?_⟩
          rw [HTT.out]
          refine ⟨?_, ?_⟩
          · refine (HTX.out).below ?_
            repeat refine Below.setCell ?_ (by simp) _
            exact HB2.out
          · repeat refine Below.setCell ?_ (by simp) _
            exact HB2.out

set_option maxHeartbeats 2000000 in
set_option maxRecDepth 100000 in
theorem beginTxn_any (v : Value) (t : Tx) (h n free : Int) (w : World) (hT : IsTx w v t) (r1 : t.info.length * 24 ≤ 140737488355328) (r2 : t.data.length * 24 ≤ 140737488355328) :
    Calls Try.prog 18 #[v, .int .i64 h, .int .i64 n, .int .i64 free] w fun e w' => ∃ v2, e = .returned (.tuple #[v2, .int .i64 (beginE t h n free)]) ∧ IsTx w' v2 (beginT t h n free) ∧ Below w.heap.size w w' := by
  cases hg : goodX t with
  | false => exact beginTxn_bad v t h n free w hT r1 r2 hg
  | true =>
    by_cases h1 : h < 0
    · exact beginTxn_low v t h n free w hT r1 r2 hg h1
    · by_cases h2 : 2 < h
      · exact beginTxn_high v t h n free w hT r1 r2 hg h2
      · have hc : h = 0 ∨ h = 1 ∨ h = 2 := by omega
        rcases hc with rfl | rfl | rfl
        · cases ho : t.h0.on with
          | true => exact beginTxn_on0 v t n free w hT r1 r2 hg ho
          | false => exact beginTxn_off0 v t n free w hT r1 r2 hg ho
        · cases ho : t.h1.on with
          | true => exact beginTxn_on1 v t n free w hT r1 r2 hg ho
          | false => exact beginTxn_off1 v t n free w hT r1 r2 hg ho
        · cases ho : t.h2.on with
          | true => exact beginTxn_on2 v t n free w hT r1 r2 hg ho
          | false => exact beginTxn_off2 v t n free w hT r1 r2 hg ho

set_option maxHeartbeats 2000000 in
set_option maxRecDepth 100000 in
theorem stopTxn_bad (v : Value) (t : Tx) (h : Int) (w : World) (hT : IsTx w v t) (r1 : t.info.length * 24 ≤ 140737488355328) (r2 : t.data.length * 24 ≤ 140737488355328) (hg : goodX t = false) :
    Calls Try.prog 20 #[v, .int .i64 h] w fun e w' => ∃ v2, e = .returned (.tuple #[v2, .int .i64 (stopE t h)]) ∧ IsTx w' v2 (stopT t h) ∧ Below w.heap.size w w' := by
  have HT := hide hT
  obtain ⟨a, c, a', c', r, d, rfl, hM, hD, hR, n1, n2, n3⟩ := hT
  have N1 := hide n1
  have N2 := hide n2
  have N3 := hide n3
  clear hM hD hR n1 n2 n3
  go_enter Try.func20, Try.ntmps20
  go_wp2_with fail
  refine (goodTxn_any _ t _ (HT.out.below (bthen (below1 _ _) (below1 _ _))) r1 r2).mono ?_
  rintro e w1 ⟨rfl, hb1⟩
  have hs1 : w.heap.size + 1 < w1.heap.size := by have := hb1.size; simp at this; omega
  have hs1' : w.heap.size < w1.heap.size := by omega
  have K1 := hide (two1 hb1)
  have K2 := hide (two2 hb1)
  obtain ⟨⟨x0, x1, x2, x3, x4, x5, x6, x7, x8, x9⟩, _⟩ := box10 K1.out
  obtain ⟨⟨y0, y1, y2, y3, y4, y5, y6, y7, y8, y9⟩, ff⟩ := box10 K2.out
  have HB1 := hide (bthen (bthen (below1 _ _) (below1 _ _)) hb1)
  clear hb1
  have HE : Hid (stopE t h = 2) := by rw [Hid, stopE, if_pos hg]
  have HTT : Hid (stopT t h = t) := by rw [Hid, stopT, HE.out]; rfl
  go_wp2
  refine bodyPost_ret (v := .tuple #[.agg #[.int .i64 t.seq, .slice a t.info.length c, .slice a' t.data.length c', .slice r t.rev.length d, .bool t.h0.on, .int .i64 t.h0.left, .bool t.h1.on, .int .i64 t.h1.left, .bool t.h2.on, .int .i64 t.h2.left], .int .i64 2]) (by simp [results, Try.results20, go_sem, y0, y1, y2, y3, y4, y5, y6, y7, y8, y9]) rfl ⟨_, by rw [HE.out], ?_⟩
  refine ⟨?_, ?_⟩
  · rw [HTT.out]
    refine HT.out.below ?_
    repeat refine Below.setCell ?_ (by simp) _
    exact HB1.out
  · repeat refine Below.setCell ?_ (by simp) _
    exact HB1.out

set_option maxHeartbeats 2000000 in
set_option maxRecDepth 100000 in
theorem stopTxn_low (v : Value) (t : Tx) (h : Int) (w : World) (hT : IsTx w v t) (r1 : t.info.length * 24 ≤ 140737488355328) (r2 : t.data.length * 24 ≤ 140737488355328) (hg : goodX t = true) (hw : h < 0) :
    Calls Try.prog 20 #[v, .int .i64 h] w fun e w' => ∃ v2, e = .returned (.tuple #[v2, .int .i64 (stopE t h)]) ∧ IsTx w' v2 (stopT t h) ∧ Below w.heap.size w w' := by
  have HT := hide hT
  obtain ⟨a, c, a', c', r, d, rfl, hM, hD, hR, n1, n2, n3⟩ := hT
  have N1 := hide n1
  have N2 := hide n2
  have N3 := hide n3
  clear hM hD hR n1 n2 n3
  go_enter Try.func20, Try.ntmps20
  go_wp2_with fail
  refine (goodTxn_any _ t _ (HT.out.below (bthen (below1 _ _) (below1 _ _))) r1 r2).mono ?_
  rintro e w1 ⟨rfl, hb1⟩
  have hs1 : w.heap.size + 1 < w1.heap.size := by have := hb1.size; simp at this; omega
  have hs1' : w.heap.size < w1.heap.size := by omega
  have K1 := hide (two1 hb1)
  have K2 := hide (two2 hb1)
  obtain ⟨⟨x0, x1, x2, x3, x4, x5, x6, x7, x8, x9⟩, _⟩ := box10 K1.out
  obtain ⟨⟨y0, y1, y2, y3, y4, y5, y6, y7, y8, y9⟩, ff⟩ := box10 K2.out
  have HB1 := hide (bthen (bthen (below1 _ _) (below1 _ _)) hb1)
  clear hb1
  have HE : Hid (stopE t h = 4) := by rw [Hid, stopE, if_neg (by rw [hg]; simp), if_pos (by omega)]
  have HTT : Hid (stopT t h = t) := by rw [Hid, stopT, HE.out]; rfl
  go_wp2
  refine bodyPost_ret (v := .tuple #[.agg #[.int .i64 t.seq, .slice a t.info.length c, .slice a' t.data.length c', .slice r t.rev.length d, .bool t.h0.on, .int .i64 t.h0.left, .bool t.h1.on, .int .i64 t.h1.left, .bool t.h2.on, .int .i64 t.h2.left], .int .i64 4]) (by simp [results, Try.results20, go_sem, y0, y1, y2, y3, y4, y5, y6, y7, y8, y9]) rfl ⟨_, by rw [HE.out], ?_⟩
  refine ⟨?_, ?_⟩
  · rw [HTT.out]
    refine HT.out.below ?_
    repeat refine Below.setCell ?_ (by simp) _
    exact HB1.out
  · repeat refine Below.setCell ?_ (by simp) _
    exact HB1.out

set_option maxHeartbeats 2000000 in
set_option maxRecDepth 100000 in
theorem stopTxn_high (v : Value) (t : Tx) (h : Int) (w : World) (hT : IsTx w v t) (r1 : t.info.length * 24 ≤ 140737488355328) (r2 : t.data.length * 24 ≤ 140737488355328) (hg : goodX t = true) (hw : 2 < h) :
    Calls Try.prog 20 #[v, .int .i64 h] w fun e w' => ∃ v2, e = .returned (.tuple #[v2, .int .i64 (stopE t h)]) ∧ IsTx w' v2 (stopT t h) ∧ Below w.heap.size w w' := by
  have HT := hide hT
  obtain ⟨a, c, a', c', r, d, rfl, hM, hD, hR, n1, n2, n3⟩ := hT
  have N1 := hide n1
  have N2 := hide n2
  have N3 := hide n3
  clear hM hD hR n1 n2 n3
  go_enter Try.func20, Try.ntmps20
  go_wp2_with fail
  refine (goodTxn_any _ t _ (HT.out.below (bthen (below1 _ _) (below1 _ _))) r1 r2).mono ?_
  rintro e w1 ⟨rfl, hb1⟩
  have hs1 : w.heap.size + 1 < w1.heap.size := by have := hb1.size; simp at this; omega
  have hs1' : w.heap.size < w1.heap.size := by omega
  have K1 := hide (two1 hb1)
  have K2 := hide (two2 hb1)
  obtain ⟨⟨x0, x1, x2, x3, x4, x5, x6, x7, x8, x9⟩, _⟩ := box10 K1.out
  obtain ⟨⟨y0, y1, y2, y3, y4, y5, y6, y7, y8, y9⟩, ff⟩ := box10 K2.out
  have HB1 := hide (bthen (bthen (below1 _ _) (below1 _ _)) hb1)
  clear hb1
  have HE : Hid (stopE t h = 4) := by rw [Hid, stopE, if_neg (by rw [hg]; simp), if_pos (by omega)]
  have HTT : Hid (stopT t h = t) := by rw [Hid, stopT, HE.out]; rfl
  have hw2 : ¬ h < 0 := by omega
  go_wp2
  refine bodyPost_ret (v := .tuple #[.agg #[.int .i64 t.seq, .slice a t.info.length c, .slice a' t.data.length c', .slice r t.rev.length d, .bool t.h0.on, .int .i64 t.h0.left, .bool t.h1.on, .int .i64 t.h1.left, .bool t.h2.on, .int .i64 t.h2.left], .int .i64 4]) (by simp [results, Try.results20, go_sem, y0, y1, y2, y3, y4, y5, y6, y7, y8, y9]) rfl ⟨_, by rw [HE.out], ?_⟩
  refine ⟨?_, ?_⟩
  · rw [HTT.out]
    refine HT.out.below ?_
    repeat refine Below.setCell ?_ (by simp) _
    exact HB1.out
  · repeat refine Below.setCell ?_ (by simp) _
    exact HB1.out

set_option maxHeartbeats 2000000 in
set_option maxRecDepth 100000 in
theorem stopTxn_off0 (v : Value) (t : Tx) (w : World) (hT : IsTx w v t) (r1 : t.info.length * 24 ≤ 140737488355328) (r2 : t.data.length * 24 ≤ 140737488355328) (hg : goodX t = true) (ho : t.h0.on = false) :
    Calls Try.prog 20 #[v, .int .i64 0] w fun e w' => ∃ v2, e = .returned (.tuple #[v2, .int .i64 (stopE t 0)]) ∧ IsTx w' v2 (stopT t 0) ∧ Below w.heap.size w w' := by
  have HO := hide ho
  clear ho
  have HT := hide hT
  obtain ⟨a, c, a', c', r, d, rfl, hM, hD, hR, n1, n2, n3⟩ := hT
  have N1 := hide n1
  have N2 := hide n2
  have N3 := hide n3
  clear hM hD hR n1 n2 n3
  go_enter Try.func20, Try.ntmps20
  go_wp2_with fail
  refine (goodTxn_any _ t _ (HT.out.below (bthen (below1 _ _) (below1 _ _))) r1 r2).mono ?_
  rintro e w1 ⟨rfl, hb1⟩
  have hs1 : w.heap.size + 1 < w1.heap.size := by have := hb1.size; simp at this; omega
  have hs1' : w.heap.size < w1.heap.size := by omega
  have K1 := hide (two1 hb1)
  have K2 := hide (two2 hb1)
  obtain ⟨⟨x0, x1, x2, x3, x4, x5, x6, x7, x8, x9⟩, _⟩ := box10 K1.out
  obtain ⟨⟨y0, y1, y2, y3, y4, y5, y6, y7, y8, y9⟩, ff⟩ := box10 K2.out
  have HB1 := hide (bthen (bthen (below1 _ _) (below1 _ _)) hb1)
  clear hb1
  have ho := HO.out
  have HE : Hid (stopE t 0 = 4) := by rw [Hid, stopE, if_neg (by rw [hg]; simp), if_pos (.inr (.inr (show (hdAt t 0).on = false from ho)))]
  have HTT : Hid (stopT t 0 = t) := by rw [Hid, stopT, HE.out]; rfl
  go_wp2
  refine bodyPost_ret (v := .tuple #[.agg #[.int .i64 t.seq, .slice a t.info.length c, .slice a' t.data.length c', .slice r t.rev.length d, .bool t.h0.on, .int .i64 t.h0.left, .bool t.h1.on, .int .i64 t.h1.left, .bool t.h2.on, .int .i64 t.h2.left], .int .i64 4]) (by simp [results, Try.results20, go_sem, y0, y1, y2, y3, y4, y5, y6, y7, y8, y9, ho]) rfl ⟨_, by rw [HE.out], ?_⟩
  refine ⟨?_, ?_⟩
  · rw [HTT.out]
    refine HT.out.below ?_
    repeat refine Below.setCell ?_ (by simp) _
    exact HB1.out
  · repeat refine Below.setCell ?_ (by simp) _
    exact HB1.out

set_option maxHeartbeats 2000000 in
set_option maxRecDepth 100000 in
theorem stopTxn_on0 (v : Value) (t : Tx) (w : World) (hT : IsTx w v t) (r1 : t.info.length * 24 ≤ 140737488355328) (r2 : t.data.length * 24 ≤ 140737488355328) (hg : goodX t = true) (ho : t.h0.on = true) :
    Calls Try.prog 20 #[v, .int .i64 0] w fun e w' => ∃ v2, e = .returned (.tuple #[v2, .int .i64 (stopE t 0)]) ∧ IsTx w' v2 (stopT t 0) ∧ Below w.heap.size w w' := by
  have HO := hide ho
  clear ho
  have HT := hide hT
  obtain ⟨a, c, a', c', r, d, rfl, hM, hD, hR, n1, n2, n3⟩ := hT
  have N1 := hide n1
  have N2 := hide n2
  have N3 := hide n3
  clear hM hD hR n1 n2 n3
  go_enter Try.func20, Try.ntmps20
  go_wp2_with fail
  refine (goodTxn_any _ t _ (HT.out.below (bthen (below1 _ _) (below1 _ _))) r1 r2).mono ?_
  rintro e w1 ⟨rfl, hb1⟩
  have hs1 : w.heap.size + 1 < w1.heap.size := by have := hb1.size; simp at this; omega
  have hs1' : w.heap.size < w1.heap.size := by omega
  have K1 := hide (two1 hb1)
  have K2 := hide (two2 hb1)
  obtain ⟨⟨x0, x1, x2, x3, x4, x5, x6, x7, x8, x9⟩, _⟩ := box10 K1.out
  obtain ⟨⟨y0, y1, y2, y3, y4, y5, y6, y7, y8, y9⟩, ff⟩ := box10 K2.out
  have HB1 := hide (bthen (bthen (below1 _ _) (below1 _ _)) hb1)
  clear hb1
  have ho := HO.out
  have HE : Hid (stopE t 0 = 0) := by
    rw [Hid, stopE, if_neg (by rw [hg]; simp), if_neg]
    rw [show (hdAt t 0).on = true from ho]; simp
  have HTT : Hid (stopT t 0 = { t with h0 := ⟨false, 0⟩ }) := by rw [Hid, stopT, HE.out]; rfl
  have gf : ∀ k, w1.frozen? ⟨w.heap.size, k, none⟩ = false := (box10 K1.out).2
  have HTX : Hid (IsTx w (.agg #[.int .i64 t.seq, .slice a t.info.length c, .slice a' t.data.length c', .slice r t.rev.length d, .bool false, .int .i64 0, .bool t.h1.on, .int .i64 t.h1.left, .bool t.h2.on, .int .i64 t.h2.left]) { t with h0 := ⟨false, 0⟩ }) := is_hd HT.out { t with h0 := ⟨false, 0⟩ } rfl rfl rfl rfl
  go_wp2
  refine bodyPost_ret (v := .tuple #[.agg #[.int .i64 t.seq, .slice a t.info.length c, .slice a' t.data.length c', .slice r t.rev.length d, .bool false, .int .i64 0, .bool t.h1.on, .int .i64 t.h1.left, .bool t.h2.on, .int .i64 t.h2.left], .int .i64 0]) (by simp [results, Try.results20, go_sem, y0, y1, y2, y3, y4, y5, y6, y7, y8, y9]) rfl ⟨_, by rw [HE.out], ?_⟩
  rw [HTT.out]
  refine ⟨?_, ?_⟩
  · refine (HTX.out).below ?_
    repeat refine Below.setCell ?_ (by simp) _
    exact HB1.out
  · repeat refine Below.setCell ?_ (by simp) _
    exact HB1.out

set_option maxHeartbeats 2000000 in
set_option maxRecDepth 100000 in
theorem stopTxn_off1 (v : Value) (t : Tx) (w : World) (hT : IsTx w v t) (r1 : t.info.length * 24 ≤ 140737488355328) (r2 : t.data.length * 24 ≤ 140737488355328) (hg : goodX t = true) (ho : t.h1.on = false) :
    Calls Try.prog 20 #[v, .int .i64 1] w fun e w' => ∃ v2, e = .returned (.tuple #[v2, .int .i64 (stopE t 1)]) ∧ IsTx w' v2 (stopT t 1) ∧ Below w.heap.size w w' := by
  have HO := hide ho
  clear ho
  have HT := hide hT
  obtain ⟨a, c, a', c', r, d, rfl, hM, hD, hR, n1, n2, n3⟩ := hT
  have N1 := hide n1
  have N2 := hide n2
  have N3 := hide n3
  clear hM hD hR n1 n2 n3
  go_enter Try.func20, Try.ntmps20
  go_wp2_with fail
  refine (goodTxn_any _ t _ (HT.out.below (bthen (below1 _ _) (below1 _ _))) r1 r2).mono ?_
  rintro e w1 ⟨rfl, hb1⟩
  have hs1 : w.heap.size + 1 < w1.heap.size := by have := hb1.size; simp at this; omega
  have hs1' : w.heap.size < w1.heap.size := by omega
  have K1 := hide (two1 hb1)
  have K2 := hide (two2 hb1)
  obtain ⟨⟨x0, x1, x2, x3, x4, x5, x6, x7, x8, x9⟩, _⟩ := box10 K1.out
  obtain ⟨⟨y0, y1, y2, y3, y4, y5, y6, y7, y8, y9⟩, ff⟩ := box10 K2.out
  have HB1 := hide (bthen (bthen (below1 _ _) (below1 _ _)) hb1)
  clear hb1
  have ho := HO.out
  have HE : Hid (stopE t 1 = 4) := by rw [Hid, stopE, if_neg (by rw [hg]; simp), if_pos (.inr (.inr (show (hdAt t 1).on = false from ho)))]
  have HTT : Hid (stopT t 1 = t) := by rw [Hid, stopT, HE.out]; rfl
  go_wp2
  refine bodyPost_ret (v := .tuple #[.agg #[.int .i64 t.seq, .slice a t.info.length c, .slice a' t.data.length c', .slice r t.rev.length d, .bool t.h0.on, .int .i64 t.h0.left, .bool t.h1.on, .int .i64 t.h1.left, .bool t.h2.on, .int .i64 t.h2.left], .int .i64 4]) (by simp [results, Try.results20, go_sem, y0, y1, y2, y3, y4, y5, y6, y7, y8, y9, ho]) rfl ⟨_, by rw [HE.out], ?_⟩
  refine ⟨?_, ?_⟩
  · rw [HTT.out]
    refine HT.out.below ?_
    repeat refine Below.setCell ?_ (by simp) _
    exact HB1.out
  · repeat refine Below.setCell ?_ (by simp) _
    exact HB1.out

set_option maxHeartbeats 2000000 in
set_option maxRecDepth 100000 in
theorem stopTxn_on1 (v : Value) (t : Tx) (w : World) (hT : IsTx w v t) (r1 : t.info.length * 24 ≤ 140737488355328) (r2 : t.data.length * 24 ≤ 140737488355328) (hg : goodX t = true) (ho : t.h1.on = true) :
    Calls Try.prog 20 #[v, .int .i64 1] w fun e w' => ∃ v2, e = .returned (.tuple #[v2, .int .i64 (stopE t 1)]) ∧ IsTx w' v2 (stopT t 1) ∧ Below w.heap.size w w' := by
  have HO := hide ho
  clear ho
  have HT := hide hT
  obtain ⟨a, c, a', c', r, d, rfl, hM, hD, hR, n1, n2, n3⟩ := hT
  have N1 := hide n1
  have N2 := hide n2
  have N3 := hide n3
  clear hM hD hR n1 n2 n3
  go_enter Try.func20, Try.ntmps20
  go_wp2_with fail
  refine (goodTxn_any _ t _ (HT.out.below (bthen (below1 _ _) (below1 _ _))) r1 r2).mono ?_
  rintro e w1 ⟨rfl, hb1⟩
  have hs1 : w.heap.size + 1 < w1.heap.size := by have := hb1.size; simp at this; omega
  have hs1' : w.heap.size < w1.heap.size := by omega
  have K1 := hide (two1 hb1)
  have K2 := hide (two2 hb1)
  obtain ⟨⟨x0, x1, x2, x3, x4, x5, x6, x7, x8, x9⟩, _⟩ := box10 K1.out
  obtain ⟨⟨y0, y1, y2, y3, y4, y5, y6, y7, y8, y9⟩, ff⟩ := box10 K2.out
  have HB1 := hide (bthen (bthen (below1 _ _) (below1 _ _)) hb1)
  clear hb1
  have ho := HO.out
  have HE : Hid (stopE t 1 = 0) := by
    rw [Hid, stopE, if_neg (by rw [hg]; simp), if_neg]
    rw [show (hdAt t 1).on = true from ho]; simp
  have HTT : Hid (stopT t 1 = { t with h1 := ⟨false, 0⟩ }) := by rw [Hid, stopT, HE.out]; rfl
  have gf : ∀ k, w1.frozen? ⟨w.heap.size, k, none⟩ = false := (box10 K1.out).2
  have HTX : Hid (IsTx w (.agg #[.int .i64 t.seq, .slice a t.info.length c, .slice a' t.data.length c', .slice r t.rev.length d, .bool t.h0.on, .int .i64 t.h0.left, .bool false, .int .i64 0, .bool t.h2.on, .int .i64 t.h2.left]) { t with h1 := ⟨false, 0⟩ }) := is_hd HT.out { t with h1 := ⟨false, 0⟩ } rfl rfl rfl rfl
  go_wp2
  refine bodyPost_ret (v := .tuple #[.agg #[.int .i64 t.seq, .slice a t.info.length c, .slice a' t.data.length c', .slice r t.rev.length d, .bool t.h0.on, .int .i64 t.h0.left, .bool false, .int .i64 0, .bool t.h2.on, .int .i64 t.h2.left], .int .i64 0]) (by simp [results, Try.results20, go_sem, y0, y1, y2, y3, y4, y5, y6, y7, y8, y9]) rfl ⟨_, by rw [HE.out], ?_⟩
  rw [HTT.out]
  refine ⟨?_, ?_⟩
  · refine (HTX.out).below ?_
    repeat refine Below.setCell ?_ (by simp) _
    exact HB1.out
  · repeat refine Below.setCell ?_ (by simp) _
    exact HB1.out

set_option maxHeartbeats 2000000 in
set_option maxRecDepth 100000 in
theorem stopTxn_off2 (v : Value) (t : Tx) (w : World) (hT : IsTx w v t) (r1 : t.info.length * 24 ≤ 140737488355328) (r2 : t.data.length * 24 ≤ 140737488355328) (hg : goodX t = true) (ho : t.h2.on = false) :
    Calls Try.prog 20 #[v, .int .i64 2] w fun e w' => ∃ v2, e = .returned (.tuple #[v2, .int .i64 (stopE t 2)]) ∧ IsTx w' v2 (stopT t 2) ∧ Below w.heap.size w w' := by
  have HO := hide ho
  clear ho
  have HT := hide hT
  obtain ⟨a, c, a', c', r, d, rfl, hM, hD, hR, n1, n2, n3⟩ := hT
  have N1 := hide n1
  have N2 := hide n2
  have N3 := hide n3
  clear hM hD hR n1 n2 n3
  go_enter Try.func20, Try.ntmps20
  go_wp2_with fail
  refine (goodTxn_any _ t _ (HT.out.below (bthen (below1 _ _) (below1 _ _))) r1 r2).mono ?_
  rintro e w1 ⟨rfl, hb1⟩
  have hs1 : w.heap.size + 1 < w1.heap.size := by have := hb1.size; simp at this; omega
  have hs1' : w.heap.size < w1.heap.size := by omega
  have K1 := hide (two1 hb1)
  have K2 := hide (two2 hb1)
  obtain ⟨⟨x0, x1, x2, x3, x4, x5, x6, x7, x8, x9⟩, _⟩ := box10 K1.out
  obtain ⟨⟨y0, y1, y2, y3, y4, y5, y6, y7, y8, y9⟩, ff⟩ := box10 K2.out
  have HB1 := hide (bthen (bthen (below1 _ _) (below1 _ _)) hb1)
  clear hb1
  have ho := HO.out
  have HE : Hid (stopE t 2 = 4) := by rw [Hid, stopE, if_neg (by rw [hg]; simp), if_pos (.inr (.inr (show (hdAt t 2).on = false from ho)))]
  have HTT : Hid (stopT t 2 = t) := by rw [Hid, stopT, HE.out]; rfl
  go_wp2
  refine bodyPost_ret (v := .tuple #[.agg #[.int .i64 t.seq, .slice a t.info.length c, .slice a' t.data.length c', .slice r t.rev.length d, .bool t.h0.on, .int .i64 t.h0.left, .bool t.h1.on, .int .i64 t.h1.left, .bool t.h2.on, .int .i64 t.h2.left], .int .i64 4]) (by simp [results, Try.results20, go_sem, y0, y1, y2, y3, y4, y5, y6, y7, y8, y9, ho]) rfl ⟨_, by rw [HE.out], ?_⟩
  refine ⟨?_, ?_⟩
  · rw [HTT.out]
    refine HT.out.below ?_
    repeat refine Below.setCell ?_ (by simp) _
    exact HB1.out
  · repeat refine Below.setCell ?_ (by simp) _
    exact HB1.out

set_option maxHeartbeats 2000000 in
set_option maxRecDepth 100000 in
theorem stopTxn_on2 (v : Value) (t : Tx) (w : World) (hT : IsTx w v t) (r1 : t.info.length * 24 ≤ 140737488355328) (r2 : t.data.length * 24 ≤ 140737488355328) (hg : goodX t = true) (ho : t.h2.on = true) :
    Calls Try.prog 20 #[v, .int .i64 2] w fun e w' => ∃ v2, e = .returned (.tuple #[v2, .int .i64 (stopE t 2)]) ∧ IsTx w' v2 (stopT t 2) ∧ Below w.heap.size w w' := by
  have HO := hide ho
  clear ho
  have HT := hide hT
  obtain ⟨a, c, a', c', r, d, rfl, hM, hD, hR, n1, n2, n3⟩ := hT
  have N1 := hide n1
  have N2 := hide n2
  have N3 := hide n3
  clear hM hD hR n1 n2 n3
  go_enter Try.func20, Try.ntmps20
  go_wp2_with fail
  refine (goodTxn_any _ t _ (HT.out.below (bthen (below1 _ _) (below1 _ _))) r1 r2).mono ?_
  rintro e w1 ⟨rfl, hb1⟩
  have hs1 : w.heap.size + 1 < w1.heap.size := by have := hb1.size; simp at this; omega
  have hs1' : w.heap.size < w1.heap.size := by omega
  have K1 := hide (two1 hb1)
  have K2 := hide (two2 hb1)
  obtain ⟨⟨x0, x1, x2, x3, x4, x5, x6, x7, x8, x9⟩, _⟩ := box10 K1.out
  obtain ⟨⟨y0, y1, y2, y3, y4, y5, y6, y7, y8, y9⟩, ff⟩ := box10 K2.out
  have HB1 := hide (bthen (bthen (below1 _ _) (below1 _ _)) hb1)
  clear hb1
  have ho := HO.out
  have HE : Hid (stopE t 2 = 0) := by
    rw [Hid, stopE, if_neg (by rw [hg]; simp), if_neg]
    rw [show (hdAt t 2).on = true from ho]; simp
  have HTT : Hid (stopT t 2 = { t with h2 := ⟨false, 0⟩ }) := by rw [Hid, stopT, HE.out]; rfl
  have gf : ∀ k, w1.frozen? ⟨w.heap.size, k, none⟩ = false := (box10 K1.out).2
  have HTX : Hid (IsTx w (.agg #[.int .i64 t.seq, .slice a t.info.length c, .slice a' t.data.length c', .slice r t.rev.length d, .bool t.h0.on, .int .i64 t.h0.left, .bool t.h1.on, .int .i64 t.h1.left, .bool false, .int .i64 0]) { t with h2 := ⟨false, 0⟩ }) := is_hd HT.out { t with h2 := ⟨false, 0⟩ } rfl rfl rfl rfl
  go_wp2
  refine bodyPost_ret (v := .tuple #[.agg #[.int .i64 t.seq, .slice a t.info.length c, .slice a' t.data.length c', .slice r t.rev.length d, .bool t.h0.on, .int .i64 t.h0.left, .bool t.h1.on, .int .i64 t.h1.left, .bool false, .int .i64 0], .int .i64 0]) (by simp [results, Try.results20, go_sem, y0, y1, y2, y3, y4, y5, y6, y7, y8, y9]) rfl ⟨_, by rw [HE.out], ?_⟩
  rw [HTT.out]
  refine ⟨?_, ?_⟩
  · refine (HTX.out).below ?_
    repeat refine Below.setCell ?_ (by simp) _
    exact HB1.out
  · repeat refine Below.setCell ?_ (by simp) _
    exact HB1.out

set_option maxHeartbeats 2000000 in
set_option maxRecDepth 100000 in
theorem stopTxn_any (v : Value) (t : Tx) (h : Int) (w : World) (hT : IsTx w v t) (r1 : t.info.length * 24 ≤ 140737488355328) (r2 : t.data.length * 24 ≤ 140737488355328) :
    Calls Try.prog 20 #[v, .int .i64 h] w fun e w' => ∃ v2, e = .returned (.tuple #[v2, .int .i64 (stopE t h)]) ∧ IsTx w' v2 (stopT t h) ∧ Below w.heap.size w w' := by
  cases hg : goodX t with
  | false => exact stopTxn_bad v t h w hT r1 r2 hg
  | true =>
    by_cases h1 : h < 0
    · exact stopTxn_low v t h w hT r1 r2 hg h1
    · by_cases h2 : 2 < h
      · exact stopTxn_high v t h w hT r1 r2 hg h2
      · have hc : h = 0 ∨ h = 1 ∨ h = 2 := by omega
        rcases hc with rfl | rfl | rfl
        · cases ho : t.h0.on with
          | true => exact stopTxn_on0 v t w hT r1 r2 hg ho
          | false => exact stopTxn_off0 v t w hT r1 r2 hg ho
        · cases ho : t.h1.on with
          | true => exact stopTxn_on1 v t w hT r1 r2 hg ho
          | false => exact stopTxn_off1 v t w hT r1 r2 hg ho
        · cases ho : t.h2.on with
          | true => exact stopTxn_on2 v t w hT r1 r2 hg ho
          | false => exact stopTxn_off2 v t w hT r1 r2 hg ho

end Go.Proofs.Ytjnpndfpajjihab
