/-
  The walk of package txn's Good.
  How great a good transaction is. Nothing of the program is proved here.
  The walk of seal's take.
-/
import Derived.Test.YtjnpndfpajjihabGreatTApart
import Derived.Test.YtjnpndfpajjihabGreatGrSealWhole27
import Derived.Deep.RegionHeld3
import Derived.Deep.RegionWith
import Derived.Test.YtjnpndfpajjihabGreatRTake2
import Derived.Test.YtjnpndfpajjihabGreatGrSealWhole3
namespace Go.Proofs.YtjnpndfpajjihabGreat
open Go.RowKit

theorem goodX_eq (t : Tx) : goodX t = (withinB t.seq 1 2147483647 && (fitsAll t.info && fitsAll t.data) && (rises (blksOf t.info) && rises (blksOf t.data) && rises t.rev) && decide (allOf t).Nodup && (hdB t.h0 && hdB t.h1 && hdB t.h2)) := rfl

set_option maxHeartbeats 4000000 in
set_option maxRecDepth 100000 in
theorem tGood_any (v : Value) (t : Tx) (w : World) (hT : IsTx w v t) (r1 : t.info.length * 24 ≤ 140737488355328) (r2 : t.data.length * 24 ≤ 140737488355328) :
    Calls Tryz.prog 87 #[v] w fun e w' => e = .returned (.bool (goodX t)) ∧ Below w.heap.size w w' := by
  obtain ⟨a, c, a', c', r, d, rfl, hM, hD, hR, n1, n2, n3⟩ := hT
  have HM := hide hM
  have HD := hide hD
  have HR := hide hR
  have N1 := hide n1
  have N2 := hide n2
  have N3 := hide n3
  clear hM hD hR n1 n2 n3
  cases h0 : withinB t.seq 1 2147483647 with
  | false =>
    have HG : Hid (goodX t = false) := by rw [Hid, goodX_eq, h0]; rfl
    go_enter Tryz.func87, Tryz.ntmps87
    go_wp2_with (go_at_call 89; refine (tWithin_any _ _ _ _).mono ?_; rintro e w' ⟨rfl, rfl⟩)
    go_ret
    exact ⟨by rw [HG.out]; rfl, below1 _ _⟩
  | true =>
    have H0 := hide h0
    go_enter Tryz.func87, Tryz.ntmps87
    go_wp2_with (go_at_call 89; refine (tWithin_any _ _ _ _).mono ?_; rintro e w' ⟨rfl, rfl⟩)
    clear h0
    refine (tFit_any a c t.info _ (HM.out.below (below1 _ _)) N1.out).mono ?_
    rintro e w1 ⟨rfl, hb1⟩
    have hs1 : w.heap.size < w1.heap.size := by have := hb1.size; simp at this; omega
    have K1 := hide (one1 hb1)
    obtain ⟨⟨_, x1, x2, x3, _⟩, _⟩ := box10 K1.out
    have HB1 := hide (bthen (below1 _ _) hb1)
    clear hb1
    cases h1 : fitsAll t.info with
    | false =>
      have HG : Hid (goodX t = false) := by rw [Hid, goodX_eq, h1]; simp
      go_wp2
      go_ret
      exact ⟨by rw [HG.out]; rfl, HB1.out⟩
    | true =>
      have H1 := hide h1
      clear h1
      go_wp2_with fail
      refine (tFit_any a' c' t.data _ (HD.out.below HB1.out) N2.out).mono ?_
      rintro e w2 ⟨rfl, hb2⟩
      have hs2 : w.heap.size < w2.heap.size := by have := hb2.size; omega
      have K2 := hide (boxKeep hb2 hs1 K1.out)
      have HB2 := hide (bthen HB1.out hb2)
      clear hb2 K1 x1 x2 x3 HB1
      obtain ⟨⟨x0, x1, x2, x3, x4, x5, x6, x7, x8, x9⟩, _⟩ := box10 K2.out
      cases h2 : fitsAll t.data with
      | false =>
        have HG : Hid (goodX t = false) := by rw [Hid, goodX_eq, h2]; simp
        go_wp2
        go_ret
        exact ⟨by rw [HG.out]; rfl, HB2.out⟩
      | true =>
        have H2 := hide h2
        clear h2
        go_wp2
        have HALL : Hid (∀ w', Below w2.heap.size w2 w' → Hid (Below w2.heap.size w2 w') ∧ w'.cell? ⟨w.heap.size, 1, none⟩ = some (.slice a t.info.length c) ∧ w'.cell? ⟨w.heap.size, 2, none⟩ = some (.slice a' t.data.length c')) :=
          fun w' hb => ⟨hb, cellKeep hb hs2 x1, cellKeep hb hs2 x2⟩
        clear x0 x1 x2 x3 x4 x5 x6 x7 x8 x9
        go_region_held3 (fun w' => Hid (Below w2.heap.size w2 w') ∧ w'.cell? ⟨w.heap.size, 1, none⟩ = some (.slice a t.info.length c) ∧ w'.cell? ⟨w.heap.size, 2, none⟩ = some (.slice a' t.data.length c'))
          (first | exact HALL.out _ ((Below.refl _ _).drew) | (refine HALL.out _ ?_; assumption))
          (first
            | (go_at_call_of 126 (t.info); (have hnow := (‹Hid (Below w2.heap.size w2 _) ∧ _›).1); have HNOW := hide hnow.out; refine (blocks_any a c t.info _ ?_ r1).mono ?_; exact HM.out.below (bthen HB2.out hnow.out); clear hnow; rintro e w10 ⟨am, cm, rfl, hsm, hb10⟩; have hbN := bthen HNOW.out hb10; have HSM := hide hsm; clear hb10 HNOW hsm)
            | (go_at_call_of 126 (t.data); (have hnow := (‹Hid (Below w2.heap.size w2 _) ∧ _›).1); have HNOW := hide hnow.out; refine (blocks_any a' c' t.data _ ?_ r2).mono ?_; exact HD.out.below (bthen HB2.out hnow.out); clear hnow; rintro e w11 ⟨ad, cd, rfl, hsd, hb10⟩; have hbN := bthen HNOW.out hb10; have HSD := hide hsd; have HSM2 := hide (HSM.out.below hb10); clear hb10 HNOW hsd))
        have hnow := (‹Hid (Below w2.heap.size w2 w11) ∧ _›).1
        have HB3 := hide (bthen HB2.out hnow.out)
        have hs3 : w.heap.size < w11.heap.size := by have := hnow.out.size; omega
        have K3 := hide (boxKeep hnow.out hs2 K2.out)
        have HR3 := hide (HR.out.below HB3.out)
        obtain ⟨⟨_, _, _, x3, x4, x5, x6, x7, x8, x9⟩, _⟩ := box10 K3.out
        have rM := rise_any am cm (blksOf t.info) w11 HSM2.out (by rw [blks_length]; exact N1.out)
        have rD := rise_any ad cd (blksOf t.data) w11 HSD.out (by rw [blks_length]; exact N2.out)
        have rR := rise_any r d t.rev w11 HR3.out N3.out
        rw [blks_length] at rM rD
        clear hnow HALL HM HD HR
        go_wp2_with fail
        refine rM.mono ?_
        rintro e w12 ⟨rfl, rfl⟩
        cases h3 : rises (blksOf t.info) with
        | false =>
          have HG : Hid (goodX t = false) := by rw [Hid, goodX_eq, h3]; simp
          go_wp2
          go_ret
          exact ⟨by rw [HG.out]; rfl, HB3.out⟩
        | true =>
          go_wp2_with fail
          refine rD.mono ?_
          rintro e w12 ⟨rfl, rfl⟩
          cases h4 : rises (blksOf t.data) with
          | false =>
            have HG : Hid (goodX t = false) := by rw [Hid, goodX_eq, h4]; simp
            go_wp2
            go_ret
            exact ⟨by rw [HG.out]; rfl, HB3.out⟩
          | true =>
            go_wp2_with fail
            refine rR.mono ?_
            rintro e w12 ⟨rfl, rfl⟩
            cases h5 : rises t.rev with
            | false =>
              have HG : Hid (goodX t = false) := by rw [Hid, goodX_eq, h5]; simp
              go_wp2
              go_ret
              exact ⟨by rw [HG.out]; rfl, HB3.out⟩
            | true =>
              have q3 := rises_length h3
              have q4 := rises_length h4
              have q5 := rises_length h5
              have HN := hide (all_rises t h3 h4 h5)
              have HF : Hid (flatI [(am, cm, blksOf t.info), (ad, cd, blksOf t.data), (r, d, t.rev)] = allOf t) := by simp [Hid, flatI, allOf]
              have HL : Hid (∀ w', Below w11.heap.size w11 w' → w'.cell? ⟨w11.heap.size, 0, none⟩ = some (.slice am (blksOf t.info).length cm) → w'.cell? ⟨w11.heap.size, 1, none⟩ = some (.slice ad (blksOf t.data).length cd) → w'.cell? ⟨w11.heap.size, 2, none⟩ = some (.slice r t.rev.length d) → w11.heap.size < w'.heap.size → SegLI w' w11.heap.size [(am, cm, blksOf t.info), (ad, cd, blksOf t.data), (r, d, t.rev)]) := by
                intro w' hb c0 c1 c2 hlt
                refine ⟨hlt, fun i x hx => ?_⟩
                match i, hx with
                | 0, hx => cases hx; exact ⟨c0, HSM2.out.below hb⟩
                | 1, hx => cases hx; exact ⟨c1, HSD.out.below hb⟩
                | 2, hx => cases hx; exact ⟨c2, HR3.out.below hb⟩
                | n + 3, hx => simp at hx
              go_wp2_with fail
              refine (apart_any w11.heap.size 3 3 [(am, cm, blksOf t.info), (ad, cd, blksOf t.data), (r, d, t.rev)] _ rfl (by omega) (HL.out _ (below1 _ _) (by rw [blks_length]; simp [go_sem]) (by rw [blks_length]; simp [go_sem]) (by simp [go_sem]) (by simp)) (by rw [HF.out, allOf, List.length_append, List.length_append]; omega)).mono ?_
              rintro e w12 ⟨rfl, hb12⟩
              rw [HF.out, HN.out]
              have hb13 := bthen (below1 _ _) hb12
              have HB4 := hide (bthen HB3.out hb13)
              have hs4 : w.heap.size < w12.heap.size := by have := hb13.size; omega
              have K4 := hide (boxKeep hb13 hs3 K3.out)
              clear x3 x4 x5 x6 x7 x8 x9 hb12 hb13
              obtain ⟨⟨_, _, _, _, x4, x5, x6, x7, x8, x9⟩, _⟩ := box10 K4.out
              cases h6 : decide (allOf t).Nodup with
              | false =>
                have HG : Hid (goodX t = false) := by rw [Hid, goodX_eq, h6]; simp
                go_wp2
                go_ret
                exact ⟨by rw [HG.out]; rfl, HB4.out⟩
              | true =>
                have HG : Hid (goodX t = (hdB t.h0 && hdB t.h1 && hdB t.h2)) := by rw [Hid, goodX_eq, H0.out, H1.out, H2.out, h3, h4, h5, h6]; simp
                go_wp2_with fail
                refine (bounded_any t.h0 t.h1 t.h2 _).mono ?_
                rintro e w13 ⟨rfl, hb13⟩
                go_wp2
                go_ret
                exact ⟨by rw [HG.out]; rfl, bthen HB4.out hb13⟩

end Go.Proofs.YtjnpndfpajjihabGreat

namespace Go.Proofs.YtjnpndfpajjihabGreat
open Go.RowKit

/-- How great a good transaction is. -/
theorem good_small {t : Tx} (h : goodX t = true) : t.info.length ≤ 12 ∧ t.data.length ≤ 12 ∧ t.rev.length ≤ 12 := by
  have := (goodX_iff t).1 h
  have h1 := rises_length this.2.2.1.1
  have h2 := rises_length this.2.2.1.2.1
  have h3 := rises_length this.2.2.1.2.2
  rw [blks_length] at h1 h2
  exact ⟨h1, h2, h3⟩

end Go.Proofs.YtjnpndfpajjihabGreat

namespace Go.Proofs.YtjnpndfpajjihabGreat
open Go.RowKit

/-- What Commit answers first: its error; the ring behind it; the places. -/
def sealE (h u : Int) (t : Tx) : Int := if goodR h u = false ∨ goodX t = false ∨ openB t = true then 2 else takeE h u (needN t.info.length t.rev.length)
def sealH (h u : Int) (t : Tx) : Int := if sealE h u t = 0 then takeH h u (needN t.info.length t.rev.length) else h
def sealU (h u : Int) (t : Tx) : Int := if sealE h u t = 0 then takeU h u (needN t.info.length t.rev.length) else u
def sealP (h u : Int) (t : Tx) : List Int := if sealE h u t = 0 then takeL h u (needN t.info.length t.rev.length) else []

set_option maxHeartbeats 4000000 in
set_option maxRecDepth 100000 in
theorem take_any (h u : Int) (v : Value) (t : Tx) (w : World) (hT : IsTx w v t) (r1 : t.info.length * 24 ≤ 140737488355328) (r2 : t.data.length * 24 ≤ 140737488355328) :
    Calls Tryz.prog 59 #[.agg #[.int .i64 h, .int .i64 u], v] w fun e w' => ∃ a c, e = .returned (.tuple #[.agg #[.int .i64 (sealH h u t), .int .i64 (sealU h u t)], .slice a (sealP h u t).length c, .int .i64 (sealE h u t)]) ∧ (SegI w' a (sealP h u t) ∧ (∀ b off, a = some ⟨b, off, none⟩ → w.heap.size ≤ b) ∧ (sealP h u t).length ≤ c) ∧ Below w.heap.size w w' := by
  have HT := hide hT
  obtain ⟨a0, a1, a2, a3, a4, a5, rfl, _, _, _, n1, n2, n3⟩ := hT
  go_enter Tryz.func59, Tryz.ntmps59
  go_wp2_with fail
  refine (ringGood_any h u _).mono ?_
  rintro e w1 ⟨rfl, hb1⟩
  obtain ⟨K1, K2, K3, hs1⟩ := three1 hb1
  have KR := hide K1
  have KT := hide K2
  have KZ := hide K3
  have hs1' : w.heap.size < w1.heap.size := by omega
  have hs1'' : w.heap.size + 1 < w1.heap.size := by omega
  have HB1 := hide (bthen (bthen (bthen (below1 _ _) (below1 _ _)) (below1 _ _)) hb1)
  clear K1 K2 K3 hb1
  obtain ⟨⟨r0, r1'⟩, _⟩ := box2 KR.out
  obtain ⟨⟨y0, y1⟩, f0, f1⟩ := box2 KZ.out
  obtain ⟨⟨x0, x1, x2, x3, x4, x5, x6, x7, x8, x9⟩, _⟩ := box10 KT.out
  cases hg : goodR h u with
  | false =>
    have HE : Hid (sealE h u t = 2) := by rw [Hid, sealE, if_pos (.inl hg)]
    have HH : Hid (sealH h u t = h ∧ sealU h u t = u ∧ sealP h u t = []) := by simp [Hid, sealH, sealU, sealP, HE.out]
    go_wp2
    refine bodyPost_ret (v := .tuple #[.agg #[.int .i64 h, .int .i64 u], .slice none 0 0, .int .i64 2]) (by simp [results, Tryz.results59, go_sem, y0, y1]) rfl ⟨none, 0, by rw [HE.out, HH.out.1, HH.out.2.1, HH.out.2.2]; rfl, ⟨.inl HH.out.2.2, fun _ _ e => (by cases e), (by rw [HH.out.2.2]; exact Nat.le_refl _)⟩, ?_⟩
    repeat refine Below.setCell ?_ (by simp; try omega) _
    exact HB1.out
  | true =>
    have HG := hide hg
    clear hg
    go_wp2_with fail
    refine (tGood_any _ t _ (HT.out.below HB1.out) r1 r2).mono ?_
    rintro e w2 ⟨rfl, hb2⟩
    replace KR := hide (boxKeep hb2 hs1' KR.out)
    replace KT := hide (boxKeep hb2 hs1'' KT.out)
    replace KZ := hide (boxKeep hb2 hs1 KZ.out)
    have HB2 := hide (bthen HB1.out hb2)
    have hs2 := Nat.lt_of_lt_of_le hs1 hb2.size
    have hs2' : w.heap.size < w2.heap.size := by omega
    have hs2'' : w.heap.size + 1 < w2.heap.size := by omega
    clear hb2 r0 r1' y0 y1 f0 f1 x0 x1 x2 x3 x4 x5 x6 x7 x8 x9 HB1
    obtain ⟨⟨r0, r1'⟩, _⟩ := box2 KR.out
    obtain ⟨⟨y0, y1⟩, f0, f1⟩ := box2 KZ.out
    obtain ⟨⟨x0, x1, x2, x3, x4, x5, x6, x7, x8, x9⟩, _⟩ := box10 KT.out
    cases hx : goodX t with
    | false =>
      have HE : Hid (sealE h u t = 2) := by rw [Hid, sealE, if_pos (.inr (.inl hx))]
      have HH : Hid (sealH h u t = h ∧ sealU h u t = u ∧ sealP h u t = []) := by simp [Hid, sealH, sealU, sealP, HE.out]
      go_wp2
      refine bodyPost_ret (v := .tuple #[.agg #[.int .i64 h, .int .i64 u], .slice none 0 0, .int .i64 2]) (by simp [results, Tryz.results59, go_sem, y0, y1]) rfl ⟨none, 0, by rw [HE.out, HH.out.1, HH.out.2.1, HH.out.2.2]; rfl, ⟨.inl HH.out.2.2, fun _ _ e => (by cases e), (by rw [HH.out.2.2]; exact Nat.le_refl _)⟩, ?_⟩
      repeat refine Below.setCell ?_ (by simp; try omega) _
      exact HB2.out
    | true =>
      have HXG := hide hx
      clear hx
      go_wp2_with fail
      refine (tOpen_any _ t _ (HT.out.below HB2.out)).mono ?_
      rintro e w3 ⟨rfl, hb3⟩
      replace KR := hide (boxKeep hb3 hs2' KR.out)
      replace KT := hide (boxKeep hb3 hs2'' KT.out)
      replace KZ := hide (boxKeep hb3 hs2 KZ.out)
      have HB3 := hide (bthen HB2.out hb3)
      have hs3 := Nat.lt_of_lt_of_le hs2 hb3.size
      have hs3' : w.heap.size < w3.heap.size := by omega
      clear hb3 r0 r1' y0 y1 f0 f1 x0 x1 x2 x3 x4 x5 x6 x7 x8 x9 HB2
      obtain ⟨⟨r0, r1'⟩, _⟩ := box2 KR.out
      obtain ⟨⟨y0, y1⟩, f0, f1⟩ := box2 KZ.out
      obtain ⟨⟨x0, x1, x2, x3, x4, x5, x6, x7, x8, x9⟩, _⟩ := box10 KT.out
      cases ho : openB t with
      | true =>
        have HE : Hid (sealE h u t = 2) := by rw [Hid, sealE, if_pos (.inr (.inr ho))]
        have HH : Hid (sealH h u t = h ∧ sealU h u t = u ∧ sealP h u t = []) := by simp [Hid, sealH, sealU, sealP, HE.out]
        go_wp2
        refine bodyPost_ret (v := .tuple #[.agg #[.int .i64 h, .int .i64 u], .slice none 0 0, .int .i64 2]) (by simp [results, Tryz.results59, go_sem, y0, y1]) rfl ⟨none, 0, by rw [HE.out, HH.out.1, HH.out.2.1, HH.out.2.2]; rfl, ⟨.inl HH.out.2.2, fun _ _ e => (by cases e), (by rw [HH.out.2.2]; exact Nat.le_refl _)⟩, ?_⟩
        repeat refine Below.setCell ?_ (by simp; try omega) _
        exact HB3.out
      | false =>
        have hsm := good_small HXG.out
        have HN : Hid (needE (t.info.length : Int) (t.rev.length : Int) = 0) := by rw [Hid, needE, if_neg]; omega
        have HE : Hid (sealE h u t = takeE h u (needN t.info.length t.rev.length)) := by
          rw [Hid, sealE, if_neg]
          rw [HG.out, HXG.out, ho]; simp
        have HS : Hid (sealH h u t = takeH h u (needN t.info.length t.rev.length) ∧ sealU h u t = takeU h u (needN t.info.length t.rev.length) ∧ sealP h u t = takeL h u (needN t.info.length t.rev.length)) := by
          by_cases e : takeE h u (needN t.info.length t.rev.length) = 0
          · simp [Hid, sealH, sealU, sealP, HE.out, e]
          · simp [Hid, sealH, sealU, sealP, HE.out, takeH, takeU, takeL, e]
        go_wp2_with fail
        refine (ringNeed_any (t.info.length : Int) (t.rev.length : Int) _).mono ?_
        rintro e w4 ⟨rfl, rfl⟩
        rw [HN.out]
        generalize needN (t.info.length : Int) (t.rev.length : Int) = nn at *
        go_wp2_with fail
        refine (ringTake_cap h u nn _).mono ?_
        rintro e w5 ⟨a, c, rfl, hS5, hb5⟩
        have HS5 := hide hS5
        have HB5 := hide (bthen HB3.out hb5)
        have KZ5 := hide (boxKeep hb5 hs3 KZ.out)
        have hs5 := Nat.lt_of_lt_of_le hs3 hb5.size
        clear hS5 hb5 r0 r1' y0 y1 f0 f1 x0 x1 x2 x3 x4 x5 x6 x7 x8 x9
        obtain ⟨⟨y0, y1⟩, f0, f1⟩ := box2 KZ5.out
        generalize takeE h u nn = te at *
        generalize takeH h u nn = th at *
        generalize takeU h u nn = tu at *
        generalize takeL h u nn = tl at *
        go_wp2
        refine bodyPost_ret (v := .tuple #[.agg #[.int .i64 th, .int .i64 tu], .slice a tl.length c, .int .i64 te]) (by simp [results, Tryz.results59, go_sem, y0, y1]) rfl ?_
        rw [HE.out, HS.out.1, HS.out.2.1, HS.out.2.2]
        refine ⟨a, c, rfl, ⟨?_, fun b off e => (by have := HS5.out.2.1 b off e; omega), HS5.out.2.2⟩, ?_⟩
        · refine (HS5.out.1.setNe (fun b off e => ?_) _).setNe (fun b off e => ?_) _
          · have := HS5.out.2.1 b off e; simp; omega
          · have := HS5.out.2.1 b off e; simp; omega
        · repeat refine Below.setCell ?_ (by simp; try omega) _
          exact HB5.out

end Go.Proofs.YtjnpndfpajjihabGreat
