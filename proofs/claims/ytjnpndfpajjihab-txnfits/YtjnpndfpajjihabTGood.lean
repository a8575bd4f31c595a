/-
  The walk of package txn's Good.
-/
import Derived.Test.YtjnpndfpajjihabTApart
import Derived.Test.YtjnpndfpajjihabTFind0
import Derived.Deep.RegionHeld3
import Derived.Deep.RegionWith
namespace Go.Proofs.Ytjnpndfpajjihab
open Go.RowKit

theorem goodX_eq (t : Tx) : goodX t = (withinB t.seq 1 2147483647 && (fitsAll t.info && fitsAll t.data) && (rises (blksOf t.info) && rises (blksOf t.data) && rises t.rev) && decide (allOf t).Nodup && (hdB t.h0 && hdB t.h1 && hdB t.h2)) := rfl

set_option maxHeartbeats 4000000 in
set_option maxRecDepth 100000 in
theorem tGood_any (v : Value) (t : Tx) (w : World) (hT : IsTx w v t) (r1 : t.info.length * 24 ≤ 140737488355328) (r2 : t.data.length * 24 ≤ 140737488355328) :
    Calls Try.prog 22 #[v] w fun e w' => e = .returned (.bool (goodX t)) ∧ Below w.heap.size w w' := by
  obtain ⟨a, c, a', c', r, d, rfl, hM, hD, hR, n1, n2, n3⟩ := hT
  have HM := hide hM
  have HD := hide hD
  have HR := hide hR
  have N1 := hide n1
  have N2 := hide n2
  have N3 := hide n3
  clear hM hD hR n1 n2 n3
  cases h0 : withinB t.seq 1 2147483647 with
  | false =>
    have HG : Hid (goodX t = false) := by rw [Hid, goodX_eq, h0]; rfl
    go_enter Try.func22, Try.ntmps22
    go_wp2_with (go_at_call 64; refine (tWithin_any _ _ _ _).mono ?_; rintro e w' ⟨rfl, rfl⟩)
    go_ret
    exact ⟨by rw [HG.out]; rfl, below1 _ _⟩
  | true =>
    have H0 := hide h0
    go_enter Try.func22, Try.ntmps22
    go_wp2_with (go_at_call 64; refine (tWithin_any _ _ _ _).mono ?_; rintro e w' ⟨rfl, rfl⟩)
    clear h0
    refine (tFit_any a c t.info _ (HM.out.below (below1 _ _)) N1.out).mono ?_
    rintro e w1 ⟨rfl, hb1⟩
    have hs1 : w.heap.size < w1.heap.size := by have := hb1.size; simp at this; omega
    have K1 := hide (one1 hb1)
    obtain ⟨⟨_, x1, x2, x3, _⟩, _⟩ := box10 K1.out
    have HB1 := hide (bthen (below1 _ _) hb1)
    clear hb1
    cases h1 : fitsAll t.info with
    | false =>
      have HG : Hid (goodX t = false) := by rw [Hid, goodX_eq, h1]; simp
      go_wp2
      go_ret
      exact ⟨by rw [HG.out]; rfl, HB1.out⟩
    | true =>
      have H1 := hide h1
      clear h1
      go_wp2_with fail
      refine (tFit_any a' c' t.data _ (HD.out.below HB1.out) N2.out).mono ?_
      rintro e w2 ⟨rfl, hb2⟩
      have hs2 : w.heap.size < w2.heap.size := by have := hb2.size; omega
      have K2 := hide (boxKeep hb2 hs1 K1.out)
      have HB2 := hide (bthen HB1.out hb2)
      clear hb2 K1 x1 x2 x3 HB1
      obtain ⟨⟨x0, x1, x2, x3, x4, x5, x6, x7, x8, x9⟩, _⟩ := box10 K2.out
      cases h2 : fitsAll t.data with
      | false =>
        have HG : Hid (goodX t = false) := by rw [Hid, goodX_eq, h2]; simp
        go_wp2
        go_ret
        exact ⟨by rw [HG.out]; rfl, HB2.out⟩
      | true =>
        have H2 := hide h2
        clear h2
        go_wp2
        have HALL : Hid (∀ w', Below w2.heap.size w2 w' → Hid (Below w2.heap.size w2 w') ∧ w'.cell? ⟨w.heap.size, 1, none⟩ = some (.slice a t.info.length c) ∧ w'.cell? ⟨w.heap.size, 2, none⟩ = some (.slice a' t.data.length c')) :=
          fun w' hb => ⟨hb, cellKeep hb hs2 x1, cellKeep hb hs2 x2⟩
        clear x0 x1 x2 x3 x4 x5 x6 x7 x8 x9
        go_region_held3 (fun w' => Hid (Below w2.heap.size w2 w') ∧ w'.cell? ⟨w.heap.size, 1, none⟩ = some (.slice a t.info.length c) ∧ w'.cell? ⟨w.heap.size, 2, none⟩ = some (.slice a' t.data.length c'))
          (first | exact HALL.out _ ((Below.refl _ _).drew) | (refine HALL.out _ ?_; assumption))
          (first
            | (go_at_call_of 70 (t.info); (have hnow := (‹Hid (Below w2.heap.size w2 _) ∧ _›).1); have HNOW := hide hnow.out; refine (blocks_any a c t.info _ ?_ r1).mono ?_; exact HM.out.below (bthen HB2.out hnow.out); clear hnow; rintro e w10 ⟨am, cm, rfl, hsm, hb10⟩; have hbN := bthen HNOW.out hb10; have HSM := hide hsm; clear hb10 HNOW hsm)
            | (go_at_call_of 70 (t.data); (have hnow := (‹Hid (Below w2.heap.size w2 _) ∧ _›).1); have HNOW := hide hnow.out; refine (blocks_any a' c' t.data _ ?_ r2).mono ?_; exact HD.out.below (bthen HB2.out hnow.out); clear hnow; rintro e w11 ⟨ad, cd, rfl, hsd, hb10⟩; have hbN := bthen HNOW.out hb10; have HSD := hide hsd; have HSM2 := hide (HSM.out.below hb10); clear hb10 HNOW hsd))
        have hnow := (‹Hid (Below w2.heap.size w2 w11) ∧ _›).1
        have HB3 := hide (bthen HB2.out hnow.out)
        have hs3 : w.heap.size < w11.heap.size := by have := hnow.out.size; omega
        have K3 := hide (boxKeep hnow.out hs2 K2.out)
        have HR3 := hide (HR.out.below HB3.out)
        obtain ⟨⟨_, _, _, x3, x4, x5, x6, x7, x8, x9⟩, _⟩ := box10 K3.out
        have rM := rise_any am cm (blksOf t.info) w11 HSM2.out (by rw [blks_length]; exact N1.out)
        have rD := rise_any ad cd (blksOf t.data) w11 HSD.out (by rw [blks_length]; exact N2.out)
        have rR := rise_any r d t.rev w11 HR3.out N3.out
        rw [blks_length] at rM rD
        clear hnow HALL HM HD HR
        go_wp2_with fail
        refine rM.mono ?_
        rintro e w12 ⟨rfl, rfl⟩
        cases h3 : rises (blksOf t.info) with
        | false =>
          have HG : Hid (goodX t = false) := by rw [Hid, goodX_eq, h3]; simp
          go_wp2
          go_ret
          exact ⟨by rw [HG.out]; rfl, HB3.out⟩
        | true =>
          go_wp2_with fail
          refine rD.mono ?_
          rintro e w12 ⟨rfl, rfl⟩
          cases h4 : rises (blksOf t.data) with
          | false =>
            have HG : Hid (goodX t = false) := by rw [Hid, goodX_eq, h4]; simp
            go_wp2
            go_ret
            exact ⟨by rw [HG.out]; rfl, HB3.out⟩
          | true =>
            go_wp2_with fail
            refine rR.mono ?_
            rintro e w12 ⟨rfl, rfl⟩
            cases h5 : rises t.rev with
            | false =>
              have HG : Hid (goodX t = false) := by rw [Hid, goodX_eq, h5]; simp
              go_wp2
              go_ret
              exact ⟨by rw [HG.out]; rfl, HB3.out⟩
            | true =>
              have q3 := rises_length h3
              have q4 := rises_length h4
              have q5 := rises_length h5
              have HN := hide (all_rises t h3 h4 h5)
              have HF : Hid (flatI [(am, cm, blksOf t.info), (ad, cd, blksOf t.data), (r, d, t.rev)] = allOf t) := by simp [Hid, flatI, allOf]
              have HL : Hid (∀ w', Below w11.heap.size w11 w' → w'.cell? ⟨w11.heap.size, 0, none⟩ = some (.slice am (blksOf t.info).length cm) → w'.cell? ⟨w11.heap.size, 1, none⟩ = some (.slice ad (blksOf t.data).length cd) → w'.cell? ⟨w11.heap.size, 2, none⟩ = some (.slice r t.rev.length d) → w11.heap.size < w'.heap.size → SegLI w' w11.heap.size [(am, cm, blksOf t.info), (ad, cd, blksOf t.data), (r, d, t.rev)]) := by
                intro w' hb c0 c1 c2 hlt
                refine ⟨hlt, fun i x hx => ?_⟩
                match i, hx with
                | 0, hx => cases hx; exact ⟨c0, HSM2.out.below hb⟩
                | 1, hx => cases hx; exact ⟨c1, HSD.out.below hb⟩
                | 2, hx => cases hx; exact ⟨c2, HR3.out.below hb⟩
                | n + 3, hx => simp at hx
              go_wp2_with fail
              refine (apart_any w11.heap.size 3 3 [(am, cm, blksOf t.info), (ad, cd, blksOf t.data), (r, d, t.rev)] _ rfl (by omega) (HL.out _ (below1 _ _) (by rw [blks_length]; simp [go_sem]) (by rw [blks_length]; simp [go_sem]) (by simp [go_sem]) (by simp)) (by rw [HF.out, allOf, List.length_append, List.length_append]; omega)).mono ?_
              rintro e w12 ⟨rfl, hb12⟩
              rw [HF.out, HN.out]
              have hb13 := bthen (below1 _ _) hb12
              have HB4 := hide (bthen HB3.out hb13)
              have hs4 : w.heap.size < w12.heap.size := by have := hb13.size; omega
              have K4 := hide (boxKeep hb13 hs3 K3.out)
              clear x3 x4 x5 x6 x7 x8 x9 hb12 hb13
              obtain ⟨⟨_, _, _, _, x4, x5, x6, x7, x8, x9⟩, _⟩ := box10 K4.out
              cases h6 : decide (allOf t).Nodup with
              | false =>
                have HG : Hid (goodX t = false) := by rw [Hid, goodX_eq, h6]; simp
                go_wp2
                go_ret
                exact ⟨by rw [HG.out]; rfl, HB4.out⟩
              | true =>
                have HG : Hid (goodX t = (hdB t.h0 && hdB t.h1 && hdB t.h2)) := by rw [Hid, goodX_eq, H0.out, H1.out, H2.out, h3, h4, h5, h6]; simp
                go_wp2_with fail
                refine (bounded_any t.h0 t.h1 t.h2 _).mono ?_
                rintro e w13 ⟨rfl, hb13⟩
                go_wp2
                go_ret
                exact ⟨by rw [HG.out]; rfl, bthen HB4.out hb13⟩

end Go.Proofs.Ytjnpndfpajjihab
