/-
  The walk of package ring's Take.
-/
import Derived.Test.YtjnpndfpajjihabGreatROwn
import Derived.Test.YtjnpndfpajjihabGreatFillI
import Derived.Deep.RegionWith
namespace Go.Proofs.YtjnpndfpajjihabGreat
open Go.RowKit

set_option maxHeartbeats 4000000 in
set_option maxRecDepth 100000 in
theorem ringTake_cap (h u n : Int) (w : World) :
    Calls Tryz.prog 107 #[.agg #[.int .i64 h, .int .i64 u], .int .i64 n] w fun e w' => ∃ a2 c2, e = .returned (.tuple #[.agg #[.int .i64 (takeH h u n), .int .i64 (takeU h u n)], .slice a2 (takeL h u n).length c2, .int .i64 (takeE h u n)]) ∧ (SegI w' a2 (takeL h u n) ∧ (∀ b off, a2 = some ⟨b, off, none⟩ → w.heap.size ≤ b) ∧ (takeL h u n).length ≤ c2) ∧ Below w.heap.size w w' := by
  go_enter Tryz.func107, Tryz.ntmps107
  go_wp2_with fail
  refine (ringGood_any h u _).mono ?_
  rintro e w1 ⟨rfl, hb1⟩
  have hs1 : w.heap.size + 1 < w1.heap.size := by have := hb1.size; simp at this; omega
  have hs1' : w.heap.size < w1.heap.size := by omega
  obtain ⟨⟨x0, x1⟩, _⟩ := box2 (two1 hb1)
  obtain ⟨⟨y0, y1⟩, f0, f1⟩ := box2 (two2 hb1)
  have HB := hide (bthen (bthen (below1 _ _) (below1 _ _)) hb1)
  clear hb1
  by_cases hE : goodR h u = false ∨ n < 0
  · have HE : Hid (takeE h u n = 2) := by rw [Hid, takeE, if_pos hE]
    have HH : Hid (takeH h u n = h ∧ takeU h u n = u ∧ takeL h u n = []) := by simp [Hid, takeH, takeU, takeL, HE.out]
    cases hg : goodR h u with
    | false =>
      clear hg hE
      go_wp2
      refine bodyPost_ret (v := .tuple #[.agg #[.int .i64 h, .int .i64 u], .slice none 0 0, .int .i64 2]) (by simp [results, Tryz.results107, go_sem, y0, y1]) rfl ⟨none, 0, by rw [HE.out, HH.out.1, HH.out.2.1, HH.out.2.2]; rfl, ⟨.inl HH.out.2.2, fun _ _ e => (by cases e), (by rw [HH.out.2.2]; exact Nat.le_refl _)⟩, ?_⟩
      repeat refine Below.setCell ?_ (by simp) _
      exact HB.out
    | true =>
      have hn : n < 0 := by rw [hg] at hE; rcases hE with e | e; cases e; exact e
      clear hg hE
      go_wp2
      refine bodyPost_ret (v := .tuple #[.agg #[.int .i64 h, .int .i64 u], .slice none 0 0, .int .i64 2]) (by simp [results, Tryz.results107, go_sem, y0, y1]) rfl ⟨none, 0, by rw [HE.out, HH.out.1, HH.out.2.1, HH.out.2.2]; rfl, ⟨.inl HH.out.2.2, fun _ _ e => (by cases e), (by rw [HH.out.2.2]; exact Nat.le_refl _)⟩, ?_⟩
      repeat refine Below.setCell ?_ (by simp) _
      exact HB.out
  · have hg : goodR h u = true := by cases e : goodR h u; exact absurd (.inl e) hE; rfl
    have hb := goodR_yes hg
    have hn : ¬ n < 0 := fun e => hE (.inr e)
    rw [hg]
    go_wp2_with fail
    refine (ringFree_any h u _ hb.2.2.1 hb.2.2.2).mono ?_
    rintro e w2 ⟨rfl, hb2⟩
    have hs2 : w1.heap.size ≤ w2.heap.size := hb2.size
    replace x0 := cellKeep hb2 (by omega) x0
    replace x1 := cellKeep hb2 (by omega) x1
    replace y0 := cellKeep hb2 (by omega) y0
    replace y1 := cellKeep hb2 (by omega) y1
    replace f0 := frozKeep hb2 (by omega) f0
    replace f1 := frozKeep hb2 (by omega) f1
    replace HB := hide (bthen HB.out hb2)
    replace hs1 : w.heap.size + 1 < w2.heap.size := by omega
    replace hs1' : w.heap.size < w2.heap.size := by omega
    clear hb2
    by_cases hs : 24 - u < n
    · have HE : Hid (takeE h u n = 6) := by rw [Hid, takeE, if_neg hE, if_pos hs]
      have HH : Hid (takeH h u n = h ∧ takeU h u n = u ∧ takeL h u n = []) := by simp [Hid, takeH, takeU, takeL, HE.out]
      clear hg hE
      go_wp2
      refine bodyPost_ret (v := .tuple #[.agg #[.int .i64 h, .int .i64 u], .slice none 0 0, .int .i64 6]) (by simp [results, Tryz.results107, go_sem, y0, y1]) rfl ⟨none, 0, by rw [HE.out, HH.out.1, HH.out.2.1, HH.out.2.2]; rfl, ⟨.inl HH.out.2.2, fun _ _ e => (by cases e), (by rw [HH.out.2.2]; exact Nat.le_refl _)⟩, ?_⟩
      repeat refine Below.setCell ?_ (by simp) _
      exact HB.out
    · have HE : Hid (takeE h u n = 0) := by rw [Hid, takeE, if_neg hE, if_neg hs]
      obtain ⟨m, rfl⟩ := Int.eq_ofNat_of_zero_le (show 0 ≤ n by omega)
      have HH : Hid (takeH h u m = (h + m) % 24 ∧ takeU h u m = u + m ∧ takeL h u m = placesOf h m) := by simp [Hid, takeH, takeU, takeL, HE.out]
      have hm24 : m ≤ 24 := by omega
      clear hg hE
      have hmk := madeI m (by omega)
      go_wp2
      clear hmk
      go_loopw [28] (fun i wr => ∃ k : Nat, k ≤ m ∧ i = .int .i64 k ∧ Hid (wr.ownsRow w2.heap.size 3 1 (.slice (some ⟨w2.heap.size, 0, none⟩) m m) m (fillI (placesOf h k) (m - k))) ∧ Below w2.heap.size w2 wr) (fun i _ => m - (intOf i).toNat)
      case atStart => exact ⟨0, Nat.zero_le _, rfl, madeI_owns m (by omega) w2 w2.heap.size (Nat.le_refl _), below1 _ _⟩
      case round =>
        obtain ⟨k, hk, rfl, hown, hbr⟩ := hrel
        have hsr := hbr.size
        have hsr1 : w.heap.size < wr.heap.size := by omega
        have z0 := cellKeep hbr (by omega) x0
        have z1 := cellKeep hbr (by omega) x1
        by_cases hlt : k < m
        · have hlt' : (k : Int) < (m : Int) := by omega
          have hown4 := hown.out
          rw [show m - k = (m - k - 1) + 1 from by omega] at hown4
          have hcc := fillI_cell hown4
          have hst := fillI_step hown4 ((h + (k : Int)) % 24)
          rw [places_length] at hcc hst
          obtain ⟨⟨u0, hu⟩, hfz, _, _, _⟩ := hcc
          rw [← places_succ] at hst
          have HST := hide hst
          clear hst hown4 hown
          go_wp2_with (go_at_call 146; refine (place_any _ _ (by omega) (by omega)).mono ?_; rintro e w' ⟨rfl, rfl⟩)
          go_roundw
          case rel => exact ⟨k + 1, by omega, by go_num, by rw [show m - (k + 1) = m - k - 1 from by omega]; exact HST, hbr.setCell (by simp) _⟩
          case measure => simp [intOf]; omega
        · have e : m = k := by omega
          subst e
          have hown' := hown.out
          rw [Nat.sub_self, fillI_full] at hown'
          obtain ⟨a2, c2, hv, hS, hA⟩ := SegI.of_owns hown'
          rw [places_length] at hv
          simp only [Value.slice.injEq] at hv
          obtain ⟨ha2, _, hc2⟩ := hv
          subst ha2 hc2
          have HS := hide hS
          have HA := hide hA
          have HB2 := hide (bthen HB.out hbr)
          replace y0 := cellKeep hbr (by omega) y0
          replace y1 := cellKeep hbr (by omega) y1
          replace f0 := frozKeep hbr (by omega) f0
          replace f1 := frozKeep hbr (by omega) f1
          clear hown hown' hS hA hbr x0 x1
          have wr1 : IntKind.i64.wrap (h + (m : Int)) = h + (m : Int) := by rw [IntKind.wrap_i64]; omega
          have wr2 : IntKind.i64.wrap (u + (m : Int)) = u + (m : Int) := by rw [IntKind.wrap_i64]; omega
          go_wp2
          go_region_with (go_at_call 146; refine (place_any (h + (m : Int)) _ (by omega) (by omega)).mono ?_; rintro e w' ⟨rfl, rfl⟩)
          all_goals
            go_wp2
            refine bodyPost_ret (v := .tuple #[.agg #[.int .i64 ((h + (m : Int)) % 24), .int .i64 (u + m)], .slice (some ⟨w2.heap.size, 0, none⟩) m m, .int .i64 0]) (by simp [results, Tryz.results107, go_sem, y0, y1]) rfl ⟨_, m, by rw [HE.out, HH.out.1, HH.out.2.1, HH.out.2.2, places_length], ⟨?_, fun b off e => (by have := HA.out b off e; omega), (by rw [HH.out.2.2, places_length]; exact Nat.le_refl _)⟩, ?_⟩
            · rw [HH.out.2.2]
              rcases HS.out with h | ⟨b, off, e, hlt, hc⟩
              · exact .inl h
              · have := HA.out b off e
                exact .inr ⟨b, off, e, by simpa [World.setCell] using hlt, fun i hi => cellSet (cellSet (hc i hi) (by simp; omega)) (by simp; omega)⟩
            · exact ((HB2.out.setCell (by simp) _).setCell (by simp) _).drew

theorem ringTake_any (h u n : Int) (w : World) :
    Calls Tryz.prog 107 #[.agg #[.int .i64 h, .int .i64 u], .int .i64 n] w fun e w' => ∃ a2 c2, e = .returned (.tuple #[.agg #[.int .i64 (takeH h u n), .int .i64 (takeU h u n)], .slice a2 (takeL h u n).length c2, .int .i64 (takeE h u n)]) ∧ (SegI w' a2 (takeL h u n) ∧ ∀ b off, a2 = some ⟨b, off, none⟩ → w.heap.size ≤ b) ∧ Below w.heap.size w w' :=
  (ringTake_cap h u n w).mono fun _ _ ⟨a2, c2, h1, h2, h3⟩ => ⟨a2, c2, h1, ⟨h2.1, h2.2.1⟩, h3⟩

end Go.Proofs.YtjnpndfpajjihabGreat
