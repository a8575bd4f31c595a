/-
  The walk of the statement RingTakes.
-/
import Derived.Test.YtjnpndfpajjihaaRTail
import Derived.Test.YtjnpndfpajjihaaRTake
import Derived.Test.YtjnpndfpajjihaaRWalk
import Derived.Test.YtjnpndfpajjihaaRSkip
import Derived.Deep.QuietTactic
import Derived.BigQuiet
namespace Go.Proofs.Ytjnpndfpajjihaa
open Go.RowKit

theorem takeL_length (h u n : Int) : (takeL h u n).length ≤ 24 := by
  unfold takeL
  by_cases h0 : takeE h u n = 0
  · rw [if_pos h0, places_length]
    unfold takeE at h0
    split at h0
    · cases h0
    · rename_i h1
      split at h0
      · cases h0
      · have hg : goodR h u = true := by cases e : goodR h u; exact absurd (.inl e) h1; rfl
        have := goodR_yes hg
        omega
  · rw [if_neg h0]; simp

theorem goodRing_is (h u : Int) (b : Bool) (hg : goodR h u = b) (w : World) :
    Calls Try.prog 54 #[.agg #[.int .i64 h, .int .i64 u]] w fun e w' => e = .returned (.bool b) ∧ Below w.heap.size w w' := by
  rw [← hg]
  exact goodRing_any h u w

set_option maxHeartbeats 4000000 in
set_option maxRecDepth 100000 in
theorem ringTakes_walk (h u n : Int) (w : World) :
    Calls Try.prog 13 #[.agg #[.int .i64 h, .int .i64 u], .int .i64 n] w fun e w' => e = .returned (.bool true) ∧ Below w.heap.size w w' := by
  go_enter Try.func13, Try.ntmps13
  go_wp2_with fail
  refine (ringTake_any h u n _).mono ?_
  rintro e w1 ⟨a1, c1, rfl, ⟨hS1, _⟩, hb1⟩
  have hs1 : w.heap.size < w1.heap.size := by have := hb1.size; simp at this; omega
  have KX := hide (one1 hb1)
  obtain ⟨⟨x0, x1⟩, _⟩ := box2 KX.out
  have HB1 := hide (bthen (below1 _ _) hb1)
  have HS1 := hide hS1
  clear hb1 hS1
  go_wp2_with fail
  refine (takeRing_any h u n _).mono ?_
  rintro e w2 ⟨a2, c2, rfl, ⟨hS2, _⟩, hb2⟩
  have hs2 : w1.heap.size < w2.heap.size := by have := hb2.size; simp at this; omega
  have hs2' : w.heap.size < w2.heap.size := by omega
  have KY := hide (one1 hb2)
  have hb2' := bthen (below1 _ _) hb2
  replace KX := hide (boxKeep hb2' hs1 KX.out)
  have HB2 := hide (bthen HB1.out hb2')
  have HT1 := hide (HS1.out.below hb2')
  have HT2 := hide hS2
  clear hb2 hb2' hS2 HS1 HB1 x0 x1
  have HL := hide (takeL_length h u n)
  generalize takeH h u n = ah at *
  generalize takeU h u n = au at *
  generalize takeE h u n = ae at *
  generalize takeL h u n = l at *
  obtain ⟨⟨x0, x1⟩, _⟩ := box2 KX.out
  obtain ⟨⟨y0, y1⟩, _⟩ := box2 KY.out
  go_wp2
  clear x0 x1 y0 y1
  have HW := hide (below1 w2 (.cells #[.int .i64 ah, .int .i64 au] 61))
  have HU1 := hide (HT1.out.below HW.out)
  have HU2 := hide (HT2.out.below HW.out)
  have KV := hide (heap_alloc_new w2 (.cells #[.int .i64 ah, .int .i64 au] 61))
  clear HT1 HT2
  replace KX := hide (boxKeep HW.out hs2' KX.out)
  replace KY := hide (boxKeep HW.out hs2 KY.out)
  have hs3 : w2.heap.size < (w2.alloc (.cells #[.int .i64 ah, .int .i64 au] 61)).heap.size := by simp
  have HB3 := hide (bthen HB2.out HW.out)
  generalize w2.alloc (.cells #[.int .i64 ah, .int .i64 au] 61) = w3 at *
  clear HW HB2
  go_loopw [43] (fun i wr => ∃ k : Nat, k ≤ l.length ∧ i = .int .i64 k ∧ Below w3.heap.size w3 wr) (fun i _ => l.length - (intOf i).toNat)
  case atStart => exact ⟨0, Nat.zero_le _, rfl, Below.refl _ _⟩
  case round =>
    obtain ⟨k, hk, rfl, hbr⟩ := hrel
    by_cases hlt : k < l.length
    · have hlt' : (k : Int) < (l.length : Int) := by omega
      have h24 := HL.out
      obtain ⟨b1, o1, rfl, hl1, hc1⟩ := HU1.out.resolve_left (by intro e; rw [e] at hlt; simp at hlt)
      obtain ⟨b2, o2, rfl, hl2, hc2⟩ := HU2.out.resolve_left (by intro e; rw [e] at hlt; simp at hlt)
      have p1 := cellKeep hbr hl1 (hc1 k hlt)
      have p2 := cellKeep hbr hl2 (hc2 k hlt)
      generalize l.getD k 0 = x at p1 p2
      clear hc1 hc2
      go_wp2
      go_quiet (fail)
      go_wp2
      go_roundw
      case rel => exact ⟨k + 1, by omega, by go_num, below_drewN hbr _⟩
      case measure => simp [intOf]; omega
    · have e : k = l.length := by omega
      have hsr := hbr.size
      replace KX := hide (boxKeep hbr (by omega) KX.out)
      replace KY := hide (boxKeep hbr (by omega) KY.out)
      replace KV := hide (boxKeep hbr hs3 KV.out)
      replace HB3 := hide (bthen HB3.out hbr)
      have hr0 : w.heap.size < wr.heap.size := by omega
      have hr1 : w1.heap.size < wr.heap.size := by omega
      have hr2 : w2.heap.size < wr.heap.size := by omega
      subst e
      clear hbr HU1 HU2 hsr hs3
      obtain ⟨⟨x0, x1⟩, _⟩ := box2 KX.out
      go_wp2_with fail
      refine (ringGive_any h u n _).mono ?_
      rintro e w4 ⟨rfl, hb4⟩
      have hs4 := hb4.size
      clear x0 x1
      replace KX := hide (boxKeep hb4 hr0 KX.out)
      replace KY := hide (boxKeep hb4 hr1 KY.out)
      replace KV := hide (boxKeep hb4 hr2 KV.out)
      replace HB3 := hide (bthen HB3.out hb4)
      obtain ⟨⟨x0, x1⟩, _⟩ := box2 KX.out
      obtain ⟨⟨y0, y1⟩, f0, f1⟩ := box2 KY.out
      clear hb4
      go_wp2_with fail
      have hsz := box2Size w4 w1.heap.size (.int .i64 h) (.int .i64 (giveU h u n))
      replace HB3 := hide ((HB3.out.setCell (p := ⟨w1.heap.size, 0, none⟩) (by simp; omega) (.int .i64 h)).setCell (p := ⟨w1.heap.size, 1, none⟩) (by simp; omega) (.int .i64 (giveU h u n)))
      replace KX := hide (box2Other KX.out (by omega : w.heap.size ≠ w1.heap.size) (.int .i64 h) (.int .i64 (giveU h u n)))
      replace KV := hide (box2Other KV.out (by omega : w2.heap.size ≠ w1.heap.size) (.int .i64 h) (.int .i64 (giveU h u n)))
      replace KY := hide (box2Set KY.out (.int .i64 h) (.int .i64 (giveU h u n)))
      clear x0 x1 y0 y1 f0 f1
      generalize (w4.setCell ⟨w1.heap.size, 0, none⟩ (.int .i64 h)).setCell ⟨w1.heap.size, 1, none⟩ (.int .i64 (giveU h u n)) = w5 at *
      refine (giveRing_any h u n _).mono ?_
      rintro e w6 ⟨rfl, hb6⟩
      have hs6 := hb6.size
      replace KX := hide (boxKeep hb6 (by omega) KX.out)
      replace KY := hide (boxKeep hb6 (by omega) KY.out)
      replace KV := hide (boxKeep hb6 (by omega) KV.out)
      replace HB3 := hide (bthen HB3.out hb6)
      have hq0 : w.heap.size < w6.heap.size := by omega
      have hq1 : w1.heap.size < w6.heap.size := by omega
      have hq2 : w2.heap.size < w6.heap.size := by omega
      clear hb6 hs6 hsz hs4
      obtain ⟨⟨x0, x1⟩, _⟩ := box2 KX.out
      obtain ⟨⟨v0, v1⟩, g0, g1⟩ := box2 KV.out
      generalize giveU h u n = gu at *
      generalize giveE h u n = ge at *
      go_wp2
      clear x0 x1 v0 v1 g0 g1
      have hsz := box2Size w6 w2.heap.size (.int .i64 h) (.int .i64 gu)
      replace HB3 := hide ((HB3.out.setCell (p := ⟨w2.heap.size, 0, none⟩) (by simp; omega) (.int .i64 h)).setCell (p := ⟨w2.heap.size, 1, none⟩) (by simp; omega) (.int .i64 gu))
      replace KX := hide (box2Other KX.out (by omega : w.heap.size ≠ w2.heap.size) (.int .i64 h) (.int .i64 gu))
      replace KY := hide (box2Other KY.out (by omega : w1.heap.size ≠ w2.heap.size) (.int .i64 h) (.int .i64 gu))
      replace KV := hide (box2Set KV.out (.int .i64 h) (.int .i64 gu))
      generalize (w6.setCell ⟨w2.heap.size, 0, none⟩ (.int .i64 h)).setCell ⟨w2.heap.size, 1, none⟩ (.int .i64 gu) = w7 at *
      have hr0 : w.heap.size < w7.heap.size := by omega
      have hr1 : w1.heap.size < w7.heap.size := by omega
      have hr2 : w2.heap.size < w7.heap.size := by omega
      have HALL : Hid (∀ w', Below w7.heap.size w7 w' → Hid (Below w7.heap.size w7 w') ∧ w'.cell? ⟨w.heap.size, 0, none⟩ = some (.int .i64 h) ∧ w'.cell? ⟨w.heap.size, 1, none⟩ = some (.int .i64 u) ∧ w'.cell? ⟨w1.heap.size, 0, none⟩ = some (.int .i64 h) ∧ w'.cell? ⟨w1.heap.size, 1, none⟩ = some (.int .i64 gu) ∧ w'.cell? ⟨w2.heap.size, 0, none⟩ = some (.int .i64 h) ∧ w'.cell? ⟨w2.heap.size, 1, none⟩ = some (.int .i64 gu)) := by
        intro w' hb
        have k1 := (box2 (boxKeep hb hr0 KX.out)).1
        have k2 := (box2 (boxKeep hb hr1 KY.out)).1
        have k3 := (box2 (boxKeep hb hr2 KV.out)).1
        exact ⟨hb, k1.1, k1.2, k2.1, k2.2, k3.1, k3.2⟩
      go_region_held3 (fun w' => Hid (Below w7.heap.size w7 w') ∧ w'.cell? ⟨w.heap.size, 0, none⟩ = some (.int .i64 h) ∧ w'.cell? ⟨w.heap.size, 1, none⟩ = some (.int .i64 u) ∧ w'.cell? ⟨w1.heap.size, 0, none⟩ = some (.int .i64 h) ∧ w'.cell? ⟨w1.heap.size, 1, none⟩ = some (.int .i64 gu) ∧ w'.cell? ⟨w2.heap.size, 0, none⟩ = some (.int .i64 h) ∧ w'.cell? ⟨w2.heap.size, 1, none⟩ = some (.int .i64 gu))
        (first | exact HALL.out _ ((Below.refl _ _).drew) | (refine HALL.out _ ?_; assumption))
        (first
          | (go_at_call 53; (have hnow := (‹Hid (Below w7.heap.size w7 _) ∧ _›).1); have HNOW := hide hnow.out; refine (ringGood_any h u _).mono ?_; clear hnow; rintro e w10 ⟨rfl, hb10⟩; have hbN := bthen HNOW.out hb10; clear hb10 HNOW)
          | (go_at_call 54; (have hnow := (‹Hid (Below w7.heap.size w7 _) ∧ _›).1); have HNOW := hide hnow.out; refine (goodRing_any h u _).mono ?_; clear hnow; rintro e w10 ⟨rfl, hb10⟩; have hbN := bthen HNOW.out hb10; clear hb10 HNOW))
      all_goals
        cases hg : goodR h u with
        | false =>
          have HG := hide hg
          clear hg
          have HN := hide hbN
          clear hbN
          have HALL2 : Hid (∀ w', Below w7.heap.size w7 w' → Hid (Below w7.heap.size w7 w') ∧ w'.cell? ⟨w.heap.size, 0, none⟩ = some (.int .i64 h) ∧ w'.cell? ⟨w.heap.size, 1, none⟩ = some (.int .i64 u)) := by
            intro w' hb
            have k1 := (box2 (boxKeep hb hr0 KX.out)).1
            exact ⟨hb, k1.1, k1.2⟩
          go_wp2
          refine wp_region_held_drew (S := (fun w' => Hid (Below w7.heap.size w7 w') ∧ w'.cell? ⟨w.heap.size, 0, none⟩ = some (.int .i64 h) ∧ w'.cell? ⟨w.heap.size, 1, none⟩ = some (.int .i64 u))) (by kernel_rfl) (HALL2.out _ HN.out.drew) (fun hHeld => ?_)
          refine held_take 0 _ 83 (.agg #[.int .i64 h, .int .i64 u]) (by kernel_rfl) (by kernel_rfl) (by kernel_rfl) rfl rfl rfl ?ld (fun _ _ _ h => h) (by assumption) ?_
          case ld =>
            intro w hSw
            go_simp
          simp only [Act.put, List.setIfInBounds_toArray, List.set_cons_zero, List.set_cons_succ]
          refine wpAnyH_ready (rs := [1]) (by kernel_rfl) (by simp) ?_
          refine AllReadyH.cons rfl (fun K hK => ?_) AllReadyH.nil
          go_simp
          refine (goodRing_is h u false HG.out _).mono ?_
          rintro e w12 ⟨rfl, hb12⟩
          go_wp2_with fail
          have HN2 := hide (bthen HN.out.drew hb12)
          refine hK.out _ _ (HALL2.out _ HN2.out) (fun hHeld2 => ?_)
          clear hK K hHeld hb12
          refine held_take 2 _ 85 (.bool true) (by kernel_rfl) (by kernel_rfl) (by kernel_rfl) rfl rfl rfl ?_ (fun _ _ _ h => h) (by assumption) ?_
          · intro w hSw
            go_simp
          simp only [Act.put, List.setIfInBounds_toArray, List.set_cons_zero, List.set_cons_succ]
          refine held_take 3 _ 86 (.bool true) (by kernel_rfl) (by kernel_rfl) (by kernel_rfl) rfl rfl rfl ?_ (fun _ _ _ h => h) (by assumption) ?_
          · intro w hSw
            go_simp
          simp only [Act.put, List.setIfInBounds_toArray, List.set_cons_zero, List.set_cons_succ]
          refine held_skip 4 87 (by kernel_rfl) (by kernel_rfl) (by kernel_rfl) rfl (fun _ _ _ h => h) (by assumption) ?_
          simp only [Act.put, List.setIfInBounds_toArray, List.set_cons_zero, List.set_cons_succ]
          refine held_skip 5 88 (by kernel_rfl) (by kernel_rfl) (by kernel_rfl) rfl (fun _ _ _ h => h) (by assumption) ?_
          simp only [Act.put, List.setIfInBounds_toArray, List.set_cons_zero, List.set_cons_succ]
          refine held_skip 6 89 (by kernel_rfl) (by kernel_rfl) (by kernel_rfl) rfl (fun _ _ _ h => h) (by assumption) ?_
          simp only [Act.put, List.setIfInBounds_toArray, List.set_cons_zero, List.set_cons_succ]
          refine held_skip 7 90 (by kernel_rfl) (by kernel_rfl) (by kernel_rfl) rfl (fun _ _ _ h => h) (by assumption) ?_
          simp only [Act.put, List.setIfInBounds_toArray, List.set_cons_zero, List.set_cons_succ]
          refine held_skip 8 91 (by kernel_rfl) (by kernel_rfl) (by kernel_rfl) rfl (fun _ _ _ h => h) (by assumption) ?_
          simp only [Act.put, List.setIfInBounds_toArray, List.set_cons_zero, List.set_cons_succ]
          refine held_skip 9 92 (by kernel_rfl) (by kernel_rfl) (by kernel_rfl) rfl (fun _ _ _ h => h) (by assumption) ?_
          simp only [Act.put, List.setIfInBounds_toArray, List.set_cons_zero, List.set_cons_succ]
          refine held_skip 10 93 (by kernel_rfl) (by kernel_rfl) (by kernel_rfl) rfl (fun _ _ _ h => h) (by assumption) ?_
          simp only [Act.put, List.setIfInBounds_toArray, List.set_cons_zero, List.set_cons_succ]
          refine held_skip 11 94 (by kernel_rfl) (by kernel_rfl) (by kernel_rfl) rfl (fun _ _ _ h => h) (by assumption) ?_
          simp only [Act.put, List.setIfInBounds_toArray, List.set_cons_zero, List.set_cons_succ]
          refine held_skip 12 95 (by kernel_rfl) (by kernel_rfl) (by kernel_rfl) rfl (fun _ _ _ h => h) (by assumption) ?_
          simp only [Act.put, List.setIfInBounds_toArray, List.set_cons_zero, List.set_cons_succ]
          refine held_skip 13 96 (by kernel_rfl) (by kernel_rfl) (by kernel_rfl) rfl (fun _ _ _ h => h) (by assumption) ?_
          simp only [Act.put, List.setIfInBounds_toArray, List.set_cons_zero, List.set_cons_succ]
          refine held_skip 14 97 (by kernel_rfl) (by kernel_rfl) (by kernel_rfl) rfl (fun _ _ _ h => h) (by assumption) ?_
          simp only [Act.put, List.setIfInBounds_toArray, List.set_cons_zero, List.set_cons_succ]
          refine held_skip 15 98 (by kernel_rfl) (by kernel_rfl) (by kernel_rfl) rfl (fun _ _ _ h => h) (by assumption) ?_
          simp only [Act.put, List.setIfInBounds_toArray, List.set_cons_zero, List.set_cons_succ]
          refine held_skip 16 99 (by kernel_rfl) (by kernel_rfl) (by kernel_rfl) rfl (fun _ _ _ h => h) (by assumption) ?_
          simp only [Act.put, List.setIfInBounds_toArray, List.set_cons_zero, List.set_cons_succ]
          refine held_skip 17 100 (by kernel_rfl) (by kernel_rfl) (by kernel_rfl) rfl (fun _ _ _ h => h) (by assumption) ?_
          simp only [Act.put, List.setIfInBounds_toArray, List.set_cons_zero, List.set_cons_succ]
          refine held_skip 18 101 (by kernel_rfl) (by kernel_rfl) (by kernel_rfl) rfl (fun _ _ _ h => h) (by assumption) ?_
          simp only [Act.put, List.setIfInBounds_toArray, List.set_cons_zero, List.set_cons_succ]
          refine held_skip 19 102 (by kernel_rfl) (by kernel_rfl) (by kernel_rfl) rfl (fun _ _ _ h => h) (by assumption) ?_
          simp only [Act.put, List.setIfInBounds_toArray, List.set_cons_zero, List.set_cons_succ]
          refine held_skip 20 103 (by kernel_rfl) (by kernel_rfl) (by kernel_rfl) rfl (fun _ _ _ h => h) (by assumption) ?_
          simp only [Act.put, List.setIfInBounds_toArray, List.set_cons_zero, List.set_cons_succ]
          refine held_skip 21 104 (by kernel_rfl) (by kernel_rfl) (by kernel_rfl) rfl (fun _ _ _ h => h) (by assumption) ?_
          simp only [Act.put, List.setIfInBounds_toArray, List.set_cons_zero, List.set_cons_succ]
          refine held_skip 22 105 (by kernel_rfl) (by kernel_rfl) (by kernel_rfl) rfl (fun _ _ _ h => h) (by assumption) ?_
          simp only [Act.put, List.setIfInBounds_toArray, List.set_cons_zero, List.set_cons_succ]
          refine held_skip 23 106 (by kernel_rfl) (by kernel_rfl) (by kernel_rfl) rfl (fun _ _ _ h => h) (by assumption) ?_
          simp only [Act.put, List.setIfInBounds_toArray, List.set_cons_zero, List.set_cons_succ]
          refine held_skip 24 107 (by kernel_rfl) (by kernel_rfl) (by kernel_rfl) rfl (fun _ _ _ h => h) (by assumption) ?_
          simp only [Act.put, List.setIfInBounds_toArray, List.set_cons_zero, List.set_cons_succ]
          refine held_take 25 _ 108 (.bool true) (by kernel_rfl) (by kernel_rfl) (by kernel_rfl) rfl rfl rfl ?_ (fun _ _ _ h => h) (by assumption) ?_
          · intro w hSw
            go_simp
          simp only [Act.put, List.setIfInBounds_toArray, List.set_cons_zero, List.set_cons_succ]
          refine held_take 26 _ 4 (.bool true) (by kernel_rfl) (by kernel_rfl) (by kernel_rfl) rfl rfl rfl ?_ (fun _ _ _ h => h) (by assumption) ?_
          · intro w hSw
            go_simp
          simp only [Act.put, List.setIfInBounds_toArray, List.set_cons_zero, List.set_cons_succ]
          refine wpAnyH_done (by kernel_rfl) ?_ _
          go_wp2
          go_ret
          exact ⟨rfl, bthen HB3.out HN2.out⟩
        | true =>
          have hb := goodR_yes hg
          have wr1 : IntKind.i64.wrap (24 - u) = 24 - u := by rw [IntKind.wrap_i64]; omega
          have wr2 : IntKind.i64.wrap (h - u) = h - u := by rw [IntKind.wrap_i64]; omega
          have wr3 : IntKind.i64.wrap (h - u + 24) = h - u + 24 := by rw [IntKind.wrap_i64]; omega
          have wr4 : (h - u + 24).tmod 24 = (h - u) % 24 := by rw [Int.tmod_eq_emod_of_nonneg (by omega)]; omega
          have wr5 : IntKind.i64.wrap ((h - u) % 24) = (h - u) % 24 := by rw [IntKind.wrap_i64]; omega
          have HG := hide hg
          clear hg
          go_wp2
          go_region_held3 (fun w' => Hid (Below w7.heap.size w7 w') ∧ w'.cell? ⟨w.heap.size, 0, none⟩ = some (.int .i64 h) ∧ w'.cell? ⟨w.heap.size, 1, none⟩ = some (.int .i64 u) ∧ w'.cell? ⟨w1.heap.size, 0, none⟩ = some (.int .i64 h) ∧ w'.cell? ⟨w1.heap.size, 1, none⟩ = some (.int .i64 gu) ∧ w'.cell? ⟨w2.heap.size, 0, none⟩ = some (.int .i64 h) ∧ w'.cell? ⟨w2.heap.size, 1, none⟩ = some (.int .i64 gu))
            (first | exact HALL.out _ (hbN.drew) | (refine HALL.out _ ?_; assumption))
            (first
              | (go_at_call 54; (have hnow := (‹Hid (Below w7.heap.size w7 _) ∧ _›).1); have HNOW := hide hnow.out; refine (goodRing_is h u true ?_ _).mono ?_; exact HG.out; clear hnow; rintro e w10 ⟨rfl, hb10⟩; have hbN := bthen HNOW.out hb10; clear hb10 HNOW)
              | (go_at_call 55; (have hnow := (‹Hid (Below w7.heap.size w7 _) ∧ _›).1); have HNOW := hide hnow.out; refine (ringFree_any h u _ ?_ ?_).mono ?_; exact hb.2.2.1; exact hb.2.2.2; clear hnow; rintro e w10 ⟨rfl, hb10⟩; have hbN := bthen HNOW.out hb10; clear hb10 HNOW)
              | (go_at_call 56; (have hnow := (‹Hid (Below w7.heap.size w7 _) ∧ _›).1); have HNOW := hide hnow.out; refine (ringTail_any h u _ ?_).mono ?_; exact HG.out; clear hnow; rintro e w10 ⟨rfl, hb10⟩; have hbN := bthen HNOW.out hb10; clear hb10 HNOW)
              | (go_at_call 57; (have hnow := (‹Hid (Below w7.heap.size w7 _) ∧ _›).1); have HNOW := hide hnow.out; refine (lawRings_any _).mono ?_; clear hnow; rintro e w10 ⟨rfl, hb10⟩; have hbN := bthen HNOW.out hb10; clear hb10 HNOW))
          all_goals
            go_wp2
            go_ret
            refine ⟨rfl, bthen HB3.out ?_⟩
            assumption

end Go.Proofs.Ytjnpndfpajjihaa
