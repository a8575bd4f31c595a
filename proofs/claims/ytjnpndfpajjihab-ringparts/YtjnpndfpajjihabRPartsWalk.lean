/-
  The walk of the statement RingParts.
-/
import Derived.Test.YtjnpndfpajjihabRTail
import Derived.Test.YtjnpndfpajjihabRTake
import Derived.Test.YtjnpndfpajjihabRParts
import Derived.Test.YtjnpndfpajjihabSetI
import Derived.Test.YtjnpndfpajjihabRSkip
namespace Go.Proofs.Ytjnpndfpajjihab
open Go.RowKit

theorem wf_small {x : Int} (h : 0 ≤ x) (h2 : x < 1000000) : (Lit.int .i64 x).wf = true := by
  have e1 : IntKind.i64.min = -9223372036854775808 := by decide
  have e2 : IntKind.i64.max = 9223372036854775807 := by decide
  simp only [Lit.wf, e1, e2, Bool.and_eq_true, decide_eq_true_eq]
  omega

theorem ringTail_is (h u x : Int) (w : World) (hg : goodR h u = true) (e : (h - u) % 24 = x) :
    Calls Try.prog 15 #[.agg #[.int .i64 h, .int .i64 u]] w fun e w' => e = .returned (.int .i64 x) ∧ Below w.heap.size w w' := by
  rw [← e]
  exact ringTail_any h u w hg

set_option maxHeartbeats 4000000 in
set_option maxRecDepth 100000 in
theorem ringParts_walk (h u n m : Int) (w : World) (hn : -9223372036854775808 ≤ n) (hn2 : n ≤ 9223372036854775807) (hm : -9223372036854775808 ≤ m) (hm2 : m ≤ 9223372036854775807) :
    Calls Try.prog 3 #[.agg #[.int .i64 h, .int .i64 u], .int .i64 n, .int .i64 m] w fun e w' => e = .returned (.bool true) ∧ Below w.heap.size w w' := by
  go_enter Try.func3, Try.ntmps3
  go_wp2_with fail
  refine (pick_any n 25 _ (by omega) (by omega) hn hn2).mono ?_
  rintro e w1 ⟨rfl, rfl⟩
  go_wp2_with fail
  refine (pick_any m 25 _ (by omega) (by omega) hm hm2).mono ?_
  rintro e w1 ⟨rfl, rfl⟩
  obtain ⟨N, hN⟩ := Int.eq_ofNat_of_zero_le (Int.emod_nonneg n (show (25 : Int) ≠ 0 by omega))
  obtain ⟨M, hM⟩ := Int.eq_ofNat_of_zero_le (Int.emod_nonneg m (show (25 : Int) ≠ 0 by omega))
  have hN25 : N < 25 := by have := Int.emod_lt_of_pos n (show (0 : Int) < 25 by omega); omega
  have hM25 : M < 25 := by have := Int.emod_lt_of_pos m (show (0 : Int) < 25 by omega); omega
  rw [hN, hM]
  clear hN hM hn hn2 hm hm2
  go_wp2_with fail
  refine (ringTake_any h u N _).mono ?_
  rintro e w1 ⟨a1, c1, rfl, ⟨hS1, _⟩, hb1⟩
  have hs1 : w.heap.size < w1.heap.size := by have := hb1.size; simp at this; omega
  have KR := hide (one1 hb1)
  have HB1 := hide (bthen (below1 _ _) hb1)
  have HS1 := hide hS1
  clear hb1 hS1
  go_wp2_with fail
  refine (ringTake_any (takeH h u N) (takeU h u N) M _).mono ?_
  rintro e w2 ⟨a2, c2, rfl, ⟨hS2, _⟩, hb2⟩
  have hs2 : w1.heap.size < w2.heap.size := by have := hb2.size; simp at this; omega
  have hs2' : w.heap.size < w2.heap.size := by omega
  have hb2' := bthen (below1 _ _) hb2
  replace KR := hide (boxKeep hb2' hs1 KR.out)
  have HB2 := hide (bthen HB1.out hb2')
  have HT1 := hide (HS1.out.below hb2')
  have HT2 := hide hS2
  clear hb2 hb2' hS2 HS1 HB1
  obtain ⟨⟨x0, x1⟩, _⟩ := box2 KR.out
  go_wp2_with fail
  refine (ringTake_any h u (N + M) _).mono ?_
  rintro e w3 ⟨a3, c3, rfl, ⟨hS3, _⟩, hb3⟩
  have hs3 : w2.heap.size < w3.heap.size := by have := hb3.size; simp at this; omega
  have KB := hide (one1 hb3)
  have hb3' := bthen (below1 _ _) hb3
  replace KR := hide (boxKeep hb3' (by omega) KR.out)
  have HB3 := hide (bthen HB2.out hb3')
  have HU1 := hide (HT1.out.below hb3')
  have HU2 := hide (HT2.out.below hb3')
  have HU3 := hide hS3
  clear hb3 hb3' hS3 HT1 HT2 HB2 x0 x1
  have hs3' : w.heap.size < w3.heap.size := by omega
  by_cases hA : takeE h u N = 0 ∧ takeE (takeH h u N) (takeU h u N) M = 0
  · obtain ⟨e1, e2⟩ := hA
    obtain ⟨b1, b2, b3⟩ := takeE_ok.1 e1
    have q1 : takeH h u N = (h + N) % 24 ∧ takeU h u N = u + N ∧ takeL h u N = placesOf h N := by simp [takeH, takeU, takeL, e1]
    rw [q1.1, q1.2.1] at e2
    obtain ⟨b4, b5, b6⟩ := takeE_ok.1 e2
    have e3 : takeE h u (N + M) = 0 := takeE_ok.2 ⟨b1, by omega, by omega⟩
    have q3 : takeH h u (N + M) = (h + (N + M)) % 24 ∧ takeU h u (N + M) = u + (N + M) ∧ takeL h u (N + M) = placesOf h (N + M) := by
      refine ⟨by simp [takeH, e3], by simp [takeU, e3], ?_⟩
      rw [takeL, if_pos e3]
      rfl
    have q2 : takeH ((h + N) % 24) (u + N) M = (h + (N + M)) % 24 ∧ takeU ((h + N) % 24) (u + N) M = u + (N + M) ∧ takeL ((h + N) % 24) (u + N) M = placesOf ((h + N) % 24) M := by
      refine ⟨?_, ?_, by simp [takeL, e2]⟩
      · simp only [takeH, e2, if_pos]; omega
      · simp only [takeU, e2, if_pos]; omega
    rw [q1.1, q1.2.1, q1.2.2, e1, q2.1, q2.2.1, q2.2.2, e2, q3.1, q3.2.1, q3.2.2, e3, places_length, places_length, places_length]
    rw [q1.2.2] at HU1
    rw [q1.1, q1.2.1, q2.2.2] at HU2
    rw [q3.2.2] at HU3
    rw [q1.1, q1.2.1, q2.1, q2.2.1] at KB
    clear q1 q2 q3 e1 e2 e3
    have HW := hide (below1 w3 (.cells #[.int .i64 ((h + (N + M)) % 24), .int .i64 (u + (N + M))] 23))
    have KC := hide (heap_alloc_new w3 (.cells #[.int .i64 ((h + (N + M)) % 24), .int .i64 (u + (N + M))] 23))
    have hs4 : w3.heap.size < (w3.alloc (.cells #[.int .i64 ((h + (N + M)) % 24), .int .i64 (u + (N + M))] 23)).heap.size := by simp
    replace KR := hide (boxKeep HW.out hs3' KR.out)
    replace KB := hide (boxKeep HW.out hs3 KB.out)
    replace HU1 := hide (HU1.out.below HW.out)
    replace HU2 := hide (HU2.out.below HW.out)
    replace HU3 := hide (HU3.out.below HW.out)
    have HB4 := hide (bthen HB3.out HW.out)
    go_wp2_with fail
    generalize w3.alloc (.cells #[.int .i64 ((h + (N + M)) % 24), .int .i64 (u + (N + M))] 23) = w4 at *
    refine (keepRings_any _).mono ?_
    rintro e w5 ⟨rfl, hb5⟩
    have hs5 := hb5.size
    replace KR := hide (boxKeep hb5 (by omega) KR.out)
    replace KB := hide (boxKeep hb5 (by omega) KB.out)
    replace KC := hide (boxKeep hb5 hs4 KC.out)
    replace HU1 := hide (HU1.out.below hb5)
    replace HU2 := hide (HU2.out.below hb5)
    replace HU3 := hide (HU3.out.below hb5)
    have HB5 := hide (bthen HB4.out hb5)
    have hr : w.heap.size < w5.heap.size := by omega
    have hrb : w2.heap.size < w5.heap.size := by omega
    have hrc : w3.heap.size < w5.heap.size := by omega
    clear hb5 hs4 HB3 HB4 HW
    obtain ⟨⟨y0, y1⟩, _⟩ := box2 KB.out
    obtain ⟨⟨z0, z1⟩, _⟩ := box2 KC.out
    have hNM : (N : Int) + M ≤ 48 := by omega
    have hmk := fun w : World => run_makeMap (P := Try.prog) 30 w
    go_wp2
    clear y0 y1 z0 z1 hmk
    go_loopw [83] (fun i wr => ∃ k : Nat, k ≤ N + M ∧ i = .int .i64 k ∧ Hid (SetI wr w5.heap.size (placesOf h k)) ∧ Below w5.heap.size w5 wr) (fun i _ => N + M - (intOf i).toNat)
    case atStart => exact ⟨0, Nat.zero_le _, rfl, SetI.made w5, below1 _ _⟩
    case round =>
      obtain ⟨k, hk, rfl, hset, hbr⟩ := hrel
      have hsr := hbr.size
      by_cases hlt : k < N + M
      · have hlt' : (k : Int) < (N : Int) + (M : Int) := by omega
        obtain ⟨o3, p3, rfl, hl3, hc3⟩ := HU3.out.resolve_left (by intro e; have := congrArg List.length e; rw [places_length] at this; simp at this; omega)
        have g3 := cellKeep hbr hl3 (hc3 k (by rw [places_length]; exact hlt))
        rw [places_get h (N + M) k hlt] at g3
        obtain ⟨X, hX⟩ : ∃ X : Int, X = (h + (k : Int)) % 24 := ⟨_, rfl⟩
        have HX := hide hX
        rw [← hX] at g3
        have hx : (Lit.int .i64 X).wf = true := wf_small (by omega) (by omega)
        have hlook := hset.out.look _ hx
        rw [decide_eq_false (by rw [hX]; exact places_not h k (by omega))] at hlook
        obtain ⟨w6, hst, hset6, hg6⟩ := hset.out.store _ hx (by rw [places_length]; omega)
        rw [hX, ← places_succ] at hset6
        have HS6 := hide hset6
        have HB6 := hide (hbr.grown hg6 hsr (fun j hj => by cases hj; exact Nat.le_refl _))
        clear hset6 hg6 hX
        by_cases hkN : k < N
        · have hkN' : (k : Int) < (N : Int) := by omega
          obtain ⟨o1, p1, rfl, hl1, hc1⟩ := HU1.out.resolve_left (by intro e; have := congrArg List.length e; rw [places_length] at this; simp at this; omega)
          have g1 := cellKeep hbr hl1 (hc1 k (by rw [places_length]; exact hkN))
          rw [places_get h N k hkN, ← HX.out] at g1
          clear hc1 hc3
          go_wp2
          go_roundw
          case rel => exact ⟨k + 1, by omega, by go_num, HS6, HB6.out⟩
          case measure => simp [intOf]; omega
        · obtain ⟨j, rfl⟩ : ∃ j, k = N + j := ⟨k - N, by omega⟩
          have hj : j < M := by omega
          have hj' : (j : Int) < (M : Int) := by omega
          have hkN' : ¬ (((N + j : Nat) : Int) < (N : Int)) := by omega
          have hsub : ((N + j : Nat) : Int) - (N : Int) = (j : Int) := by omega
          obtain ⟨o2, p2, rfl, hl2, hc2⟩ := HU2.out.resolve_left (by intro e; have := congrArg List.length e; rw [places_length] at this; simp at this; omega)
          have g2 := cellKeep hbr hl2 (hc2 j (by rw [places_length]; exact hj))
          rw [places_get _ M j hj, show ((h + (N : Int)) % 24 + (j : Int)) % 24 = X from by have := HX.out; omega] at g2
          clear hc2 hc3
          go_wp2
          go_roundw
          case rel => exact ⟨N + j + 1, by omega, by go_num, HS6, HB6.out⟩
          case measure => simp [intOf]; omega
      · have e : k = N + M := by omega
        replace KR := hide (boxKeep hbr hr KR.out)
        replace KC := hide (boxKeep hbr hrc KC.out)
        replace HB5 := hide (bthen HB5.out hbr)
        have hr1 : w.heap.size < wr.heap.size := by omega
        have hr3 : w3.heap.size < wr.heap.size := by omega
        subst e
        clear hset hbr HU1 HU2 HU3 KB
        obtain ⟨⟨x0, x1⟩, _⟩ := box2 KR.out
        obtain ⟨⟨z0, z1⟩, _⟩ := box2 KC.out
        go_wp2_with fail
        refine (ringGive_any _ _ (u + N) _).mono ?_
        rintro e w6 ⟨rfl, hb6⟩
        have hg : giveE ((h + (N + M)) % 24) (u + (N + M)) (u + N) = 0 := by
          rw [giveE, if_neg]
          rintro (e | e | e)
          · simp [goodR] at e; omega
          · omega
          · omega
        have hgu : giveU ((h + (N + M)) % 24) (u + (N + M)) (u + N) = M := by rw [giveU, if_pos hg]; omega
        rw [hg, hgu]
        clear x0 x1 z0 z1
        replace KR := hide (boxKeep hb6 hr1 KR.out)
        replace KC := hide (boxKeep hb6 hr3 KC.out)
        replace HB5 := hide (bthen HB5.out hb6)
        have hs6 := hb6.size
        have hr1 : w.heap.size < w6.heap.size := by omega
        have hr3 : w3.heap.size < w6.heap.size := by omega
        clear hb6 hg hgu
        have HW7 := hide (below1 w6 (.cells #[.int .i64 ((h + (N + M)) % 24), .int .i64 M] 23))
        have KD := hide (heap_alloc_new w6 (.cells #[.int .i64 ((h + (N + M)) % 24), .int .i64 M] 23))
        have hr6 : w6.heap.size < (w6.alloc (.cells #[.int .i64 ((h + (N + M)) % 24), .int .i64 M] 23)).heap.size := by simp
        replace KR := hide (boxKeep HW7.out hr1 KR.out)
        replace KC := hide (boxKeep HW7.out hr3 KC.out)
        replace HB5 := hide (bthen HB5.out HW7.out)
        go_wp2
        generalize w6.alloc (.cells #[.int .i64 ((h + (N + M)) % 24), .int .i64 M] 23) = w7 at *
        have hq1 : w.heap.size < w7.heap.size := by omega
        have hq3 : w3.heap.size < w7.heap.size := by omega
        have HALL : Hid (∀ w', Below w7.heap.size w7 w' → Hid (Below w7.heap.size w7 w') ∧ w'.cell? ⟨w.heap.size, 0, none⟩ = some (.int .i64 h) ∧ w'.cell? ⟨w.heap.size, 1, none⟩ = some (.int .i64 u) ∧ w'.cell? ⟨w3.heap.size, 0, none⟩ = some (.int .i64 ((h + (N + M)) % 24)) ∧ w'.cell? ⟨w3.heap.size, 1, none⟩ = some (.int .i64 (u + (N + M))) ∧ w'.cell? ⟨w6.heap.size, 0, none⟩ = some (.int .i64 ((h + (N + M)) % 24)) ∧ w'.cell? ⟨w6.heap.size, 1, none⟩ = some (.int .i64 M)) := by
          intro w' hb
          have k1 := (box2 (boxKeep hb hq1 KR.out)).1
          have k2 := (box2 (boxKeep hb hq3 KC.out)).1
          have k3 := (box2 (boxKeep hb hr6 KD.out)).1
          exact ⟨hb, k1.1, k1.2, k2.1, k2.2, k3.1, k3.2⟩
        have HGR : Hid (goodR h u = true) := by simp [Hid, goodR]; omega
        have HGC : Hid (goodR ((h + (N + M)) % 24) (u + (N + M)) = true) := by simp [Hid, goodR]; omega
        have HGD : Hid (goodR ((h + (N + M)) % 24) M = true) := by simp [Hid, goodR]; omega
        have HTC : Hid (((h + (N + M)) % 24 - (u + (N + M))) % 24 = (h - u) % 24) := by unfold Hid; omega
        have HTD : Hid (((h + (N + M)) % 24 - M) % 24 = (h + N) % 24) := by unfold Hid; omega
        have wr1 : IntKind.i64.wrap (h + (N : Int)) = h + N := by rw [IntKind.wrap_i64]; omega
        have wr2 : (h + (N : Int)).tmod 24 = (h + N) % 24 := Int.tmod_eq_emod_of_nonneg (by omega)
        have wr3 : IntKind.i64.wrap ((h + (N : Int)) % 24) = (h + N) % 24 := by rw [IntKind.wrap_i64]; omega
        by_cases hz : N + M = 0
        · have HZ : Hid ((N : Int) + (M : Int) = 0) := by unfold Hid; omega
          clear KR KC KD hz
          refine wp_region_held_drew (S := (fun w' => Hid (Below w7.heap.size w7 w') ∧ w'.cell? ⟨w.heap.size, 0, none⟩ = some (.int .i64 h) ∧ w'.cell? ⟨w.heap.size, 1, none⟩ = some (.int .i64 u) ∧ w'.cell? ⟨w3.heap.size, 0, none⟩ = some (.int .i64 ((h + (N + M)) % 24)) ∧ w'.cell? ⟨w3.heap.size, 1, none⟩ = some (.int .i64 (u + (N + M))) ∧ w'.cell? ⟨w6.heap.size, 0, none⟩ = some (.int .i64 ((h + (N + M)) % 24)) ∧ w'.cell? ⟨w6.heap.size, 1, none⟩ = some (.int .i64 M))) (by kernel_rfl) (HALL.out _ (Below.refl _ _).drew) (fun hHeld => ?_)
          refine held_take 0 _ 134 (.int .i64 0) (by kernel_rfl) (by kernel_rfl) (by kernel_rfl) rfl rfl rfl ?_ (fun _ _ _ h => h) (by assumption) ?_
          · intro w hSw
            go_simp
          simp only [Act.put, List.setIfInBounds_toArray, List.set_cons_zero, List.set_cons_succ]
          refine held_take 1 _ 135 (.bool true) (by kernel_rfl) (by kernel_rfl) (by kernel_rfl) rfl rfl rfl ?_ (fun _ _ _ h => h) (by assumption) ?_
          · intro w hSw
            go_simp
          simp only [Act.put, List.setIfInBounds_toArray, List.set_cons_zero, List.set_cons_succ]
          refine held_take 2 _ 136 (.bool true) (by kernel_rfl) (by kernel_rfl) (by kernel_rfl) rfl rfl rfl ?_ (fun _ _ _ h => h) (by assumption) ?_
          · intro w hSw
            go_simp
          simp only [Act.put, List.setIfInBounds_toArray, List.set_cons_zero, List.set_cons_succ]
          refine held_take 3 _ 137 (.pointer (some ⟨w6.heap.size, 1, none⟩)) (by kernel_rfl) (by kernel_rfl) (by kernel_rfl) rfl rfl rfl ?_ (fun _ _ _ h => h) (by assumption) ?_
          · intro w hSw
            go_simp
          simp only [Act.put, List.setIfInBounds_toArray, List.set_cons_zero, List.set_cons_succ]
          refine held_take 4 _ 138 (.int .i64 M) (by kernel_rfl) (by kernel_rfl) (by kernel_rfl) rfl rfl rfl ?_ (fun _ _ _ h => h) (by assumption) ?_
          · intro w hSw
            go_simp
          simp only [Act.put, List.setIfInBounds_toArray, List.set_cons_zero, List.set_cons_succ]
          refine held_take 5 _ 139 (.int .i64 M) (by kernel_rfl) (by kernel_rfl) (by kernel_rfl) rfl rfl rfl ?_ (fun _ _ _ h => h) (by assumption) ?_
          · intro w hSw
            go_simp
          simp only [Act.put, List.setIfInBounds_toArray, List.set_cons_zero, List.set_cons_succ]
          refine held_take 6 _ 140 (.bool true) (by kernel_rfl) (by kernel_rfl) (by kernel_rfl) rfl rfl rfl ?_ (fun _ _ _ h => h) (by assumption) ?_
          · intro w hSw
            go_simp
          simp only [Act.put, List.setIfInBounds_toArray, List.set_cons_zero, List.set_cons_succ]
          refine held_take 7 _ 141 (.bool true) (by kernel_rfl) (by kernel_rfl) (by kernel_rfl) rfl rfl rfl ?_ (fun _ _ _ h => h) (by assumption) ?_
          · intro w hSw
            go_simp
          simp only [Act.put, List.setIfInBounds_toArray, List.set_cons_zero, List.set_cons_succ]
          refine held_take 8 _ 142 (.bool true) (by kernel_rfl) (by kernel_rfl) (by kernel_rfl) rfl rfl rfl ?_ (fun _ _ _ h => h) (by assumption) ?_
          · intro w hSw
            go_simp
          simp only [Act.put, List.setIfInBounds_toArray, List.set_cons_zero, List.set_cons_succ]
          refine held_take 9 _ 143 (.agg #[.int .i64 ((h + (N + M)) % 24), .int .i64 (u + (N + M))]) (by kernel_rfl) (by kernel_rfl) (by kernel_rfl) rfl rfl rfl ?_ (fun _ _ _ h => h) (by assumption) ?_
          · intro w hSw
            go_simp
          simp only [Act.put, List.setIfInBounds_toArray, List.set_cons_zero, List.set_cons_succ]
          refine held_take 11 _ 145 (.agg #[.int .i64 h, .int .i64 u]) (by kernel_rfl) (by kernel_rfl) (by kernel_rfl) rfl rfl rfl ?_ (fun _ _ _ h => h) (by assumption) ?_
          · intro w hSw
            go_simp
          simp only [Act.put, List.setIfInBounds_toArray, List.set_cons_zero, List.set_cons_succ]
          refine wpAnyH_ready (rs := [10]) (by kernel_rfl) (by simp) ?_
          refine AllReadyH.cons rfl (fun K hK => ?_) AllReadyH.nil
          go_simp
          refine (ringTail_is _ _ ((h - u) % 24) _ HGC.out HTC.out).mono ?_
          rintro e w11 ⟨rfl, hb1⟩
          go_wp2_with fail
          have HN1 := hide (bthen ((Below.refl _ _).drew) hb1)
          refine hK.out _ _ (HALL.out _ HN1.out) (fun hHeld1 => ?_)
          clear hK K hb1
          refine wpAnyH_ready (rs := [12]) (by kernel_rfl) (by simp) ?_
          refine AllReadyH.cons rfl (fun K hK => ?_) AllReadyH.nil
          go_simp
          refine (ringTail_is h u ((h - u) % 24) _ HGR.out rfl).mono ?_
          rintro e w12 ⟨rfl, hb1⟩
          go_wp2_with fail
          have HN2 := hide (bthen HN1.out hb1)
          refine hK.out _ _ (HALL.out _ HN2.out) (fun hHeld2 => ?_)
          clear hK K hb1
          refine held_take 13 _ 147 (.bool true) (by kernel_rfl) (by kernel_rfl) (by kernel_rfl) rfl rfl rfl ?_ (fun _ _ _ h => h) (by assumption) ?_
          · intro w hSw
            go_simp
          simp only [Act.put, List.setIfInBounds_toArray, List.set_cons_zero, List.set_cons_succ]
          refine held_take 14 _ 148 (.bool true) (by kernel_rfl) (by kernel_rfl) (by kernel_rfl) rfl rfl rfl ?_ (fun _ _ _ h => h) (by assumption) ?_
          · intro w hSw
            go_simp
          simp only [Act.put, List.setIfInBounds_toArray, List.set_cons_zero, List.set_cons_succ]
          refine held_take 15 _ 149 (.bool true) (by kernel_rfl) (by kernel_rfl) (by kernel_rfl) rfl rfl rfl ?_ (fun _ _ _ h => h) (by assumption) ?_
          · intro w hSw
            go_simp
          simp only [Act.put, List.setIfInBounds_toArray, List.set_cons_zero, List.set_cons_succ]
          refine held_take 16 _ 150 (.slice a3 (N + M) c3) (by kernel_rfl) (by kernel_rfl) (by kernel_rfl) rfl rfl rfl ?_ (fun _ _ _ h => h) (by assumption) ?_
          · intro w hSw
            go_simp
          simp only [Act.put, List.setIfInBounds_toArray, List.set_cons_zero, List.set_cons_succ]
          refine held_take 17 _ 151 (.int .i64 ((N : Int) + (M : Int))) (by kernel_rfl) (by kernel_rfl) (by kernel_rfl) rfl rfl rfl ?_ (fun _ _ _ h => h) (by assumption) ?_
          · intro w hSw
            go_simp
          simp only [Act.put, List.setIfInBounds_toArray, List.set_cons_zero, List.set_cons_succ]
          have hz' := HZ.out
          refine held_take 18 _ 152 (.bool true) (by kernel_rfl) (by kernel_rfl) (by kernel_rfl) rfl rfl rfl ?_ (fun _ _ _ h => h) (by assumption) ?_
          · intro w hSw
            go_simp
          simp only [Act.put, List.setIfInBounds_toArray, List.set_cons_zero, List.set_cons_succ]
          clear hz'
          refine held_take 19 _ 153 (.bool true) (by kernel_rfl) (by kernel_rfl) (by kernel_rfl) rfl rfl rfl ?_ (fun _ _ _ h => h) (by assumption) ?_
          · intro w hSw
            go_simp
          simp only [Act.put, List.setIfInBounds_toArray, List.set_cons_zero, List.set_cons_succ]
          refine held_skip 20 154 (by kernel_rfl) (by kernel_rfl) (by kernel_rfl) rfl (fun _ _ _ h => h) (by assumption) ?_
          simp only [Act.put, List.setIfInBounds_toArray, List.set_cons_zero, List.set_cons_succ]
          refine held_skip 21 155 (by kernel_rfl) (by kernel_rfl) (by kernel_rfl) rfl (fun _ _ _ h => h) (by assumption) ?_
          simp only [Act.put, List.setIfInBounds_toArray, List.set_cons_zero, List.set_cons_succ]
          refine held_skip 22 156 (by kernel_rfl) (by kernel_rfl) (by kernel_rfl) rfl (fun _ _ _ h => h) (by assumption) ?_
          simp only [Act.put, List.setIfInBounds_toArray, List.set_cons_zero, List.set_cons_succ]
          refine held_skip 23 157 (by kernel_rfl) (by kernel_rfl) (by kernel_rfl) rfl (fun _ _ _ h => h) (by assumption) ?_
          simp only [Act.put, List.setIfInBounds_toArray, List.set_cons_zero, List.set_cons_succ]
          refine held_skip 24 158 (by kernel_rfl) (by kernel_rfl) (by kernel_rfl) rfl (fun _ _ _ h => h) (by assumption) ?_
          simp only [Act.put, List.setIfInBounds_toArray, List.set_cons_zero, List.set_cons_succ]
          refine held_skip 25 159 (by kernel_rfl) (by kernel_rfl) (by kernel_rfl) rfl (fun _ _ _ h => h) (by assumption) ?_
          simp only [Act.put, List.setIfInBounds_toArray, List.set_cons_zero, List.set_cons_succ]
          refine held_skip 26 160 (by kernel_rfl) (by kernel_rfl) (by kernel_rfl) rfl (fun _ _ _ h => h) (by assumption) ?_
          simp only [Act.put, List.setIfInBounds_toArray, List.set_cons_zero, List.set_cons_succ]
          refine held_skip 27 161 (by kernel_rfl) (by kernel_rfl) (by kernel_rfl) rfl (fun _ _ _ h => h) (by assumption) ?_
          simp only [Act.put, List.setIfInBounds_toArray, List.set_cons_zero, List.set_cons_succ]
          refine held_take 28 _ 162 (.bool true) (by kernel_rfl) (by kernel_rfl) (by kernel_rfl) rfl rfl rfl ?_ (fun _ _ _ h => h) (by assumption) ?_
          · intro w hSw
            go_simp
          simp only [Act.put, List.setIfInBounds_toArray, List.set_cons_zero, List.set_cons_succ]
          refine held_take 29 _ 163 (.bool true) (by kernel_rfl) (by kernel_rfl) (by kernel_rfl) rfl rfl rfl ?_ (fun _ _ _ h => h) (by assumption) ?_
          · intro w hSw
            go_simp
          simp only [Act.put, List.setIfInBounds_toArray, List.set_cons_zero, List.set_cons_succ]
          refine held_take 30 _ 6 (.bool true) (by kernel_rfl) (by kernel_rfl) (by kernel_rfl) rfl rfl rfl ?_ (fun _ _ _ h => h) (by assumption) ?_
          · intro w hSw
            go_simp
          simp only [Act.put, List.setIfInBounds_toArray, List.set_cons_zero, List.set_cons_succ]
          refine wpAnyH_done (by kernel_rfl) ?_ _
          go_wp2
          go_ret
          exact ⟨rfl, bthen HB5.out HN2.out⟩
        · have hz' : ((N : Int) + (M : Int) == 0) = false := by simp; omega
          clear KR KC KD
          go_region_held3 (fun w' => Hid (Below w7.heap.size w7 w') ∧ w'.cell? ⟨w.heap.size, 0, none⟩ = some (.int .i64 h) ∧ w'.cell? ⟨w.heap.size, 1, none⟩ = some (.int .i64 u) ∧ w'.cell? ⟨w3.heap.size, 0, none⟩ = some (.int .i64 ((h + (N + M)) % 24)) ∧ w'.cell? ⟨w3.heap.size, 1, none⟩ = some (.int .i64 (u + (N + M))) ∧ w'.cell? ⟨w6.heap.size, 0, none⟩ = some (.int .i64 ((h + (N + M)) % 24)) ∧ w'.cell? ⟨w6.heap.size, 1, none⟩ = some (.int .i64 M))
            (first | exact HALL.out _ ((Below.refl _ _).drew) | (refine HALL.out _ ?_; assumption))
            (first
              | (go_at_call 15; (have hnow := (‹Hid (Below w7.heap.size w7 _) ∧ _›).1); have HNOW := hide hnow.out; refine (ringTail_is ((h + (N + M)) % 24) (u + (N + M)) ((h - u) % 24) _ ?_ ?_).mono ?_; exact HGC.out; exact HTC.out; clear hnow; rintro e w10 ⟨rfl, hb10⟩; have hbN := bthen HNOW.out hb10; clear hb10 HNOW)
              | (go_at_call 15; (have hnow := (‹Hid (Below w7.heap.size w7 _) ∧ _›).1); have HNOW := hide hnow.out; refine (ringTail_is h u ((h - u) % 24) _ ?_ ?_).mono ?_; exact HGR.out; rfl; clear hnow; rintro e w10 ⟨rfl, hb10⟩; have hbN := bthen HNOW.out hb10; clear hb10 HNOW)
              | (go_at_call 15; (have hnow := (‹Hid (Below w7.heap.size w7 _) ∧ _›).1); have HNOW := hide hnow.out; refine (ringTail_is ((h + (N + M)) % 24) M ((h + N) % 24) _ ?_ ?_).mono ?_; exact HGD.out; exact HTD.out; clear hnow; rintro e w10 ⟨rfl, hb10⟩; have hbN := bthen HNOW.out hb10; clear hb10 HNOW))
          all_goals
            go_wp2
            go_ret
            refine ⟨rfl, bthen HB5.out ?_⟩
            assumption
  · have e3 : takeE h u (N + M) ≠ 0 := by
      intro e3
      obtain ⟨b1, b2, b3⟩ := takeE_ok.1 e3
      have e1 : takeE h u N = 0 := takeE_ok.2 ⟨b1, by omega, by omega⟩
      refine hA ⟨e1, ?_⟩
      rw [takeH, takeU, if_pos e1, if_pos e1]
      exact takeE_ok.2 ⟨by omega, by omega, by omega⟩
    have g3 : (takeE h u (N + M) != 0) = true := by simpa using e3
    generalize takeE h u (N + M) = e3' at *
    have HB4 := hide (bthen HB3.out (below1 w3 (.cells #[.int .i64 (takeH h u (N + M)), .int .i64 (takeU h u (N + M))] 23)))
    by_cases e1 : takeE h u N = 0
    · have e2 : takeE (takeH h u N) (takeU h u N) M ≠ 0 := fun e => hA ⟨e1, e⟩
      have g2 : (takeE (takeH h u N) (takeU h u N) M != 0) = true := by simpa using e2
      rw [e1]
      generalize takeE (takeH h u N) (takeU h u N) M = e2' at *
      clear hA e1 e2 e3 HU1 HU2 HU3 KR KB
      generalize takeH h u (N + M) = x1 at *
      generalize takeU h u (N + M) = x2 at *
      generalize takeL h u (N + M) = x3 at *
      go_wp2_with (go_at_call 13; refine (keepRings_any _).mono ?_; rintro e w5 ⟨rfl, hb5⟩; have HB5 := hide (bthen HB4.out hb5); clear hb5)
      go_ret
      exact ⟨rfl, HB5.out⟩
    · have g1 : (takeE h u N != 0) = true := by simpa using e1
      generalize takeE h u N = e1' at *
      clear hA e1 e3 HU1 HU2 HU3 KR KB
      generalize takeH h u (N + M) = x1 at *
      generalize takeU h u (N + M) = x2 at *
      generalize takeL h u (N + M) = x3 at *
      go_wp2_with (go_at_call 13; refine (keepRings_any _).mono ?_; rintro e w5 ⟨rfl, hb5⟩; have HB5 := hide (bthen HB4.out hb5); clear hb5)
      go_ret
      exact ⟨rfl, HB5.out⟩

end Go.Proofs.Ytjnpndfpajjihab
