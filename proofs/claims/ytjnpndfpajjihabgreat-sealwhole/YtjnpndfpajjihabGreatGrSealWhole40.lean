/-
  A ring as plain data, and what Good, Give and Take answer. Nothing of the program is proved here.
  The walks of package ring's small functions, of Good, Free and Tail.
  The walk of package ring's Take.
  The walk of package ring's Most, and of what it calls.
  The walk of package ring's Need.
  The walks of slices.IndexFunc and ContainsFunc at []api.Copy and []api.Handle, of slices.Contains at []int; of package txn's fit, Get, holds, named and Open.
-/
import Derived.Test.YtjnpndfpajjihabGreatGrSealWhole4
import Derived.Test.YtjnpndfpajjihabGreatGrSealWhole1
import Derived.Test.YtjnpndfpajjihabGreatGrSealWhole28
import Derived.Deep.RegionWith
import Derived.Test.YtjnpndfpajjihabGreatGrSealWhole30
import Derived.Test.YtjnpndfpajjihabGreatGrSealWhole29
import Derived.Shelf.Abstract
namespace Go.Proofs.YtjnpndfpajjihabGreat
open Go.RowKit

/-- Is it a ring? -/
def goodR (h u : Int) : Bool := decide (0 ≤ h) && decide (h ≤ 23) && decide (0 ≤ u) && decide (u ≤ 24)
theorem goodR_yes {h u : Int} (e : goodR h u = true) : 0 ≤ h ∧ h ≤ 23 ∧ 0 ≤ u ∧ u ≤ 24 := by
  simpa [goodR, and_assoc] using e

/-- What Give answers. -/
def giveE (h u n : Int) : Int := if goodR h u = false ∨ n < 0 ∨ u < n then 2 else 0
def giveU (h u n : Int) : Int := if giveE h u n = 0 then u - n else u

/-- What Take answers. -/
def takeE (h u n : Int) : Int := if goodR h u = false ∨ n < 0 then 2 else if 24 - u < n then 6 else 0
def placesOf (h : Int) (n : Nat) : List Int := (List.range n).map fun (i : Nat) => (h + (i : Int)) % 24
def takeH (h u n : Int) : Int := if takeE h u n = 0 then (h + n) % 24 else h
def takeU (h u n : Int) : Int := if takeE h u n = 0 then u + n else u
def takeL (h u n : Int) : List Int := if takeE h u n = 0 then placesOf h n.toNat else []
theorem places_length (h : Int) (n : Nat) : (placesOf h n).length = n := by simp [placesOf]
theorem places_succ (h : Int) (n : Nat) : placesOf h (n + 1) = placesOf h n ++ [(h + (n : Int)) % 24] := by simp [placesOf, List.range_succ]

end Go.Proofs.YtjnpndfpajjihabGreat

namespace Go.Proofs.YtjnpndfpajjihabGreat
open Go.RowKit

set_option maxHeartbeats 400000 in
theorem within_any (n l m : Int) (w : World) :
    Calls Tryz.prog 142 #[.int .i64 n, .int .i64 l, .int .i64 m] w fun e w' => e = .returned (.bool (withinB n l m)) ∧ w = w' := by
  by_cases h0 : l ≤ n <;> by_cases h1 : n ≤ m
  all_goals
    go_enter Tryz.func142, Tryz.ntmps142
    go_wp2
    go_ret
    exact ⟨by simp [withinB, h0, h1], rfl⟩

set_option maxHeartbeats 400000 in
theorem place_any (n : Int) (w : World) (h : -24 ≤ n) (h2 : n ≤ 1000) :
    Calls Tryz.prog 146 #[.int .i64 n] w fun e w' => e = .returned (.int .i64 (n % 24)) ∧ w = w' := by
  have r : (n + 24).tmod 24 = n % 24 := by rw [Int.tmod_eq_emod_of_nonneg (by omega)]; omega
  go_enter Tryz.func146, Tryz.ntmps146
  go_wp2
  go_ret
  exact ⟨by first | rfl | rw [r], rfl⟩

theorem goodR_within (h u : Int) : goodR h u = (withinB h 0 23 && withinB u 0 24) := by simp [goodR, withinB, Bool.and_assoc]

set_option maxHeartbeats 1000000 in
theorem ringGood_any (h u : Int) (w : World) :
    Calls Tryz.prog 105 #[.agg #[.int .i64 h, .int .i64 u]] w fun e w' => e = .returned (.bool (goodR h u)) ∧ Below w.heap.size w w' := by
  rw [goodR_within]
  cases h1 : withinB h 0 23 with
  | false =>
    go_enter Tryz.func105, Tryz.ntmps105
    go_wp2_with (go_at_call 142; refine (within_any _ _ _ _).mono ?_; rintro e w' ⟨rfl, rfl⟩)
    go_ret
    exact ⟨rfl, below1 _ _⟩
  | true =>
    go_enter Tryz.func105, Tryz.ntmps105
    go_wp2_with (go_at_call 142; refine (within_any _ _ _ _).mono ?_; rintro e w' ⟨rfl, rfl⟩)
    go_ret
    exact ⟨by simp, below1 _ _⟩

set_option maxHeartbeats 400000 in
theorem ringFree_any (h u : Int) (w : World) (h0 : 0 ≤ u) (h1 : u ≤ 24) :
    Calls Tryz.prog 145 #[.agg #[.int .i64 h, .int .i64 u]] w fun e w' => e = .returned (.int .i64 (24 - u)) ∧ Below w.heap.size w w' := by
  go_enter Tryz.func145, Tryz.ntmps145
  go_wp2
  go_ret
  exact ⟨rfl, below1 _ _⟩

end Go.Proofs.YtjnpndfpajjihabGreat

namespace Go.Proofs.YtjnpndfpajjihabGreat
open Go.RowKit

set_option maxHeartbeats 4000000 in
set_option maxRecDepth 100000 in
theorem ringTake_cap (h u n : Int) (w : World) :
    Calls Tryz.prog 107 #[.agg #[.int .i64 h, .int .i64 u], .int .i64 n] w fun e w' => ∃ a2 c2, e = .returned (.tuple #[.agg #[.int .i64 (takeH h u n), .int .i64 (takeU h u n)], .slice a2 (takeL h u n).length c2, .int .i64 (takeE h u n)]) ∧ (SegI w' a2 (takeL h u n) ∧ (∀ b off, a2 = some ⟨b, off, none⟩ → w.heap.size ≤ b) ∧ (takeL h u n).length ≤ c2) ∧ Below w.heap.size w w' := by
  go_enter Tryz.func107, Tryz.ntmps107
  go_wp2_with fail
  refine (ringGood_any h u _).mono ?_
  rintro e w1 ⟨rfl, hb1⟩
  have hs1 : w.heap.size + 1 < w1.heap.size := by have := hb1.size; simp at this; omega
  have hs1' : w.heap.size < w1.heap.size := by omega
  obtain ⟨⟨x0, x1⟩, _⟩ := box2 (two1 hb1)
  obtain ⟨⟨y0, y1⟩, f0, f1⟩ := box2 (two2 hb1)
  have HB := hide (bthen (bthen (below1 _ _) (below1 _ _)) hb1)
  clear hb1
  by_cases hE : goodR h u = false ∨ n < 0
  · have HE : Hid (takeE h u n = 2) := by rw [Hid, takeE, if_pos hE]
    have HH : Hid (takeH h u n = h ∧ takeU h u n = u ∧ takeL h u n = []) := by simp [Hid, takeH, takeU, takeL, HE.out]
    cases hg : goodR h u with
    | false =>
      clear hg hE
      go_wp2
      refine bodyPost_ret (v := .tuple #[.agg #[.int .i64 h, .int .i64 u], .slice none 0 0, .int .i64 2]) (by simp [results, Tryz.results107, go_sem, y0, y1]) rfl ⟨none, 0, by rw [HE.out, HH.out.1, HH.out.2.1, HH.out.2.2]; rfl, ⟨.inl HH.out.2.2, fun _ _ e => (by cases e), (by rw [HH.out.2.2]; exact Nat.le_refl _)⟩, ?_⟩
      repeat refine Below.setCell ?_ (by simp) _
      exact HB.out
    | true =>
      have hn : n < 0 := by rw [hg] at hE; rcases hE with e | e; cases e; exact e
      clear hg hE
      go_wp2
      refine bodyPost_ret (v := .tuple #[.agg #[.int .i64 h, .int .i64 u], .slice none 0 0, .int .i64 2]) (by simp [results, Tryz.results107, go_sem, y0, y1]) rfl ⟨none, 0, by rw [HE.out, HH.out.1, HH.out.2.1, HH.out.2.2]; rfl, ⟨.inl HH.out.2.2, fun _ _ e => (by cases e), (by rw [HH.out.2.2]; exact Nat.le_refl _)⟩, ?_⟩
      repeat refine Below.setCell ?_ (by simp) _
      exact HB.out
  · have hg : goodR h u = true := by cases e : goodR h u; exact absurd (.inl e) hE; rfl
    have hb := goodR_yes hg
    have hn : ¬ n < 0 := fun e => hE (.inr e)
    rw [hg]
    go_wp2_with fail
    refine (ringFree_any h u _ hb.2.2.1 hb.2.2.2).mono ?_
    rintro e w2 ⟨rfl, hb2⟩
    have hs2 : w1.heap.size ≤ w2.heap.size := hb2.size
    replace x0 := cellKeep hb2 (by omega) x0
    replace x1 := cellKeep hb2 (by omega) x1
    replace y0 := cellKeep hb2 (by omega) y0
    replace y1 := cellKeep hb2 (by omega) y1
    replace f0 := frozKeep hb2 (by omega) f0
    replace f1 := frozKeep hb2 (by omega) f1
    replace HB := hide (bthen HB.out hb2)
    replace hs1 : w.heap.size + 1 < w2.heap.size := by omega
    replace hs1' : w.heap.size < w2.heap.size := by omega
    clear hb2
    by_cases hs : 24 - u < n
    · have HE : Hid (takeE h u n = 6) := by rw [Hid, takeE, if_neg hE, if_pos hs]
      have HH : Hid (takeH h u n = h ∧ takeU h u n = u ∧ takeL h u n = []) := by simp [Hid, takeH, takeU, takeL, HE.out]
      clear hg hE
      go_wp2
      refine bodyPost_ret (v := .tuple #[.agg #[.int .i64 h, .int .i64 u], .slice none 0 0, .int .i64 6]) (by simp [results, Tryz.results107, go_sem, y0, y1]) rfl ⟨none, 0, by rw [HE.out, HH.out.1, HH.out.2.1, HH.out.2.2]; rfl, ⟨.inl HH.out.2.2, fun _ _ e => (by cases e), (by rw [HH.out.2.2]; exact Nat.le_refl _)⟩, ?_⟩
      repeat refine Below.setCell ?_ (by simp) _
      exact HB.out
    · have HE : Hid (takeE h u n = 0) := by rw [Hid, takeE, if_neg hE, if_neg hs]
      obtain ⟨m, rfl⟩ := Int.eq_ofNat_of_zero_le (show 0 ≤ n by omega)
      have HH : Hid (takeH h u m = (h + m) % 24 ∧ takeU h u m = u + m ∧ takeL h u m = placesOf h m) := by simp [Hid, takeH, takeU, takeL, HE.out]
      have hm24 : m ≤ 24 := by omega
      clear hg hE
      have hmk := madeI m (by omega)
      go_wp2
      clear hmk
      go_loopw [28] (fun i wr => ∃ k : Nat, k ≤ m ∧ i = .int .i64 k ∧ Hid (wr.ownsRow w2.heap.size 3 1 (.slice (some ⟨w2.heap.size, 0, none⟩) m m) m (fillI (placesOf h k) (m - k))) ∧ Below w2.heap.size w2 wr) (fun i _ => m - (intOf i).toNat)
      case atStart => exact ⟨0, Nat.zero_le _, rfl, madeI_owns m (by omega) w2 w2.heap.size (Nat.le_refl _), below1 _ _⟩
      case round =>
        obtain ⟨k, hk, rfl, hown, hbr⟩ := hrel
        have hsr := hbr.size
        have hsr1 : w.heap.size < wr.heap.size := by omega
        have z0 := cellKeep hbr (by omega) x0
        have z1 := cellKeep hbr (by omega) x1
        by_cases hlt : k < m
        · have hlt' : (k : Int) < (m : Int) := by omega
          have hown4 := hown.out
          rw [show m - k = (m - k - 1) + 1 from by omega] at hown4
          have hcc := fillI_cell hown4
          have hst := fillI_step hown4 ((h + (k : Int)) % 24)
          rw [places_length] at hcc hst
          obtain ⟨⟨u0, hu⟩, hfz, _, _, _⟩ := hcc
          rw [← places_succ] at hst
          have HST := hide hst
          clear hst hown4 hown
          go_wp2_with (go_at_call 146; refine (place_any _ _ (by omega) (by omega)).mono ?_; rintro e w' ⟨rfl, rfl⟩)
          go_roundw
          case rel => exact ⟨k + 1, by omega, by go_num, by rw [show m - (k + 1) = m - k - 1 from by omega]; exact HST, hbr.setCell (by simp) _⟩
          case measure => simp [intOf]; omega
        · have e : m = k := by omega
          subst e
          have hown' := hown.out
          rw [Nat.sub_self, fillI_full] at hown'
          obtain ⟨a2, c2, hv, hS, hA⟩ := SegI.of_owns hown'
          rw [places_length] at hv
          simp only [Value.slice.injEq] at hv
          obtain ⟨ha2, _, hc2⟩ := hv
          subst ha2 hc2
          have HS := hide hS
          have HA := hide hA
          have HB2 := hide (bthen HB.out hbr)
          replace y0 := cellKeep hbr (by omega) y0
          replace y1 := cellKeep hbr (by omega) y1
          replace f0 := frozKeep hbr (by omega) f0
          replace f1 := frozKeep hbr (by omega) f1
          clear hown hown' hS hA hbr x0 x1
          have wr1 : IntKind.i64.wrap (h + (m : Int)) = h + (m : Int) := by rw [IntKind.wrap_i64]; omega
          have wr2 : IntKind.i64.wrap (u + (m : Int)) = u + (m : Int) := by rw [IntKind.wrap_i64]; omega
          go_wp2
          go_region_with (go_at_call 146; refine (place_any (h + (m : Int)) _ (by omega) (by omega)).mono ?_; rintro e w' ⟨rfl, rfl⟩)
          all_goals
            go_wp2
            refine bodyPost_ret (v := .tuple #[.agg #[.int .i64 ((h + (m : Int)) % 24), .int .i64 (u + m)], .slice (some ⟨w2.heap.size, 0, none⟩) m m, .int .i64 0]) (by simp [results, Tryz.results107, go_sem, y0, y1]) rfl ⟨_, m, by rw [HE.out, HH.out.1, HH.out.2.1, HH.out.2.2, places_length], ⟨?_, fun b off e => (by have := HA.out b off e; omega), (by rw [HH.out.2.2, places_length]; exact Nat.le_refl _)⟩, ?_⟩
            · rw [HH.out.2.2]
              rcases HS.out with h | ⟨b, off, e, hlt, hc⟩
              · exact .inl h
              · have := HA.out b off e
                exact .inr ⟨b, off, e, by simpa [World.setCell] using hlt, fun i hi => cellSet (cellSet (hc i hi) (by simp; omega)) (by simp; omega)⟩
            · exact ((HB2.out.setCell (by simp) _).setCell (by simp) _).drew

theorem ringTake_any (h u n : Int) (w : World) :
    Calls Tryz.prog 107 #[.agg #[.int .i64 h, .int .i64 u], .int .i64 n] w fun e w' => ∃ a2 c2, e = .returned (.tuple #[.agg #[.int .i64 (takeH h u n), .int .i64 (takeU h u n)], .slice a2 (takeL h u n).length c2, .int .i64 (takeE h u n)]) ∧ (SegI w' a2 (takeL h u n) ∧ ∀ b off, a2 = some ⟨b, off, none⟩ → w.heap.size ≤ b) ∧ Below w.heap.size w w' :=
  (ringTake_cap h u n w).mono fun _ _ ⟨a2, c2, h1, h2, h3⟩ => ⟨a2, c2, h1, ⟨h2.1, h2.2.1⟩, h3⟩

end Go.Proofs.YtjnpndfpajjihabGreat

namespace Go.Proofs.YtjnpndfpajjihabGreat
open Go.RowKit

set_option maxHeartbeats 400000 in
theorem parts_any (n s : Int) (w : World) (h : 0 ≤ n) (h2 : n ≤ 1000) (hs : 1 ≤ s) (hs2 : s ≤ 1000) :
    Calls Tryz.prog 162 #[.int .i64 n, .int .i64 s] w fun e w' => e = .returned (.int .i64 ((n + s - 1) / s)) ∧ w = w' := by
  have r : (n + s - 1).tdiv s = (n + s - 1) / s := Int.tdiv_eq_ediv_of_nonneg (by omega)
  have hlo : 0 ≤ (n + s - 1) / s := Int.ediv_nonneg (by omega) (by omega)
  have hhi : (n + s - 1) / s ≤ n + s - 1 := Int.ediv_le_self _ (by omega)
  have hs0 : ¬ s = 0 := by omega
  have hsm : ¬ s = -1 := by omega
  go_enter Tryz.func162, Tryz.ntmps162
  go_wp2
  go_ret
  exact ⟨by first | rfl | rw [r], rfl⟩

set_option maxHeartbeats 400000 in
theorem descriptors_any (n : Int) (w : World) (h : 0 ≤ n) (h2 : n ≤ 1000) :
    Calls Tryz.prog 144 #[.int .i64 n] w fun e w' => e = .returned (.int .i64 ((n + 9) / 10)) ∧ w = w' := by
  go_enter Tryz.func144, Tryz.ntmps144
  go_wp2_with fail
  refine (parts_any n 10 _ h h2 (by omega) (by omega)).mono ?_
  rintro e w1 ⟨rfl, rfl⟩
  go_wp2
  go_ret
  exact ⟨by first | rfl | (rw [show n + 10 - 1 = n + 9 from by omega]; rfl), rfl⟩

set_option maxHeartbeats 400000 in
theorem lists_any (n : Int) (w : World) (h : 0 ≤ n) (h2 : n ≤ 1000) :
    Calls Tryz.prog 143 #[.int .i64 n] w fun e w' => e = .returned (.int .i64 ((n + 19) / 20)) ∧ w = w' := by
  go_enter Tryz.func143, Tryz.ntmps143
  go_wp2_with fail
  refine (parts_any n 20 _ h h2 (by omega) (by omega)).mono ?_
  rintro e w1 ⟨rfl, rfl⟩
  go_wp2
  go_ret
  exact ⟨by first | rfl | (rw [show n + 20 - 1 = n + 19 from by omega]; rfl), rfl⟩

set_option maxHeartbeats 2000000 in
theorem ringMost_any (n : Int) (w : World) :
    Calls Tryz.prog 134 #[.int .i64 n] w fun e w' => e = .returned (.int .i64 (mostN n)) ∧ w = w' := by
  have HM : Hid (mostN n = clampN n + (clampN n + 9) / 10 + (clampN n + 19) / 20 + 1) := mostN_eq n
  by_cases h0 : n < 0
  · have e0 : clampN n = 0 := by unfold clampN; rw [if_pos h0]
    rw [e0] at HM
    have h1 : ¬ 0 ≤ n := by omega
    have h2 : n ≤ 24 := by omega
    go_enter Tryz.func134, Tryz.ntmps134
    go_wp2_with (first
        | (go_at_call 143; refine (lists_any 0 _ (by omega) (by omega)).mono ?_; rintro e w' ⟨rfl, rfl⟩)
        | (go_at_call 144; refine (descriptors_any 0 _ (by omega) (by omega)).mono ?_; rintro e w' ⟨rfl, rfl⟩))
    go_ret
    exact ⟨by rw [HM.out]; rfl, rfl⟩
  · by_cases h24 : 24 < n
    · have e0 : clampN n = 24 := by unfold clampN; rw [if_neg h0, if_pos h24]
      rw [e0] at HM
      have h1 : 0 ≤ n := by omega
      have h2 : ¬ n ≤ 24 := by omega
      have h3 : ¬ n < 24 := by omega
      have h4 : 0 < n := by omega
      go_enter Tryz.func134, Tryz.ntmps134
      go_wp2_with (first
          | (go_at_call 143; refine (lists_any 24 _ (by omega) (by omega)).mono ?_; rintro e w' ⟨rfl, rfl⟩)
          | (go_at_call 144; refine (descriptors_any 24 _ (by omega) (by omega)).mono ?_; rintro e w' ⟨rfl, rfl⟩))
      go_ret
      exact ⟨by rw [HM.out]; rfl, rfl⟩
    · have e0 : clampN n = n := by unfold clampN; rw [if_neg h0, if_neg h24]
      rw [e0] at HM
      have h1 : 0 ≤ n := by omega
      have h2 : n ≤ 24 := by omega
      have b1 : 0 ≤ (n + 19) / 20 ∧ (n + 19) / 20 ≤ 10 := by omega
      have b2 : 0 ≤ (n + 9) / 10 ∧ (n + 9) / 10 ≤ 10 := by omega
      go_enter Tryz.func134, Tryz.ntmps134
      go_wp2_with (first
          | (go_at_call 143; refine (lists_any n _ (by omega) (by omega)).mono ?_; rintro e w' ⟨rfl, rfl⟩)
          | (go_at_call 144; refine (descriptors_any n _ (by omega) (by omega)).mono ?_; rintro e w' ⟨rfl, rfl⟩))
      go_ret
      exact ⟨by rw [HM.out]; rfl, rfl⟩

end Go.Proofs.YtjnpndfpajjihabGreat

namespace Go.Proofs.YtjnpndfpajjihabGreat
open Go.RowKit

set_option maxHeartbeats 2000000 in
theorem ringNeed_any (m r : Int) (w : World) :
    Calls Tryz.prog 106 #[.int .i64 m, .int .i64 r] w fun e w' => e = .returned (.tuple #[.int .i64 (needN m r), .int .i64 (needE m r)]) ∧ w = w' := by
  cases h1 : withinB m 0 12 with
  | false =>
    have HE : Hid (needE m r = 2) := by rw [Hid, needE, if_pos]; simp [withinB] at h1; omega
    have HN : Hid (needN m r = 0) := by simp [Hid, needN, HE.out]
    go_enter Tryz.func106, Tryz.ntmps106
    go_wp2_with (go_at_call 142; refine (within_any _ _ _ _).mono ?_; rintro e w' ⟨rfl, rfl⟩)
    go_ret2
    exact ⟨by rw [HE.out, HN.out]; rfl, rfl⟩
  | true =>
    cases h2 : withinB r 0 12 with
    | false =>
      have HE : Hid (needE m r = 2) := by rw [Hid, needE, if_pos]; simp [withinB] at h2; omega
      have HN : Hid (needN m r = 0) := by simp [Hid, needN, HE.out]
      go_enter Tryz.func106, Tryz.ntmps106
      go_wp2_with (go_at_call 142; refine (within_any _ _ _ _).mono ?_; rintro e w' ⟨rfl, rfl⟩)
      go_ret2
      exact ⟨by rw [HE.out, HN.out]; rfl, rfl⟩
    | true =>
      have hm : 0 ≤ m ∧ m ≤ 12 := by simpa [withinB] using h1
      have hr : 0 ≤ r ∧ r ≤ 12 := by simpa [withinB] using h2
      have HE : Hid (needE m r = 0) := by rw [Hid, needE, if_neg]; omega
      have HN : Hid (needN m r = (r + 19) / 20 + (m + 9) / 10 + m + 1) := by
        rw [Hid, needN, if_pos HE.out]
        split <;> split <;> split <;> omega
      have b1 : 0 ≤ (r + 19) / 20 ∧ (r + 19) / 20 ≤ 10 := by omega
      have b2 : 0 ≤ (m + 9) / 10 ∧ (m + 9) / 10 ≤ 10 := by omega
      go_enter Tryz.func106, Tryz.ntmps106
      go_wp2_with (first
        | (go_at_call 142; refine (within_any _ _ _ _).mono ?_; rintro e w' ⟨rfl, rfl⟩)
        | (go_at_call 143; refine (lists_any r _ (by omega) (by omega)).mono ?_; rintro e w' ⟨rfl, rfl⟩)
        | (go_at_call 144; refine (descriptors_any m _ (by omega) (by omega)).mono ?_; rintro e w' ⟨rfl, rfl⟩))
      go_ret2
      exact ⟨by rw [HE.out, HN.out]; rfl, rfl⟩

end Go.Proofs.YtjnpndfpajjihabGreat

namespace Go.Proofs.YtjnpndfpajjihabGreat
open Go.RowKit

set_option maxHeartbeats 400000 in
theorem holds_any (a : Option Addr) (c : Nat) (l : List (Int × ByteArray)) (b : Int) (w : World) (h : SegW w a l) (hn : l.length ≤ maxLen) :
    Calls Tryz.prog 37 #[.slice a l.length c, .int .i64 b] w fun e w' => e = .returned (.bool (textIn b l).isSome) ∧ Below w.heap.size w w' := by
  go_enter Tryz.func37, Tryz.ntmps37
  go_wp2_with fail
  refine (tGet_any a c l b w h hn).mono ?_
  rintro e w1 ⟨rfl, hb1⟩
  go_wp2
  go_ret
  exact ⟨rfl, hb1⟩

set_option maxHeartbeats 1000000 in
theorem indexI_any (a : Option Addr) (c : Nat) (l : List Int) (b : Int) (w : World) (h : SegI w a l) (hn : l.length ≤ maxLen) :
    Calls Tryz.prog 98 #[.slice a l.length c, .int .i64 b] w fun e w' => ∃ i : Int, e = .returned (.int .i64 i) ∧ Found (· == b) l i ∧ w = w' := by
  unfold maxLen at hn
  have HS := hide h
  clear h
  go_enter Tryz.func98, Tryz.ntmps98
  go_wp2
  go_loop [8] (fun i => ∃ k : Nat, k ≤ l.length ∧ i = .int .i64 k ∧ Hid ((l.take k).any (· == b) = false)) (fun i => l.length - (intOf i).toNat)
  case atStart => exact ⟨0, Nat.zero_le _, rfl, by simp [Hid]⟩
  case round =>
    obtain ⟨k, hk, rfl, hr⟩ := hrel
    by_cases hlt : k < l.length
    · obtain ⟨b2, off, rfl, hb, hc⟩ := HS.out.resolve_left (by intro e; rw [e] at hlt; simp at hlt)
      obtain ⟨x, hx⟩ : ∃ x, x = l.getD k 0 := ⟨_, rfl⟩
      have hck := hc k hlt
      rw [← hx] at hck
      have HX : Hid (l[k]? = some x) := by rw [hx]; exact getD_at _ _ _ hlt
      clear hx hc
      have hlt' : (k : Int) < (l.length : Int) := by omega
      by_cases he : x = b
      · have HF : Hid (Found (· == b) l (k : Int)) := .inr ⟨k, x, rfl, HX.out, by simpa using he, hr.out⟩
        subst he
        clear hr
        go_wp2
        go_ret
        exact ⟨_, rfl, HF.out, rfl⟩
      · have HR := hide (any_miss HX.out (show (x == b) = false by simpa using he) hr.out)
        have he' : ¬ b = x := fun e => he e.symm
        clear hr
        go_wp2
        go_round
        case rel => exact ⟨k + 1, by omega, by go_num, HR⟩
        case measure => simp [intOf]; omega
    · have HF : Hid (Found (· == b) l (-1)) := .inl ⟨rfl, by have := hr.out; rw [List.take_of_length_le (by omega)] at this; exact this⟩
      clear hr
      go_wp2
      go_ret
      exact ⟨_, rfl, HF.out, rfl⟩

set_option maxHeartbeats 400000 in
theorem containsI_any (a : Option Addr) (c : Nat) (l : List Int) (b : Int) (w : World) (h : SegI w a l) (hn : l.length ≤ maxLen) :
    Calls Tryz.prog 51 #[.slice a l.length c, .int .i64 b] w fun e w' => e = .returned (.bool (amongB l b)) ∧ w = w' := by
  go_enter Tryz.func51, Tryz.ntmps51
  go_wp2_with fail
  refine (indexI_any a c l b w h hn).mono ?_
  rintro e w1 ⟨i, rfl, hf, rfl⟩
  have HF : Hid (amongB l b = decide (0 ≤ i)) := found_any hf
  clear hf
  go_wp2
  go_ret
  exact ⟨by rw [HF.out]; rfl, rfl⟩

end Go.Proofs.YtjnpndfpajjihabGreat
