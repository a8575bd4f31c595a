/-
  The walk of disk.Crash.
-/
import Derived.Test.YtjnpndfpajjihaaChoices
namespace Go.Proofs.Ytjnpndfpajjihaa
open Go.RowKit

/-- What Crash has chosen for the first k places, and what is left of the draw. -/
def crashL (d : Dk) (q : Nat) : Nat → List ByteArray × Nat
  | 0 => ([], q)
  | k + 1 => ((crashL d q k).1 ++ [(ways d k).getD ((crashL d q k).2 % (ways d k).length) ByteArray.empty], (crashL d q k).2 / (ways d k).length)
def crashK (d : Dk) (q : Int) : Dk := if (goodB d && decide (0 ≤ q)) = true then ⟨(crashL d q.toNat 37).1, []⟩ else d
def crashE (d : Dk) (q : Int) : Int := if (goodB d && decide (0 ≤ q)) = true then 0 else 2

theorem crashL_length (d : Dk) (q k : Nat) : (crashL d q k).1.length = k := by
  induction k with
  | zero => rfl
  | succ k ih => simp [crashL, ih]
theorem crashL_le (d : Dk) (q k : Nat) : (crashL d q k).2 ≤ q := by
  induction k with
  | zero => exact Nat.le_refl _
  | succ k ih => exact Nat.le_trans (Nat.div_le_self _ _) ih
theorem ways_length (d : Dk) (n : Nat) (h : d.wr.length ≤ 200) : 1 ≤ (ways d n).length ∧ (ways d n).length ≤ 201 := by
  have := waysTo_length d n d.wr.length h
  rw [waysTo, List.take_length] at this
  exact this

set_option maxHeartbeats 1000000 in
theorem crash_no (v : Value) (d : Dk) (q : Int) (w : World) (h : IsDk w v d) (hno : (goodB d && decide (0 ≤ q)) = false) :
    Calls Try.prog 30 #[v, .int .i64 q] w fun e w' => e = .returned (.tuple #[v, .int .i64 2]) ∧ Below w.heap.size w w' := by
  have HI : Hid (IsDk w v d) := h
  obtain ⟨a, c, a', c', rfl, _, _, _, _⟩ := h
  cases hg : goodB d with
  | false =>
    clear hno
    go_enter Try.func30, Try.ntmps30
    go_wp2_with fail
    refine (good_any _ d _ (HI.out.below (bthen (below1 _ _) (below1 _ _)))).mono ?_
    rintro e w1 ⟨rfl, hb1⟩
    obtain ⟨hc1, hf1⟩ := bcell hb1
    have hs1 : w.heap.size + 1 < w1.heap.size := by have := hb1.size; simp at this; omega
    go_wp2
    refine bodyPost_ret (v := .tuple #[.agg #[.slice a d.safe.length c, .slice a' d.wr.length c'], .int .i64 2]) (by simp [results, Try.results30, go_sem, hc1]) rfl ⟨rfl, ?_⟩
    have hb2 : Below w.heap.size w w1 := bthen (bthen (below1 _ _) (below1 _ _)) hb1
    exact (hb2.setCell (by simp) _).setCell (by simp) _
  | true =>
    have hq : q < 0 := by simpa [hg] using hno
    clear hno
    go_enter Try.func30, Try.ntmps30
    go_wp2_with fail
    refine (good_any _ d _ (HI.out.below (bthen (below1 _ _) (below1 _ _)))).mono ?_
    rintro e w1 ⟨rfl, hb1⟩
    obtain ⟨hc1, hf1⟩ := bcell hb1
    have hs1 : w.heap.size + 1 < w1.heap.size := by have := hb1.size; simp at this; omega
    go_wp2
    refine bodyPost_ret (v := .tuple #[.agg #[.slice a d.safe.length c, .slice a' d.wr.length c'], .int .i64 2]) (by simp [results, Try.results30, go_sem, hc1]) rfl ⟨rfl, ?_⟩
    have hb2 : Below w.heap.size w w1 := bthen (bthen (below1 _ _) (below1 _ _)) hb1
    exact (hb2.setCell (by simp) _).setCell (by simp) _

set_option maxHeartbeats 2000000 in
set_option maxRecDepth 100000 in
theorem crash_ok (v : Value) (d : Dk) (q : Nat) (w : World) (h : IsDk w v d) (hg : goodB d = true) (hq : q ≤ 9223372036854775807) :
    Calls Try.prog 30 #[v, .int .i64 q] w fun e w' => ∃ v2, e = .returned (.tuple #[v2, .int .i64 0]) ∧ IsDk w' v2 ⟨(crashL d q 37).1, []⟩ ∧ Below w.heap.size w w' ∧ DkFrom w.heap.size v2 := by
  have HI : Hid (IsDk w v d) := h
  obtain ⟨a, c, a', c', rfl, _, _, _, _⟩ := h
  have H37 := hide (good_len37 hg)
  have hmk := made37
  go_enter Try.func30, Try.ntmps30
  go_wp2_with fail
  refine (good_any _ d _ (HI.out.below (bthen (below1 _ _) (below1 _ _)))).mono ?_
  rintro e w1 ⟨rfl, hb1⟩
  have hs1 : w.heap.size + 1 < w1.heap.size := by have := hb1.size; simp at this; omega
  have x0 := cellKeep hb1 (b := w.heap.size) (o := 0) (v := .slice a d.safe.length c) (by simp; omega) (by simp [go_sem])
  have x1 := cellKeep hb1 (b := w.heap.size) (o := 1) (v := .slice a' d.wr.length c') (by simp; omega) (by simp [go_sem])
  have y0 := cellKeep hb1 (b := w.heap.size + 1) (o := 0) (v := .slice none 0 0) (by simp) (by simp [go_sem])
  have y1 := cellKeep hb1 (b := w.heap.size + 1) (o := 1) (v := .slice none 0 0) (by simp) (by simp [go_sem])
  have f0 := frozKeep hb1 (b := w.heap.size + 1) (o := 0) (v := false) (by simp) (by simp [go_sem])
  have f1 := frozKeep hb1 (b := w.heap.size + 1) (o := 1) (v := false) (by simp) (by simp [go_sem])
  have hb2 : Below w.heap.size w w1 := bthen (bthen (below1 _ _) (below1 _ _)) hb1
  clear hb1
  go_wp2
  go_loopw [1, 20] (fun r i wr => ∃ k : Nat, k ≤ 37 ∧ i = .int .i64 k ∧ r = .int .i64 ((crashL d q k).2 : Nat) ∧ Hid (wr.ownsRow w1.heap.size 9 1 (.slice (some ⟨w1.heap.size, 0, none⟩) 37 37) 37 (fill (crashL d q k).1 (37 - k))) ∧ Below w1.heap.size w1 wr) (fun _ i _ => 37 - (intOf i).toNat)
  case atStart => exact ⟨0, Nat.zero_le _, rfl, rfl, made_owns _ _ (Nat.le_refl _), below1 _ _⟩
  case round =>
    obtain ⟨k, hk, rfl, rfl, hown, hbr⟩ := hrel
    have hsr := hbr.size
    by_cases hlt : k < 37
    · have hlt' : (k : Int) < 37 := by omega
      have z0 := cellKeep hbr (by omega) x0
      have z1 := cellKeep hbr (by omega) x1
      have hrq := crashL_le d q k
      obtain ⟨r, hr⟩ : ∃ r, r = (crashL d q k).2 := ⟨_, rfl⟩
      rw [← hr] at hrq ⊢
      clear hmk
      go_wp2_with fail
      refine (choices_any _ d k _ (HI.out.below (bthen hb2 hbr)) H37.out.1 hlt H37.out.2).mono ?_
      rintro e w3 ⟨v3, rfl, hown3, hb3⟩
      obtain ⟨a3, c3, hv3, hS3, _⟩ := SegS.of_owns hown3
      have hL := ways_length d k H37.out.2
      obtain ⟨b3, o3, ha3, hb3', hc3⟩ := hS3.resolve_left (by intro e; rw [e] at hL; simp at hL)
      obtain ⟨t, ht⟩ : ∃ t, t = (ways d k).getD (r % (ways d k).length) ByteArray.empty := ⟨_, rfl⟩
      have hct := hc3 (r % (ways d k).length) (Nat.mod_lt _ (by omega))
      rw [← ht] at hct
      have HK : Hid (crashL d q (k + 1) = ((crashL d q k).1 ++ [t], r / (ways d k).length)) := by rw [ht, hr]; rfl
      obtain ⟨L, hLe⟩ : ∃ L, L = (ways d k).length := ⟨_, rfl⟩
      rw [← hLe] at hv3 hL hct HK
      rw [hv3, ha3]
      have hown4 := owns_keep hown.out hb3
      rw [show 37 - k = (36 - k) + 1 from by omega] at hown4
      have hcc := fill_cell hown4
      have hst := fill_step hown4 t
      rw [crashL_length] at hcc hst
      obtain ⟨⟨u, hu⟩, hfz, hg1, hg2, _⟩ := hcc
      have HST := hide hst
      clear hown4 hst hown z0 z1 hown3 hS3 hc3 ha3 hv3 hLe ht hr
      have hm0 : 0 ≤ (r : Int) % (L : Int) := Int.emod_nonneg _ (by omega)
      have hm1 : (r : Int) % (L : Int) < (L : Int) := Int.emod_lt_of_pos _ (by omega)
      have hd0 : 0 ≤ (r : Int) / (L : Int) := Int.ediv_nonneg (by omega) (by omega)
      have hd1 : (r : Int) / (L : Int) ≤ 9223372036854775807 := Int.le_trans (Int.ediv_le_self _ (by omega)) (by omega)
      go_wp2
      go_roundw
      case rel =>
        refine ⟨k + 1, by omega, by go_num, ?_, ?_, ?_⟩
        · rw [HK.out]; rfl
        · rw [HK.out, show 37 - (k + 1) = 36 - k from by omega]; exact HST
        · exact (bthen hbr hb3).setCell (by simp) _
      case measure => simp [intOf]; omega
    · have e : k = 37 := by omega
      have hown' := hown.out
      rw [e, show 37 - 37 = 0 from rfl, fill_full] at hown'
      obtain ⟨a2, c2, hv2, hS2, hA2⟩ := SegS.of_owns hown'
      have hA2' := hide hA2
      have HS2 := hide hS2
      have y0' := cellKeep hbr (by omega) y0
      have y1' := cellKeep hbr (by omega) y1
      have f0' := frozKeep hbr (by omega) f0
      have f1' := frozKeep hbr (by omega) f1
      rw [crashL_length] at hv2
      simp only [Value.slice.injEq] at hv2
      obtain ⟨ha2, _, hc2⟩ := hv2
      subst ha2 hc2
      clear hown hown' hS2 hA2 y0 y1 f0 f1 x0 x1 hmk e
      go_wp2
      refine bodyPost_ret (v := .tuple #[.agg #[.slice (some ⟨w1.heap.size, 0, none⟩) 37 37, .slice none 0 0], .int .i64 0]) (by simp [results, Try.results30, go_sem, y0', y1']) rfl ⟨_, rfl, ⟨some ⟨w1.heap.size, 0, none⟩, 37, none, 0, ?_, ?_, .inl rfl, ?_, ?_⟩, ?_, ⟨_, _, _, _, _, _, rfl, fun b off e => by cases e; omega, fun _ _ e => by cases e⟩⟩
      · simp only [crashL_length]; rfl
      · exact (HS2.out.setCell hA2'.out (by simp; omega) _).setCell hA2'.out (by simp; omega) _
      · show (crashL d q 37).1.length ≤ maxLen; rw [crashL_length]; decide
      · exact Nat.zero_le _
      · exact ((bthen hb2 hbr).setCell (by simp) _).setCell (by simp) _

/-- disk.Crash: each place as the draw says, all safe, no writes; or an error, and the disk as it was. -/
theorem crash_from (v : Value) (d : Dk) (q : Int) (w : World) (h : IsDk w v d) (hq : q ≤ 9223372036854775807) :
    Calls Try.prog 30 #[v, .int .i64 q] w fun e w' => ∃ v2, e = .returned (.tuple #[v2, .int .i64 (crashE d q)]) ∧ IsDk w' v2 (crashK d q) ∧ (crashE d q ≠ 0 → v2 = v) ∧ Below w.heap.size w w' ∧ (v2 = v ∨ DkFrom w.heap.size v2) := by
  cases hg : (goodB d && decide (0 ≤ q)) with
  | false =>
    have hE : crashE d q = 2 := by simp only [crashE, hg]; rfl
    have hK : crashK d q = d := by simp only [crashK, hg]; rfl
    rw [hE, hK]
    exact (crash_no v d q w h hg).mono fun e w' he => ⟨v, he.1, h.below he.2, fun _ => rfl, he.2, .inl rfl⟩
  | true =>
    have hE : crashE d q = 0 := by simp only [crashE, hg]; rfl
    have hK : crashK d q = ⟨(crashL d q.toNat 37).1, []⟩ := by simp only [crashK, hg]; rfl
    simp at hg
    obtain ⟨n, rfl⟩ := Int.eq_ofNat_of_zero_le hg.2
    rw [hE, hK]
    rw [Int.toNat_natCast]
    exact (crash_ok v d n w h hg.1 (by omega)).mono fun e w' he => by
      obtain ⟨v2, h1, h2, h3, h4⟩ := he
      exact ⟨v2, h1, h2, fun h => absurd rfl h, h3, .inr h4⟩
theorem crash_any (v : Value) (d : Dk) (q : Int) (w : World) (h : IsDk w v d) (hq : q ≤ 9223372036854775807) :
    Calls Try.prog 30 #[v, .int .i64 q] w fun e w' => ∃ v2, e = .returned (.tuple #[v2, .int .i64 (crashE d q)]) ∧ IsDk w' v2 (crashK d q) ∧ (crashE d q ≠ 0 → v2 = v) ∧ Below w.heap.size w w' :=
  (crash_from v d q w h hq).mono fun _ _ ⟨v2, h1, h2, h3, h4, _⟩ => ⟨v2, h1, h2, h3, h4⟩

end Go.Proofs.Ytjnpndfpajjihaa
