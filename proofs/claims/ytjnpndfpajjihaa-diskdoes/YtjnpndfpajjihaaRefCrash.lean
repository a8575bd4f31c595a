/-
  The walk of the document's own CrashDisk.
-/
import Derived.Test.YtjnpndfpajjihaaRefFlush
import Derived.Test.YtjnpndfpajjihaaCrash
namespace Go.Proofs.Ytjnpndfpajjihaa
open Go.RowKit

theorem div_rest (r L : Nat) (h : 1 ≤ L) : ((r : Int) - (r : Int) % (L : Int)) / (L : Int) = (r : Int) / (L : Int) := by
  have e : (r : Int) - (r : Int) % (L : Int) = (L : Int) * ((r : Int) / (L : Int)) := by
    have := Int.mul_ediv_add_emod (r : Int) (L : Int)
    omega
  rw [e, Int.mul_ediv_cancel_left _ (by omega)]

set_option maxHeartbeats 1000000 in
theorem crashRef_no (v : Value) (d : Dk) (q : Int) (w : World) (h : IsDk w v d) (hno : (goodB d && decide (0 ≤ q)) = false) :
    Calls Try.prog 31 #[v, .int .i64 q] w fun e w' => e = .returned (.tuple #[v, .int .i64 2]) ∧ Below w.heap.size w w' := by
  have HI : Hid (IsDk w v d) := h
  obtain ⟨a, c, a', c', rfl, _, _, _, _⟩ := h
  cases hg : goodB d with
  | false =>
    clear hno
    go_enter Try.func31, Try.ntmps31
    go_wp2_with fail
    refine (goodDisk_any _ d _ (HI.out.below (bthen (below1 _ _) (below1 _ _)))).mono ?_
    rintro e w1 ⟨rfl, hb1⟩
    obtain ⟨hc1, hf1⟩ := bcell hb1
    have hs1 : w.heap.size + 1 < w1.heap.size := by have := hb1.size; simp at this; omega
    go_wp2
    refine bodyPost_ret (v := .tuple #[.agg #[.slice a d.safe.length c, .slice a' d.wr.length c'], .int .i64 2]) (by simp [results, Try.results31, go_sem, hc1]) rfl ⟨rfl, ?_⟩
    have hb2 : Below w.heap.size w w1 := bthen (bthen (below1 _ _) (below1 _ _)) hb1
    exact (hb2.setCell (by simp) _).setCell (by simp) _
  | true =>
    have hq : q < 0 := by simpa [hg] using hno
    clear hno
    go_enter Try.func31, Try.ntmps31
    go_wp2_with fail
    refine (goodDisk_any _ d _ (HI.out.below (bthen (below1 _ _) (below1 _ _)))).mono ?_
    rintro e w1 ⟨rfl, hb1⟩
    obtain ⟨hc1, hf1⟩ := bcell hb1
    have hs1 : w.heap.size + 1 < w1.heap.size := by have := hb1.size; simp at this; omega
    go_wp2
    refine bodyPost_ret (v := .tuple #[.agg #[.slice a d.safe.length c, .slice a' d.wr.length c'], .int .i64 2]) (by simp [results, Try.results31, go_sem, hc1]) rfl ⟨rfl, ?_⟩
    have hb2 : Below w.heap.size w w1 := bthen (bthen (below1 _ _) (below1 _ _)) hb1
    exact (hb2.setCell (by simp) _).setCell (by simp) _

set_option maxHeartbeats 4000000 in
set_option maxRecDepth 100000 in
theorem crashRef_ok (v : Value) (d : Dk) (q : Nat) (w : World) (h : IsDk w v d) (hg : goodB d = true) (hq : q ≤ 9223372036854775807) :
    Calls Try.prog 31 #[v, .int .i64 q] w fun e w' => ∃ v2, e = .returned (.tuple #[v2, .int .i64 0]) ∧ IsDk w' v2 ⟨(crashL d q 37).1, []⟩ ∧ Below w.heap.size w w' ∧ DkFrom w.heap.size v2 := by
  have HI : Hid (IsDk w v d) := h
  obtain ⟨a, c, a', c', rfl, _, _, _, _⟩ := h
  have H37 := hide (good_len37 hg)
  rw [H37.out.1] at HI ⊢
  go_enter Try.func31, Try.ntmps31
  go_wp2_with fail
  refine (goodDisk_any _ d _ (HI.out.below (bthen (below1 _ _) (below1 _ _)))).mono ?_
  rintro e w1 ⟨rfl, hb1⟩
  have hs1 : w.heap.size + 1 < w1.heap.size := by have := hb1.size; simp at this; omega
  have hs1' : w.heap.size < w1.heap.size := by omega
  have x0 := cellKeep hb1 (b := w.heap.size) (o := 0) (v := .slice a 37 c) (by simp; omega) (by simp [go_sem])
  have x1 := cellKeep hb1 (b := w.heap.size) (o := 1) (v := .slice a' d.wr.length c') (by simp; omega) (by simp [go_sem])
  have y0 := cellKeep hb1 (b := w.heap.size + 1) (o := 0) (v := .slice none 0 0) (by simp) (by simp [go_sem])
  have y1 := cellKeep hb1 (b := w.heap.size + 1) (o := 1) (v := .slice none 0 0) (by simp) (by simp [go_sem])
  have f0 := frozKeep hb1 (b := w.heap.size + 1) (o := 0) (v := false) (by simp) (by simp [go_sem])
  have f1 := frozKeep hb1 (b := w.heap.size + 1) (o := 1) (v := false) (by simp) (by simp [go_sem])
  have hb2 : Below w.heap.size w w1 := bthen (bthen (below1 _ _) (below1 _ _)) hb1
  clear hb1
  go_wp2
  go_loopw [1, 22] (fun r i wr => ∃ (k : Nat) (a2 : Option Addr) (c2 : Nat), k ≤ 37 ∧ i = .int .i64 k ∧ r = .int .i64 ((crashL d q k).2 : Nat) ∧ wr.heap[w1.heap.size]? = some (.cells #[.slice a2 k c2, .slice none 0 0] 25 (0, 0)) ∧ Hid (wr.ownsRow (w1.heap.size + 1) 9 1 (.slice a2 k c2) k (cellsS (crashL d q k).1)) ∧ Below w1.heap.size w1 wr) (fun _ i _ => 37 - (intOf i).toNat)
  case atStart =>
    refine ⟨0, none, 0, Nat.zero_le _, rfl, rfl, ?_, World.ownsRow_nil _ _ _ _, below1 _ _⟩
    exact heap_alloc_new w1 _
  case round =>
    obtain ⟨k, a2, c2, hk, rfl, rfl, hbox, hown, hbr⟩ := hrel
    have HBOX := hide hbox
    clear hbox
    have hsr : w1.heap.size < wr.heap.size := (Array.getElem?_eq_some_iff.1 HBOX.out).1
    by_cases hlt : k < 37
    · have hlt' : (k : Int) < 37 := by omega
      have z0 := cellKeep hbr (by omega) x0
      have z1 := cellKeep hbr (by omega) x1
      have hrq := crashL_le d q k
      obtain ⟨r, hr⟩ : ∃ r, r = (crashL d q k).2 := ⟨_, rfl⟩
      rw [← hr] at hrq ⊢
      go_wp2_with fail
      refine (after_any _ d k _ (HI.out.below (bthen hb2 hbr)) H37.out.1 hlt H37.out.2).mono ?_
      rintro e w3 ⟨v3, rfl, hown3, hb3⟩
      obtain ⟨a3, c3, hv3, hS3, _⟩ := SegS.of_owns hown3
      have hL : 1 ≤ (ways d k).length ∧ (ways d k).length ≤ 201 := by
        have := waysTo_length d k d.wr.length H37.out.2
        rw [waysTo, List.take_length] at this
        exact this
      obtain ⟨b3, o3, ha3, hb3', hc3⟩ := hS3.resolve_left (by intro e; rw [e] at hL; simp at hL)
      obtain ⟨t, ht⟩ : ∃ t, t = (ways d k).getD (r % (ways d k).length) ByteArray.empty := ⟨_, rfl⟩
      have hct := hc3 (r % (ways d k).length) (Nat.mod_lt _ (by omega))
      rw [← ht] at hct
      have HK : Hid (crashL d q (k + 1) = ((crashL d q k).1 ++ [t], r / (ways d k).length)) := by rw [ht, hr]; rfl
      obtain ⟨L, hLe⟩ : ∃ L, L = (ways d k).length := ⟨_, rfl⟩
      rw [← hLe] at hv3 hL hct HK
      rw [hv3, ha3]
      have hs3 : w1.heap.size < w3.heap.size := by have := hb3.size; omega
      have hbox3 : w3.heap[w1.heap.size]? = some (.cells #[.slice a2 k c2, .slice none 0 0] 25 (0, 0)) := (hb3.block _ hsr).trans HBOX.out
      have o0 : w3.cell? ⟨w1.heap.size, 0, none⟩ = some (.slice a2 k c2) := by rw [cell_of_row w3 _ _ _ _ _ hbox3]; rfl
      have HB3 := hide hbox3
      have HO3 := hide (owns_keep hown.out hb3)
      have hb4 := bthen hbr hb3
      clear hown hown3 hS3 hc3 hv3 ha3 hLe z0 z1 hbox3 ht hr
      have hm0 : 0 ≤ (r : Int) % (L : Int) := Int.emod_nonneg _ (by omega)
      have hm1 : (r : Int) % (L : Int) < (L : Int) := Int.emod_lt_of_pos _ (by omega)
      have hm2 : (r : Int) % (L : Int) ≤ (r : Int) := by have := Nat.mod_le r L; omega
      have hdv : ((r : Int) - (r : Int) % (L : Int)) / (L : Int) = (r : Int) / (L : Int) := div_rest r L hL.1
      have HDV := hide hdv
      clear hdv
      have hct2 : w3.cell? ⟨b3, o3 + ((r : Int) % (L : Int)).toNat, none⟩ = some (.string t) := by
        rw [show ((r : Int) % (L : Int)).toNat = r % L from by rw [← Int.natCast_emod, Int.toNat_natCast]]
        exact hct
      go_wp2
      go_region_law (refine step_appS rfl (.tmp 33) (.tmp 38) rfl (w1.heap.size + 1) (.slice a2 k c2) k (crashL d q k).1 (by simp [Act.eval]) (HO3.out.alloc _) ⟨w3.heap.size, 0, none⟩ t (by simp [Act.eval]) (by simp [go_sem]) (by omega) (by simp; omega) ?_; intro a5 c5 w5 HO5 hg5; have hbox5 : w5.heap[w1.heap.size]? = some (.cells #[.slice a2 k c2, .slice none 0 0] 25 (0, 0)) := ((hg5.block w1.heap.size (by simp; omega) (fun e => by have := HO3.out.lt _ e.symm; omega)).trans ((Below.heap_alloc w3 _ _ hs3).trans HB3.out)); have o5 : w5.cell? ⟨w1.heap.size, 0, none⟩ = some (.slice a2 k c2) := (by rw [cell_of_row w5 _ _ _ _ _ hbox5]; rfl); have fz5 : w5.frozen? ⟨w1.heap.size, 0, none⟩ = false := (frozen_of_row w5 _ _ _ _ hbox5); have HB5 := hide hbox5; have hb5 : Below w1.heap.size w1 w5 := (((hb4.alloc (by omega) _).drew).grown hg5 (by simp; omega) (fun k hk => by have := HO3.out.lt k hk; omega)); clear hbox5 hg5)
      all_goals
        clear HO3 HB3 hb4 hb3 o0
        go_wp2
        go_roundw
        case rel =>
          refine ⟨k + 1, a5, c5, by omega, by go_num, ?_, ?_, ?_, hb5.setCell (by simp) _⟩
          · rw [HK.out, HDV.out]; rfl
          · rw [heap_setCell_same w5 _ _ _ _ _ HB5.out]; rfl
          · rw [HK.out]
            exact ownsRow_setCell_below HO5.out (by simp) _
        case measure => simp [intOf]; omega
    · have e : k = 37 := by omega
      subst e
      obtain ⟨a4, c4, hv4, hS4, hA4⟩ := SegS.of_owns hown.out
      rw [crashL_length] at hv4
      simp only [Value.slice.injEq] at hv4
      obtain ⟨ha4, _, hc4⟩ := hv4
      subst ha4 hc4
      have HS4 := hide hS4
      have HA4 := hide hA4
      have o0 : wr.cell? ⟨w1.heap.size, 0, none⟩ = some (.slice a2 37 c2) := by rw [cell_of_row wr _ _ _ _ _ HBOX.out]; rfl
      have o1 : wr.cell? ⟨w1.heap.size, 1, none⟩ = some (.slice none 0 0) := by rw [cell_of_row wr _ _ _ _ _ HBOX.out]; rfl
      have y2 := cellKeep hbr (by omega) y0
      have y3 := cellKeep hbr (by omega) y1
      have f2 := frozKeep hbr (by omega) f0
      have f3 := frozKeep hbr (by omega) f1
      have HB := hide (bthen hb2 hbr)
      clear hown hS4 hA4 hbr hb2 x0 x1 y0 y1 f0 f1 HBOX
      go_wp2
      refine bodyPost_ret (v := .tuple #[.agg #[.slice a2 37 c2, .slice none 0 0], .int .i64 0]) (by simp [results, Try.results31, go_sem, y2, y3]) rfl ⟨_, rfl, ⟨a2, c2, none, 0, ?_, ?_, .inl rfl, ?_, ?_⟩, ?_, a2, _, c2, none, _, _, rfl, (fun x o e => by have := HA4.out x o e; omega), fun x o e => by cases e⟩
      · simp only [crashL_length]; rfl
      · exact (HS4.out.setCell HA4.out (by simp; omega) _).setCell HA4.out (by simp; omega) _
      · show (crashL d q 37).1.length ≤ maxLen; rw [crashL_length]; decide
      · exact Nat.zero_le _
      · exact (HB.out.setCell (by simp) _).setCell (by simp) _

/-- wastebookref.CrashDisk: each place as the draw says, all safe, no writes; or an error, and the disk as it was. -/
theorem crashRef_any (v : Value) (d : Dk) (q : Int) (w : World) (h : IsDk w v d) (hq : q ≤ 9223372036854775807) :
    Calls Try.prog 31 #[v, .int .i64 q] w fun e w' => ∃ v2, e = .returned (.tuple #[v2, .int .i64 (crashE d q)]) ∧ IsDk w' v2 (crashK d q) ∧ Below w.heap.size w w' := by
  cases hg : (goodB d && decide (0 ≤ q)) with
  | false =>
    have hE : crashE d q = 2 := by simp only [crashE, hg]; rfl
    have hK : crashK d q = d := by simp only [crashK, hg]; rfl
    rw [hE, hK]
    exact (crashRef_no v d q w h hg).mono fun e w' he => ⟨v, he.1, h.below he.2, he.2⟩
  | true =>
    have hE : crashE d q = 0 := by simp only [crashE, hg]; rfl
    have hK : crashK d q = ⟨(crashL d q.toNat 37).1, []⟩ := by simp only [crashK, hg]; rfl
    simp at hg
    obtain ⟨n, rfl⟩ := Int.eq_ofNat_of_zero_le hg.2
    rw [hE, hK]
    rw [Int.toNat_natCast]
    exact (crashRef_ok v d n w h hg.1 (by omega)).mono fun e w' ⟨v2, h1, h2, h3, _⟩ => ⟨v2, h1, h2, h3⟩

end Go.Proofs.Ytjnpndfpajjihaa
