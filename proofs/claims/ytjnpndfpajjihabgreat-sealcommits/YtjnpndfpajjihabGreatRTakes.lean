/-
  The walk of the document's own GoodRing.
  The walk of the document's own TakeRing.
  The walk of the document's own OpenOf.
-/
import Derived.Test.YtjnpndfpajjihabGreatRPure
import Derived.Test.YtjnpndfpajjihabGreatTCore
namespace Go.Proofs.YtjnpndfpajjihabGreat
open Go.RowKit

set_option maxHeartbeats 1000000 in
theorem goodRing_any (h u : Int) (w : World) :
    Calls Tryz.prog 70 #[.agg #[.int .i64 h, .int .i64 u]] w fun e w' => e = .returned (.bool (goodR h u)) ∧ Below w.heap.size w w' := by
  by_cases h1 : 0 ≤ h
  · by_cases h2 : h ≤ 23
    · by_cases h3 : 0 ≤ u
      · by_cases h4 : u ≤ 24
        all_goals
          go_enter Tryz.func70, Tryz.ntmps70
          go_wp2
          go_ret
          exact ⟨by simp [goodR, h1, h2, h3, h4], below1 _ _⟩
      · go_enter Tryz.func70, Tryz.ntmps70
        go_wp2
        go_ret
        exact ⟨by simp [goodR]; omega, below1 _ _⟩
    · go_enter Tryz.func70, Tryz.ntmps70
      go_wp2
      go_ret
      exact ⟨by simp [goodR]; omega, below1 _ _⟩
  · go_enter Tryz.func70, Tryz.ntmps70
    go_wp2
    go_ret
    exact ⟨by simp [goodR]; omega, below1 _ _⟩


set_option maxHeartbeats 2000000 in
set_option maxRecDepth 100000 in
theorem takeRing_any (h u n : Int) (w : World) :
    Calls Tryz.prog 73 #[.agg #[.int .i64 h, .int .i64 u], .int .i64 n] w fun e w' => ∃ a2 c2, e = .returned (.tuple #[.agg #[.int .i64 (takeH h u n), .int .i64 (takeU h u n)], .slice a2 (takeL h u n).length c2, .int .i64 (takeE h u n)]) ∧ (SegI w' a2 (takeL h u n) ∧ ∀ b off, a2 = some ⟨b, off, none⟩ → w.heap.size ≤ b) ∧ Below w.heap.size w w' := by
  go_enter Tryz.func73, Tryz.ntmps73
  go_wp2_with fail
  refine (goodRing_any h u _).mono ?_
  rintro e w1 ⟨rfl, hb1⟩
  have hs1 : w.heap.size + 1 < w1.heap.size := by have := hb1.size; simp at this; omega
  have hs1' : w.heap.size < w1.heap.size := by omega
  obtain ⟨⟨x0, x1⟩, _⟩ := box2 (two1 hb1)
  obtain ⟨⟨y0, y1⟩, f0, f1⟩ := box2 (two2 hb1)
  have HB := hide (bthen (bthen (below1 _ _) (below1 _ _)) hb1)
  clear hb1
  by_cases hE : goodR h u = false ∨ n < 0
  · have HE : Hid (takeE h u n = 2) := by rw [Hid, takeE, if_pos hE]
    have HH : Hid (takeH h u n = h ∧ takeU h u n = u ∧ takeL h u n = []) := by simp [Hid, takeH, takeU, takeL, HE.out]
    cases hg : goodR h u with
    | false =>
      clear hg hE
      go_wp2
      refine bodyPost_ret (v := .tuple #[.agg #[.int .i64 h, .int .i64 u], .slice none 0 0, .int .i64 2]) (by simp [results, Tryz.results73, go_sem, y0, y1]) rfl ⟨none, 0, by rw [HE.out, HH.out.1, HH.out.2.1, HH.out.2.2]; rfl, ⟨.inl HH.out.2.2, fun _ _ e => by cases e⟩, ?_⟩
      repeat refine Below.setCell ?_ (by simp) _
      exact HB.out
    | true =>
      have hn : n < 0 := by rw [hg] at hE; rcases hE with e | e; cases e; exact e
      clear hg hE
      go_wp2
      refine bodyPost_ret (v := .tuple #[.agg #[.int .i64 h, .int .i64 u], .slice none 0 0, .int .i64 2]) (by simp [results, Tryz.results73, go_sem, y0, y1]) rfl ⟨none, 0, by rw [HE.out, HH.out.1, HH.out.2.1, HH.out.2.2]; rfl, ⟨.inl HH.out.2.2, fun _ _ e => by cases e⟩, ?_⟩
      repeat refine Below.setCell ?_ (by simp) _
      exact HB.out
  · have hg : goodR h u = true := by cases e : goodR h u; exact absurd (.inl e) hE; rfl
    have hb := goodR_yes hg
    have hn : ¬ n < 0 := fun e => hE (.inr e)
    rw [hg]
    by_cases hs : 24 - u < n
    · have HE : Hid (takeE h u n = 6) := by rw [Hid, takeE, if_neg hE, if_pos hs]
      have HH : Hid (takeH h u n = h ∧ takeU h u n = u ∧ takeL h u n = []) := by simp [Hid, takeH, takeU, takeL, HE.out]
      clear hg hE
      go_wp2
      refine bodyPost_ret (v := .tuple #[.agg #[.int .i64 h, .int .i64 u], .slice none 0 0, .int .i64 6]) (by simp [results, Tryz.results73, go_sem, y0, y1]) rfl ⟨none, 0, by rw [HE.out, HH.out.1, HH.out.2.1, HH.out.2.2]; rfl, ⟨.inl HH.out.2.2, fun _ _ e => by cases e⟩, ?_⟩
      repeat refine Below.setCell ?_ (by simp) _
      exact HB.out
    · have HE : Hid (takeE h u n = 0) := by rw [Hid, takeE, if_neg hE, if_neg hs]
      obtain ⟨m, rfl⟩ := Int.eq_ofNat_of_zero_le (show 0 ≤ n by omega)
      have HH : Hid (takeH h u m = (h + m) % 24 ∧ takeU h u m = u + m ∧ takeL h u m = placesOf h m) := by simp [Hid, takeH, takeU, takeL, HE.out]
      clear hg hE
      obtain ⟨i0, hi, hz0, hz1, hz2⟩ := info_parts infoI
      have r1 : (h + (m : Int)).tmod 24 = (h + (m : Int)) % 24 := Int.tmod_eq_emod_of_nonneg (by omega)
      go_wp2
      go_loopw [7, 24] (fun v i wr => ∃ k : Nat, k ≤ m ∧ i = .int .i64 k ∧ Hid (wr.ownsRow w1.heap.size 3 1 v k (cellsI (placesOf h k))) ∧ Below w1.heap.size w1 wr) (fun _ i _ => m - (intOf i).toNat)
      case atStart => exact ⟨0, Nat.zero_le _, rfl, World.ownsRow_nil _ _ _ _, Below.refl _ _⟩
      case round =>
        obtain ⟨k, hk, rfl, hown, hbr⟩ := hrel
        have hsr := hbr.size
        have hsr1 : w.heap.size < wr.heap.size := by omega
        have hsr2 : w.heap.size + 1 < wr.heap.size := by omega
        have z0 := cellKeep hbr (by omega) x0
        have z1 := cellKeep hbr (by omega) x1
        by_cases hlt : k < m
        · have hlt' : (k : Int) < (m : Int) := by omega
          have r2 : (h + (k : Int)).tmod 24 = (h + (k : Int)) % 24 := Int.tmod_eq_emod_of_nonneg (by omega)
          go_wp2_with (at_builtin; refine wpList_append_own _ rfl _ _ 23 rfl w1.heap.size 3 i0 (.int .i64 0) 1 8 Tryz.underlying23 hi hz0 hz1 hz2 rfl (by decide) _ _ _ rfl (hown.out.alloc _) ⟨wr.heap.size, 0, none⟩ 1 1 (cellsI [(h + (k : Int)) % 24]) rfl ?qc1 ?qc2 ?qc3 ?qc4 ?qc5 ?qc6 ?_)
          case qc1 => rfl
          case qc2 =>
            intro j u hj
            match j, hj with
            | 0, hj => simp [cellsI] at hj; subst hj; simp [go_sem]
          case qc3 => exact cellsI_one
          case qc4 => unfold maxLen; omega
          case qc5 => omega
          case qc6 => first | omega | (simp; omega)
          intro v4 w4 hown4 hg4 _
          have hb4 : Below w1.heap.size w1 w4 := (hbr.alloc hsr _).grown hg4 (by first | omega | (simp; omega)) (fun k hk => (hown.out.lt k hk).1)
          rw [← cellsI_append, ← places_succ] at hown4
          have HO4 := hide hown4
          clear hown4 hg4 hown hbr z0 z1
          go_wp2
          go_roundw
          case rel => exact ⟨k + 1, by omega, by go_num, HO4, hb4⟩
          case measure => simp [intOf]; omega
        · have e : m = k := by omega
          subst e
          obtain ⟨a2, c2, hv, hS, hA⟩ := SegI.of_owns hown.out
          rw [places_length] at hv
          subst hv
          have HS := hide hS
          have HA := hide hA
          have HB2 := hide (bthen HB.out hbr)
          replace y0 := cellKeep hbr (by omega) y0
          replace y1 := cellKeep hbr (by omega) y1
          replace f0 := frozKeep hbr (by omega) f0
          replace f1 := frozKeep hbr (by omega) f1
          clear hown hS hA hbr
          go_wp2
          refine bodyPost_ret (v := .tuple #[.agg #[.int .i64 ((h + (m : Int)) % 24), .int .i64 (u + m)], .slice a2 m c2, .int .i64 0]) (by simp [results, Tryz.results73, go_sem, y0, y1]) rfl ⟨a2, c2, by rw [HE.out, HH.out.1, HH.out.2.1, HH.out.2.2, places_length], ⟨?_, fun b off e => (by have := HA.out b off e; omega)⟩, ?_⟩
          · rw [HH.out.2.2]
            rcases HS.out with h | ⟨b, off, e, hlt, hc⟩
            · exact .inl h
            · have := HA.out b off e
              exact .inr ⟨b, off, e, by simpa [World.setCell] using hlt, fun i hi => cellSet (cellSet (hc i hi) (by simp; omega)) (by simp; omega)⟩
          · repeat refine Below.setCell ?_ (by simp) _
            exact HB2.out


set_option maxHeartbeats 1000000 in
theorem openOf_any (v : Value) (t : Tx) (w : World) (h : IsTx w v t) :
    Calls Tryz.prog 71 #[v] w fun e w' => e = .returned (.bool (openB t)) ∧ Below w.heap.size w w' := by
  obtain ⟨a, c, a', c', b, d, rfl, _, _, _, _, _, _⟩ := h
  obtain ⟨seq, info, data, rev, ⟨o0, l0⟩, ⟨o1, l1⟩, ⟨o2, l2⟩⟩ := t
  dsimp only
  cases o0 <;> cases o1 <;> cases o2
  all_goals
    go_enter Tryz.func71, Tryz.ntmps71
    go_wp2
    go_ret
    exact ⟨rfl, below1 _ _⟩

end Go.Proofs.YtjnpndfpajjihabGreat
