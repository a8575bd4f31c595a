/-
  The walk of the document's own PutDisk.
-/
import Derived.Test.YtjnpndfpajjihaaPut
import Derived.Test.YtjnpndfpajjihaaCopy
namespace Go.Proofs.Ytjnpndfpajjihaa
open Go.RowKit

theorem SegS.grown {w w' : World} {a : Option Addr} {ss : List ByteArray} {o1 o2 : Obj} {row : Option Nat} {B lo H : Nat} (h : SegS w a ss) (hg : ((w.alloc o1).alloc o2).grownBy w' row) (hrow : ∀ k, row = some k → B ≤ k ∧ k < H)
    (ha : ∀ b off, a = some ⟨b, off, none⟩ → lo ≤ b ∧ b < B) : SegS w' a ss := by
  rcases h with h | ⟨b, off, rfl, hlt, hc⟩
  · exact .inl h
  · have hlo := ha b off rfl
    have hsz := hg.size
    simp at hsz
    refine .inr ⟨b, off, rfl, by omega, fun i hi => ?_⟩
    have hne : some b ≠ row := by intro e; have := hrow b e.symm; omega
    refine hg.cell (a := ⟨b, off + i, none⟩) ?_ hne
    exact cellKeep (below1 _ _) (by simp; omega) (cellKeep (below1 _ _) hlt (hc i hi))

theorem SegS.setNe {w : World} {a : Option Addr} {ss : List ByteArray} (h : SegS w a ss) {p : Addr} (hb : ∀ b off, a = some ⟨b, off, none⟩ → b ≠ p.block) (u : Value) : SegS (w.setCell p u) a ss := by
  rcases h with h | ⟨b, off, rfl, hlt, hc⟩
  · exact .inl h
  · have := hb b off rfl
    exact .inr ⟨b, off, rfl, by simpa [World.setCell] using hlt, fun i hi => (World.cell?_of_block (w := w) (a := ⟨b, off + i, none⟩) (Below.heap_setCell _ _ _ _ this)).trans (hc i hi)⟩

theorem SegW.setNeR {w : World} {a : Option Addr} {ws : List (Int × ByteArray)} (h : SegW w a ws) {p : Addr} (hb : ∀ b off, a = some ⟨b, off, none⟩ → b ≠ p.block) (u : Value) : SegW (w.setCell p u) a ws := by
  rcases h with h | ⟨b, off, rfl, hlt, hc⟩
  · exact .inl h
  · have := hb b off rfl
    exact .inr ⟨b, off, rfl, by simpa [World.setCell] using hlt, fun i hi =>
      ⟨(World.cell?_of_block (w := w) (a := ⟨b, off + i * 2, none⟩) (Below.heap_setCell _ _ _ _ this)).trans (hc i hi).1,
        (World.cell?_of_block (w := w) (a := ⟨b, off + i * 2 + 1, none⟩) (Below.heap_setCell _ _ _ _ this)).trans (hc i hi).2⟩⟩

set_option maxHeartbeats 1000000 in
theorem putRef_range (v : Value) (d : Dk) (n : Int) (s : ByteArray) (w : World) (h : IsDk w v d) (hno : (goodB d && placeB n) = false) :
    Calls Try.prog 19 #[v, .int .i64 n, .string s] w fun e w' => e = .returned (.tuple #[v, .int .i64 2]) ∧ Below w.heap.size w w' := by
  have HI : Hid (IsDk w v d) := h
  obtain ⟨a, c, a', c', rfl, _, _, _, _⟩ := h
  by_cases hg : goodB d = true
  · have hp : placeB n = false := by simpa [hg] using hno
    clear hno
    go_enter Try.func19, Try.ntmps19
    go_wp2_with fail
    refine (goodDisk_any _ d _ (HI.out.below (bthen (below1 _ _) (below1 _ _)))).mono ?_
    rintro e w1 ⟨rfl, hb1⟩
    obtain ⟨hc1, hf1⟩ := bcell hb1
    have hs1 : w.heap.size + 1 < w1.heap.size := by have := hb1.size; simp at this; omega
    go_wp2_with fail
    refine (isAt_any _ _).mono ?_
    rintro e w2 ⟨rfl, rfl⟩
    go_wp2
    refine bodyPost_ret (v := .tuple #[.agg #[.slice a d.safe.length c, .slice a' d.wr.length c'], .int .i64 2]) (by simp [results, Try.results19, go_sem, hc1]) rfl ⟨rfl, ?_⟩
    have hb2 : Below w.heap.size w w1 := bthen (bthen (below1 _ _) (below1 _ _)) hb1
    exact (hb2.setCell (by simp) _).setCell (by simp) _
  · have hg' : goodB d = false := by simpa using hg
    clear hno hg
    go_enter Try.func19, Try.ntmps19
    go_wp2_with fail
    refine (goodDisk_any _ d _ (HI.out.below (bthen (below1 _ _) (below1 _ _)))).mono ?_
    rintro e w1 ⟨rfl, hb1⟩
    obtain ⟨hc1, hf1⟩ := bcell hb1
    have hs1 : w.heap.size + 1 < w1.heap.size := by have := hb1.size; simp at this; omega
    go_wp2
    refine bodyPost_ret (v := .tuple #[.agg #[.slice a d.safe.length c, .slice a' d.wr.length c'], .int .i64 2]) (by simp [results, Try.results19, go_sem, hc1]) rfl ⟨rfl, ?_⟩
    have hb2 : Below w.heap.size w w1 := bthen (bthen (below1 _ _) (below1 _ _)) hb1
    exact (hb2.setCell (by simp) _).setCell (by simp) _

set_option maxHeartbeats 1000000 in
theorem putRef_form (v : Value) (d : Dk) (n : Int) (s : ByteArray) (w : World) (h : IsDk w v d) (hg : goodB d = true) (hp : placeB n = true) (hf : fitsB s = false) :
    Calls Try.prog 19 #[v, .int .i64 n, .string s] w fun e w' => e = .returned (.tuple #[v, .int .i64 1]) ∧ Below w.heap.size w w' := by
  have hf1 : ((s.size : Int) != 32) = true := by simp only [fitsB] at hf; simp only [bne, hf]; rfl
  clear hf
  have HI : Hid (IsDk w v d) := h
  obtain ⟨a, c, a', c', rfl, _, _, _, _⟩ := h
  go_enter Try.func19, Try.ntmps19
  go_wp2_with fail
  refine (goodDisk_any _ d _ (HI.out.below (bthen (below1 _ _) (below1 _ _)))).mono ?_
  rintro e w1 ⟨rfl, hb1⟩
  obtain ⟨hc1, hf1⟩ := bcell hb1
  have hs1 : w.heap.size + 1 < w1.heap.size := by have := hb1.size; simp at this; omega
  go_wp2_with fail
  refine (isAt_any _ _).mono ?_
  rintro e w2 ⟨rfl, rfl⟩
  go_wp2
  refine bodyPost_ret (v := .tuple #[.agg #[.slice a d.safe.length c, .slice a' d.wr.length c'], .int .i64 1]) (by simp [results, Try.results19, go_sem, hc1]) rfl ⟨rfl, ?_⟩
  have hb2 : Below w.heap.size w w1 := bthen (bthen (below1 _ _) (below1 _ _)) hb1
  exact (hb2.setCell (by simp) _).setCell (by simp) _

set_option maxHeartbeats 1000000 in
theorem putRef_full (v : Value) (d : Dk) (n : Int) (s : ByteArray) (w : World) (h : IsDk w v d) (hg : goodB d = true) (hp : placeB n = true) (hf : fitsB s = true) (hl : d.wr.length = 200) :
    Calls Try.prog 19 #[v, .int .i64 n, .string s] w fun e w' => e = .returned (.tuple #[v, .int .i64 11]) ∧ Below w.heap.size w w' := by
  have hf1 : ((s.size : Int) != 32) = false := by simp only [fitsB] at hf; simp only [bne, hf]; rfl
  clear hf
  have HI : Hid (IsDk w v d) := h
  obtain ⟨a, c, a', c', rfl, _, _, _, _⟩ := h
  have hl' : ((d.wr.length : Int) == 200) = true := by rw [hl]; rfl
  clear hl
  go_enter Try.func19, Try.ntmps19
  go_wp2_with fail
  refine (goodDisk_any _ d _ (HI.out.below (bthen (below1 _ _) (below1 _ _)))).mono ?_
  rintro e w1 ⟨rfl, hb1⟩
  obtain ⟨hc1, hf1⟩ := bcell hb1
  have hs1 : w.heap.size + 1 < w1.heap.size := by have := hb1.size; simp at this; omega
  go_wp2_with fail
  refine (isAt_any _ _).mono ?_
  rintro e w2 ⟨rfl, rfl⟩
  go_wp2
  refine bodyPost_ret (v := .tuple #[.agg #[.slice a d.safe.length c, .slice a' d.wr.length c'], .int .i64 11]) (by simp [results, Try.results19, go_sem, hc1]) rfl ⟨rfl, ?_⟩
  have hb2 : Below w.heap.size w w1 := bthen (bthen (below1 _ _) (below1 _ _)) hb1
  exact (hb2.setCell (by simp) _).setCell (by simp) _

set_option maxHeartbeats 2000000 in
set_option maxRecDepth 100000 in
theorem putRef_ok (v : Value) (d : Dk) (n : Int) (s : ByteArray) (w : World) (h : IsDk w v d) (hg : goodB d = true) (hp : placeB n = true) (hf : fitsB s = true) (hl : ¬ d.wr.length = 200) :
    Calls Try.prog 19 #[v, .int .i64 n, .string s] w fun e w' => ∃ v2, e = .returned (.tuple #[v2, .int .i64 0]) ∧ IsDk w' v2 ⟨d.safe, d.wr ++ [(n, s)]⟩ ∧ Below w.heap.size w w' ∧ DkFrom w.heap.size v2 := by
  have hf1 : ((s.size : Int) != 32) = false := by simp only [fitsB] at hf; simp only [bne, hf]; rfl
  clear hf
  have HI : Hid (IsDk w v d) := h
  obtain ⟨a, c, a', c', rfl, _, _, _, _⟩ := h
  have hl' : ((d.wr.length : Int) == 200) = false := by simp; omega
  have H37 := hide (good_len37 hg).1
  have h200 := (good_len37 hg).2
  clear hl
  obtain ⟨i0, hi, hz0, hz1, hz2⟩ := info_parts infoW
  go_enter Try.func19, Try.ntmps19
  go_wp2_with fail
  refine (goodDisk_any _ d _ (HI.out.below (bthen (below1 _ _) (below1 _ _)))).mono ?_
  rintro e w1 ⟨rfl, hb1⟩
  have hs1 : w.heap.size + 1 < w1.heap.size := by have := hb1.size; simp at this; omega
  have x0 := cellKeep hb1 (b := w.heap.size) (o := 0) (v := .slice a d.safe.length c) (by simp; omega) (by simp [go_sem])
  have x1 := cellKeep hb1 (b := w.heap.size) (o := 1) (v := .slice a' d.wr.length c') (by simp; omega) (by simp [go_sem])
  have y0 := cellKeep hb1 (b := w.heap.size + 1) (o := 0) (v := .slice none 0 0) (by simp) (by simp [go_sem])
  have y1 := cellKeep hb1 (b := w.heap.size + 1) (o := 1) (v := .slice none 0 0) (by simp) (by simp [go_sem])
  have f0 := frozKeep hb1 (b := w.heap.size + 1) (o := 0) (v := false) (by simp) (by simp [go_sem])
  have f1 := frozKeep hb1 (b := w.heap.size + 1) (o := 1) (v := false) (by simp) (by simp [go_sem])
  go_wp2_with fail
  refine (isAt_any _ _).mono ?_
  rintro e w2 ⟨rfl, rfl⟩
  go_wp2_with fail
  have hb2 : Below w.heap.size w w1 := bthen (bthen (below1 _ _) (below1 _ _)) hb1
  refine (copy_walk _ d _ (HI.out.below hb2) (by rw [H37.out]; decide) (by omega)).mono ?_
  rintro e w3 ⟨a2, c2, a3, c3, B, rfl, hS3, hA2, hown, hB1, hB2, hb3⟩
  have HS3 := hide hS3
  have HA2 := hide hA2
  have HOWN := hide hown
  have hs3 := hb3.size
  clear x0 x1 hS3 hown hA2
  go_wp2_with (at_builtin; refine wpList_append_own _ rfl _ _ 23 rfl B 42 i0 (.agg #[.int .i64 0, .string ⟨#[]⟩]) 2 24 Try.underlying23 hi hz0 hz1 hz2 rfl (by decide) _ _ _ rfl ((HOWN.out.alloc _).alloc _) ⟨w3.heap.size + 1, 0, none⟩ 1 1 (cellsW [(n, s)]) rfl ?qc1 ?qc2 ?qc3 ?qc4 ?qc5 ?qc6 ?_)
  case qc1 => rfl
  case qc2 =>
    intro j u hj
    match j, hj with
    | 0, hj => simp [cellsW] at hj; subst hj; simp [go_sem]
    | 1, hj => simp [cellsW] at hj; subst hj; simp [go_sem]
  case qc3 => exact cellsW_one _
  case qc4 => unfold maxLen; omega
  case qc5 => omega
  case qc6 => simp; omega
  intro v4 w4 hown4 hgrow4 _
  have hrow : ∀ k, (Value.slice a3 d.wr.length c3).ownBlock = some k → B ≤ k ∧ k < w3.heap.size := fun k hk => HOWN.out.lt k hk
  have hb4 : Below w1.heap.size w1 w4 := ((hb3.alloc hs3 _).alloc (by simp; omega) _).grown hgrow4 (by simp; omega) (fun k hk => by have := hrow k hk; omega)
  have o0 := hgrow4.cell (a := ⟨w3.heap.size, 0, none⟩) (v := .slice a2 d.safe.length c2) (by simp [go_sem]) (by intro e; have := hrow _ e.symm; simp at this)
  have o1 := hgrow4.cell (a := ⟨w3.heap.size, 1, none⟩) (v := .slice a3 d.wr.length c3) (by simp [go_sem]) (by intro e; have := hrow _ e.symm; simp at this)
  have fo : w4.frozen? ⟨w3.heap.size, 1, none⟩ = false := (World.frozen?_of_block (hgrow4.block w3.heap.size (by simp; omega) (by intro e; have := hrow _ e.symm; simp at this))).trans (by simp [go_sem])
  have HS4 := hide (SegS.grown HS3.out hgrow4 hrow HA2.out)
  have hbox : w4.heap[w3.heap.size]? = some (.cells #[.slice a2 d.safe.length c2, .slice a3 d.wr.length c3] 25 (0, 0)) := by
    rw [hgrow4.block w3.heap.size (by simp; omega) (by intro e; have := hrow _ e.symm; simp at this)]
    rw [Below.heap_alloc _ _ _ (by simp)]
    exact heap_alloc_new w3 _
  have hne4 := owns_ne hown4 hbox (by decide)
  rw [← cellsW_append] at hown4
  obtain ⟨a4, c4, hv4, hW4, hB4⟩ := SegW.of_owns hown4
  have HW4 := hide hW4
  have HA4 := hide hB4
  rw [hv4] at hne4
  have HN4 : Hid (∀ b off, a4 = some ⟨b, off, none⟩ → b ≠ w3.heap.size) := fun b off e => hne4 b (by rw [e]; rfl)
  have hs4 : w3.heap.size + 1 < w4.heap.size := by have := hgrow4.size; simp at this; omega
  have y2 := cellKeep hb4 (by omega) y0
  have y3 := cellKeep hb4 (by omega) y1
  have f2 := frozKeep hb4 (by omega) f0
  have f3 := frozKeep hb4 (by omega) f1
  have HB4 := hide (bthen hb2 hb4)
  clear hown4 hgrow4 hbox hne4 y0 y1 f0 f1 hb1 hb2 hb3 hb4 hW4 hB4 hrow HOWN HS3 HI
  subst hv4
  go_wp2
  refine bodyPost_ret (v := .tuple #[.agg #[.slice a2 d.safe.length c2, .slice a4 (d.wr.length + 1) c4], .int .i64 0]) (by simp [results, Try.results19, go_sem, y2, y3]) rfl ⟨_, rfl, ⟨a2, c2, a4, c4, by simp, ?_, ?_, ?_, ?_⟩, ?_, a2, _, c2, a4, _, c4, rfl, (fun x o e => by have := HA2.out x o e; omega), fun x o e => by have := HA4.out x o e; omega⟩
  · have h1 : ∀ b off, a2 = some ⟨b, off, none⟩ → w1.heap.size ≤ b := fun b off e => (HA2.out b off e).1
    exact (SegS.setCell (SegS.setCell (SegS.setNe HS4.out (p := ⟨w3.heap.size, 1, none⟩) (fun b off e => by have := HA2.out b off e; simp; omega) _) h1 (by simp; omega) _) h1 (by simp; omega) _)
  · have h1 : ∀ b off, a4 = some ⟨b, off, none⟩ → B ≤ b := HA4.out
    exact (SegW.setCell (SegW.setCell (SegW.setNeR HW4.out (p := ⟨w3.heap.size, 1, none⟩) HN4.out _) h1 (by simp; omega) _) h1 (by simp; omega) _)
  · show d.safe.length ≤ maxLen; rw [H37.out]; decide
  · show (d.wr ++ [(n, s)]).length ≤ maxLen; simp [maxLen]; omega
  · exact ((HB4.out.setCell (by simp; omega) _).setCell (by simp) _).setCell (by simp) _

/-- wastebookref.PutDisk: one write more, the last one; or an error, and the disk as it was. -/
theorem putRef_any (v : Value) (d : Dk) (n : Int) (s : ByteArray) (w : World) (h : IsDk w v d) :
    Calls Try.prog 19 #[v, .int .i64 n, .string s] w fun e w' => ∃ v2, e = .returned (.tuple #[v2, .int .i64 (putE d n s)]) ∧ IsDk w' v2 (putK d n s) ∧ (putE d n s ≠ 0 → v2 = v) ∧ Below w.heap.size w w' := by
  have back : ∀ k : Int, putE d n s = k → k ≠ 0 → Calls Try.prog 19 #[v, .int .i64 n, .string s] w (fun e w' => e = .returned (.tuple #[v, .int .i64 k]) ∧ Below w.heap.size w w') →
      Calls Try.prog 19 #[v, .int .i64 n, .string s] w fun e w' => ∃ v2, e = .returned (.tuple #[v2, .int .i64 (putE d n s)]) ∧ IsDk w' v2 (putK d n s) ∧ (putE d n s ≠ 0 → v2 = v) ∧ Below w.heap.size w w' := by
    intro k hk h0 hcall
    have hK : putK d n s = d := by rw [putK, if_neg (by rw [hk]; exact h0)]
    rw [hk, hK]
    exact hcall.mono fun e w' he => ⟨v, he.1, h.below he.2, fun _ => rfl, he.2⟩
  cases hgp : (goodB d && placeB n) with
  | false => exact back 2 (by simp only [putE, hgp]; rfl) (by decide) (putRef_range v d n s w h hgp)
  | true =>
    have hg : goodB d = true := by simp at hgp; exact hgp.1
    have hp : placeB n = true := by simp at hgp; exact hgp.2
    cases hf : fitsB s with
    | false => exact back 1 (by simp only [putE, hgp, hf]; rfl) (by decide) (putRef_form v d n s w h hg hp hf)
    | true =>
      by_cases hl : d.wr.length = 200
      · exact back 11 (by simp only [putE, hgp, hf, hl]; rfl) (by decide) (putRef_full v d n s w h hg hp hf hl)
      · have hE : putE d n s = 0 := by simp [putE, hgp, hf, hl]
        have hK : putK d n s = ⟨d.safe, d.wr ++ [(n, s)]⟩ := by rw [putK, if_pos hE]
        rw [hE, hK]
        exact (putRef_ok v d n s w h hg hp hf hl).mono fun e w' he => by
          obtain ⟨v2, h1, h2, h3, _⟩ := he
          exact ⟨v2, h1, h2, fun h => absurd rfl h, h3⟩

end Go.Proofs.Ytjnpndfpajjihaa
