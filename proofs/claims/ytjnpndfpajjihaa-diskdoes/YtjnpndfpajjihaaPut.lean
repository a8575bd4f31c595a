/-
  The walk of disk.Put.
-/
import Derived.Test.YtjnpndfpajjihaaClone
namespace Go.Proofs.Ytjnpndfpajjihaa
open Go.RowKit

/-- What Put answers. -/
def putE (d : Dk) (n : Int) (s : ByteArray) : Int :=
  if (goodB d && placeB n) = true then (if fitsB s = true then (if d.wr.length = 200 then 11 else 0) else 1) else 2
def putK (d : Dk) (n : Int) (s : ByteArray) : Dk := if putE d n s = 0 then ⟨d.safe, d.wr ++ [(n, s)]⟩ else d

set_option maxHeartbeats 1000000 in
theorem put_range (v : Value) (d : Dk) (n : Int) (s : ByteArray) (w : World) (h : IsDk w v d) (hno : (goodB d && placeB n) = false) :
    Calls Try.prog 18 #[v, .int .i64 n, .string s] w fun e w' => e = .returned (.tuple #[v, .int .i64 2]) ∧ Below w.heap.size w w' := by
  have HI : Hid (IsDk w v d) := h
  obtain ⟨a, c, a', c', rfl, _, _, _, _⟩ := h
  by_cases hg : goodB d = true
  · have hp : placeB n = false := by simpa [hg] using hno
    clear hno
    go_enter Try.func18, Try.ntmps18
    go_wp2_with fail
    refine (good_any _ d _ (HI.out.below (bthen (below1 _ _) (below1 _ _)))).mono ?_
    rintro e w1 ⟨rfl, hb1⟩
    obtain ⟨hc1, hf1⟩ := bcell hb1
    have hs1 : w.heap.size + 1 < w1.heap.size := by have := hb1.size; simp at this; omega
    go_wp2_with fail
    refine (isPlace_any _ _).mono ?_
    rintro e w2 ⟨rfl, rfl⟩
    go_wp2
    refine bodyPost_ret (v := .tuple #[.agg #[.slice a d.safe.length c, .slice a' d.wr.length c'], .int .i64 2]) (by simp [results, Try.results18, go_sem, hc1]) rfl ⟨rfl, ?_⟩
    have hb2 : Below w.heap.size w w1 := bthen (bthen (below1 _ _) (below1 _ _)) hb1
    exact (hb2.setCell (by simp) _).setCell (by simp) _
  · have hg' : goodB d = false := by simpa using hg
    clear hno hg
    go_enter Try.func18, Try.ntmps18
    go_wp2_with fail
    refine (good_any _ d _ (HI.out.below (bthen (below1 _ _) (below1 _ _)))).mono ?_
    rintro e w1 ⟨rfl, hb1⟩
    obtain ⟨hc1, hf1⟩ := bcell hb1
    have hs1 : w.heap.size + 1 < w1.heap.size := by have := hb1.size; simp at this; omega
    go_wp2
    refine bodyPost_ret (v := .tuple #[.agg #[.slice a d.safe.length c, .slice a' d.wr.length c'], .int .i64 2]) (by simp [results, Try.results18, go_sem, hc1]) rfl ⟨rfl, ?_⟩
    have hb2 : Below w.heap.size w w1 := bthen (bthen (below1 _ _) (below1 _ _)) hb1
    exact (hb2.setCell (by simp) _).setCell (by simp) _

set_option maxHeartbeats 1000000 in
theorem put_form (v : Value) (d : Dk) (n : Int) (s : ByteArray) (w : World) (h : IsDk w v d) (hg : goodB d = true) (hp : placeB n = true) (hf : fitsB s = false) :
    Calls Try.prog 18 #[v, .int .i64 n, .string s] w fun e w' => e = .returned (.tuple #[v, .int .i64 1]) ∧ Below w.heap.size w w' := by
  have HI : Hid (IsDk w v d) := h
  obtain ⟨a, c, a', c', rfl, _, _, _, _⟩ := h
  go_enter Try.func18, Try.ntmps18
  go_wp2_with fail
  refine (good_any _ d _ (HI.out.below (bthen (below1 _ _) (below1 _ _)))).mono ?_
  rintro e w1 ⟨rfl, hb1⟩
  obtain ⟨hc1, hf1⟩ := bcell hb1
  have hs1 : w.heap.size + 1 < w1.heap.size := by have := hb1.size; simp at this; omega
  go_wp2_with fail
  refine (isPlace_any _ _).mono ?_
  rintro e w2 ⟨rfl, rfl⟩
  go_wp2_with fail
  refine (fits_any _ _).mono ?_
  rintro e w2 ⟨rfl, rfl⟩
  go_wp2
  refine bodyPost_ret (v := .tuple #[.agg #[.slice a d.safe.length c, .slice a' d.wr.length c'], .int .i64 1]) (by simp [results, Try.results18, go_sem, hc1]) rfl ⟨rfl, ?_⟩
  have hb2 : Below w.heap.size w w1 := bthen (bthen (below1 _ _) (below1 _ _)) hb1
  exact (hb2.setCell (by simp) _).setCell (by simp) _

set_option maxHeartbeats 1000000 in
theorem put_full (v : Value) (d : Dk) (n : Int) (s : ByteArray) (w : World) (h : IsDk w v d) (hg : goodB d = true) (hp : placeB n = true) (hf : fitsB s = true) (hl : d.wr.length = 200) :
    Calls Try.prog 18 #[v, .int .i64 n, .string s] w fun e w' => e = .returned (.tuple #[v, .int .i64 11]) ∧ Below w.heap.size w w' := by
  have HI : Hid (IsDk w v d) := h
  obtain ⟨a, c, a', c', rfl, _, _, _, _⟩ := h
  have hl' : ((d.wr.length : Int) == 200) = true := by rw [hl]; rfl
  clear hl
  go_enter Try.func18, Try.ntmps18
  go_wp2_with fail
  refine (good_any _ d _ (HI.out.below (bthen (below1 _ _) (below1 _ _)))).mono ?_
  rintro e w1 ⟨rfl, hb1⟩
  obtain ⟨hc1, hf1⟩ := bcell hb1
  have hs1 : w.heap.size + 1 < w1.heap.size := by have := hb1.size; simp at this; omega
  go_wp2_with fail
  refine (isPlace_any _ _).mono ?_
  rintro e w2 ⟨rfl, rfl⟩
  go_wp2_with fail
  refine (fits_any _ _).mono ?_
  rintro e w2 ⟨rfl, rfl⟩
  go_wp2
  refine bodyPost_ret (v := .tuple #[.agg #[.slice a d.safe.length c, .slice a' d.wr.length c'], .int .i64 11]) (by simp [results, Try.results18, go_sem, hc1]) rfl ⟨rfl, ?_⟩
  have hb2 : Below w.heap.size w w1 := bthen (bthen (below1 _ _) (below1 _ _)) hb1
  exact (hb2.setCell (by simp) _).setCell (by simp) _

set_option maxHeartbeats 2000000 in
set_option maxRecDepth 100000 in
theorem put_ok (v : Value) (d : Dk) (n : Int) (s : ByteArray) (w : World) (h : IsDk w v d) (hg : goodB d = true) (hp : placeB n = true) (hf : fitsB s = true) (hl : ¬ d.wr.length = 200) :
    Calls Try.prog 18 #[v, .int .i64 n, .string s] w fun e w' => ∃ v2, e = .returned (.tuple #[v2, .int .i64 0]) ∧ IsDk w' v2 ⟨d.safe, d.wr ++ [(n, s)]⟩ ∧ Below w.heap.size w w' ∧ DkFrom w.heap.size v2 := by
  have HI : Hid (IsDk w v d) := h
  obtain ⟨a, c, a', c', rfl, hS, hW, _, _⟩ := h
  have HS : Hid (SegS w a d.safe) := hS
  have HW : Hid (SegW w a' d.wr) := hW
  clear hS hW
  have hl' : ((d.wr.length : Int) == 200) = false := by simp; omega
  have h37 := (good_len37 hg).1
  have H37 : Hid (d.safe.length = 37) := h37
  have h200 := (good_len37 hg).2
  clear hl h37
  obtain ⟨i0, hi, hz0, hz1, hz2⟩ := info_parts infoW
  go_enter Try.func18, Try.ntmps18
  go_wp2_with fail
  refine (good_any _ d _ (HI.out.below (bthen (below1 _ _) (below1 _ _)))).mono ?_
  rintro e w1 ⟨rfl, hb1⟩
  have hs1 : w.heap.size + 1 < w1.heap.size := by have := hb1.size; simp at this; omega
  have x0 := cellKeep hb1 (b := w.heap.size) (o := 0) (v := .slice a d.safe.length c) (by simp; omega) (by simp [go_sem])
  have x1 := cellKeep hb1 (b := w.heap.size) (o := 1) (v := .slice a' d.wr.length c') (by simp; omega) (by simp [go_sem])
  have y0 := cellKeep hb1 (b := w.heap.size + 1) (o := 0) (v := .slice none 0 0) (by simp) (by simp [go_sem])
  have y1 := cellKeep hb1 (b := w.heap.size + 1) (o := 1) (v := .slice none 0 0) (by simp) (by simp [go_sem])
  have f0 := frozKeep hb1 (b := w.heap.size + 1) (o := 0) (v := false) (by simp) (by simp [go_sem])
  have f1 := frozKeep hb1 (b := w.heap.size + 1) (o := 1) (v := false) (by simp) (by simp [go_sem])
  go_wp2_with fail
  refine (isPlace_any _ _).mono ?_
  rintro e w2 ⟨rfl, rfl⟩
  go_wp2_with fail
  refine (fits_any _ _).mono ?_
  rintro e w2 ⟨rfl, rfl⟩
  go_wp2_with fail
  have hb2 : Below w.heap.size w w1 := bthen (bthen (below1 _ _) (below1 _ _)) hb1
  refine (cloneW_any a' c' d.wr _ (HW.out.below hb2) (by unfold maxLen; omega) (by omega)).mono ?_
  rintro e w3 ⟨v3, rfl, hown, hb3⟩
  have hs3 := hb3.size
  go_wp2_with (at_builtin; refine wpList_append_own _ rfl _ _ 23 rfl w1.heap.size 42 i0 (.agg #[.int .i64 0, .string ⟨#[]⟩]) 2 24 Try.underlying23 hi hz0 hz1 hz2 rfl (by decide) _ _ _ rfl (hown.alloc _) ⟨w3.heap.size, 0, none⟩ 1 1 (cellsW [(n, s)]) rfl ?qc1 ?qc2 ?qc3 ?qc4 ?qc5 ?qc6 ?_)
  case qc1 => rfl
  case qc2 =>
    intro j u hj
    match j, hj with
    | 0, hj => simp [cellsW] at hj; subst hj; simp [Addr.add]
    | 1, hj => simp [cellsW] at hj; subst hj; simp [Addr.add]
  case qc3 => exact cellsW_one _
  case qc4 => unfold maxLen; omega
  case qc5 => omega
  case qc6 => simp; omega
  intro v4 w4 hown4 hgrow4 hnil4
  have hb4 : Below w1.heap.size w1 w4 := (hb3.alloc hs3 _).grown hgrow4 (by simp; omega) (fun k hk => (hown.lt k hk).1)
  rw [← cellsW_append] at hown4
  obtain ⟨a4, c4, hv4, hW4, hB4⟩ := SegW.of_owns hown4
  have HW4 : Hid (SegW w4 a4 (d.wr ++ [(n, s)])) := hW4
  have HA4 : Hid (∀ b off, a4 = some ⟨b, off, none⟩ → w1.heap.size ≤ b) := hB4
  clear hown4 hgrow4 hnil4 hown hb3 hs3 hW4 hB4
  subst hv4
  have hs4 := hb4.size
  have x0' := cellKeep hb4 (by omega) x0
  go_wp2_with fail
  have hb5 := bthen hb2 hb4
  refine (cloneS_any a c d.safe _ (HS.out.below hb5) (by rw [H37.out]; decide) (by rw [H37.out]; decide)).mono ?_
  rintro e w6 ⟨v6, rfl, hown6, hb6⟩
  obtain ⟨a6, c6, hv6, hS6, hB6⟩ := SegS.of_owns hown6
  have HS6 : Hid (SegS w6 a6 d.safe) := hS6
  have HA6 : Hid (∀ b off, a6 = some ⟨b, off, none⟩ → w4.heap.size ≤ b) := hB6
  have HW6 : Hid (SegW w6 a4 (d.wr ++ [(n, s)])) := HW4.out.below hb6
  have HB6 : Hid (Below w.heap.size w w6) := bthen hb5 hb6
  have hs6 := hb6.size
  have y0' := cellKeep hb6 (by omega) (cellKeep hb4 (by omega) y0)
  have y1' := cellKeep hb6 (by omega) (cellKeep hb4 (by omega) y1)
  have f0' := frozKeep hb6 (by omega) (frozKeep hb4 (by omega) f0)
  have f1' := frozKeep hb6 (by omega) (frozKeep hb4 (by omega) f1)
  clear hown6 hS6 hB6 x0 x1 x0' y0 y1 f0 f1
  subst hv6
  go_wp2
  refine bodyPost_ret (v := .tuple #[.agg #[.slice a6 d.safe.length c6, .slice a4 (d.wr.length + 1) c4], .int .i64 0]) (by simp [results, Try.results18, go_sem, y0', y1']) rfl ⟨_, rfl, ⟨a6, c6, a4, c4, by simp, ?_, ?_, ?_, ?_⟩, ?_, ⟨a6, _, c6, a4, _, c4, rfl, fun b off e => by have := HA6.out b off e; omega, fun b off e => by have := HA4.out b off e; omega⟩⟩
  · exact (HS6.out.setCell HA6.out (by simp; omega) _).setCell HA6.out (by simp; omega) _
  · exact (HW6.out.setCell HA4.out (by simp; omega) _).setCell HA4.out (by simp; omega) _
  · show d.safe.length ≤ maxLen; rw [H37.out]; decide
  · show (d.wr ++ [(n, s)]).length ≤ maxLen; simp [maxLen]; omega
  · exact (HB6.out.setCell (by simp) _).setCell (by simp) _

/-- disk.Put: one write more, the last one; or an error, and the disk as it was. -/
theorem put_from (v : Value) (d : Dk) (n : Int) (s : ByteArray) (w : World) (h : IsDk w v d) :
    Calls Try.prog 18 #[v, .int .i64 n, .string s] w fun e w' => ∃ v2, e = .returned (.tuple #[v2, .int .i64 (putE d n s)]) ∧ IsDk w' v2 (putK d n s) ∧ (putE d n s ≠ 0 → v2 = v) ∧ Below w.heap.size w w' ∧ (v2 = v ∨ DkFrom w.heap.size v2) := by
  have back : ∀ k : Int, putE d n s = k → k ≠ 0 → Calls Try.prog 18 #[v, .int .i64 n, .string s] w (fun e w' => e = .returned (.tuple #[v, .int .i64 k]) ∧ Below w.heap.size w w') →
      Calls Try.prog 18 #[v, .int .i64 n, .string s] w fun e w' => ∃ v2, e = .returned (.tuple #[v2, .int .i64 (putE d n s)]) ∧ IsDk w' v2 (putK d n s) ∧ (putE d n s ≠ 0 → v2 = v) ∧ Below w.heap.size w w' ∧ (v2 = v ∨ DkFrom w.heap.size v2) := by
    intro k hk h0 hcall
    have hK : putK d n s = d := by rw [putK, if_neg (by rw [hk]; exact h0)]
    rw [hk, hK]
    exact hcall.mono fun e w' he => ⟨v, he.1, h.below he.2, fun _ => rfl, he.2, .inl rfl⟩
  cases hgp : (goodB d && placeB n) with
  | false => exact back 2 (by simp only [putE, hgp]; rfl) (by decide) (put_range v d n s w h hgp)
  | true =>
    have hg : goodB d = true := by simp at hgp; exact hgp.1
    have hp : placeB n = true := by simp at hgp; exact hgp.2
    cases hf : fitsB s with
    | false => exact back 1 (by simp only [putE, hgp, hf]; rfl) (by decide) (put_form v d n s w h hg hp hf)
    | true =>
      by_cases hl : d.wr.length = 200
      · exact back 11 (by simp only [putE, hgp, hf, hl]; rfl) (by decide) (put_full v d n s w h hg hp hf hl)
      · have hE : putE d n s = 0 := by simp [putE, hgp, hf, hl]
        have hK : putK d n s = ⟨d.safe, d.wr ++ [(n, s)]⟩ := by rw [putK, if_pos hE]
        rw [hE, hK]
        exact (put_ok v d n s w h hg hp hf hl).mono fun e w' he => by
          obtain ⟨v2, h1, h2, h3, h4⟩ := he
          exact ⟨v2, h1, h2, fun h => absurd rfl h, h3, .inr h4⟩
theorem put_any (v : Value) (d : Dk) (n : Int) (s : ByteArray) (w : World) (h : IsDk w v d) :
    Calls Try.prog 18 #[v, .int .i64 n, .string s] w fun e w' => ∃ v2, e = .returned (.tuple #[v2, .int .i64 (putE d n s)]) ∧ IsDk w' v2 (putK d n s) ∧ (putE d n s ≠ 0 → v2 = v) ∧ Below w.heap.size w w' :=
  (put_from v d n s w h).mono fun _ _ ⟨v2, h1, h2, h3, h4, _⟩ => ⟨v2, h1, h2, h3, h4⟩

end Go.Proofs.Ytjnpndfpajjihaa
