/-
  The walk of disk.Flush.
-/
import Derived.Test.YtjnpndfpajjihaaRep0
namespace Go.Proofs.Ytjnpndfpajjihaa
open Go.RowKit

/-- A row of which the first cells are these texts. -/
def fill (l : List ByteArray) (m : Nat) : List Value := cellsS l ++ List.replicate m (.string ⟨#[]⟩)

theorem fill_set (l : List ByteArray) (m : Nat) (s : ByteArray) : (fill l (m + 1)).set l.length (.string s) = fill (l ++ [s]) m := by
  have hl : (cellsS l).length = l.length := by simp [cellsS]
  rw [fill, List.set_append_right _ _ (by omega), hl, Nat.sub_self, List.replicate_succ, List.set_cons_zero, fill, cellsS_append, List.append_assoc]
  rfl
theorem fill_full (l : List ByteArray) : fill l 0 = cellsS l := by simp [fill]
theorem fill_none (m : Nat) : fill [] m = List.replicate m (.string ⟨#[]⟩) := rfl
theorem fill_at (l : List ByteArray) (m k : Nat) (h : k < l.length + m) : ∃ u, (fill l m)[k]? = some u := by
  have : k < (fill l m).length := by simp [fill, cellsS]; omega
  exact ⟨_, List.getElem?_eq_getElem this⟩

theorem made37 (w : World) : (Instr.makeSlice 22 (.int .i64 37) (.int .i64 37)).run Try.prog w = .ok (.slice (some ⟨w.heap.size, 0, none⟩) 37 37) (w.alloc (.cells (fill [] 37).toArray 9)) := by kernel_rfl

theorem made_owns (w : World) (base : Nat) (hb : base ≤ w.heap.size) : (w.alloc (.cells (fill [] 37).toArray 9)).ownsRow base 9 1 (.slice (some ⟨w.heap.size, 0, none⟩) 37 37) 37 (fill [] 37) := by
  have := World.ownsRow_lit (e := 9) (size := 1) w (fill [] 37).toArray 37 hb (by decide) (by simp [fill, cellsS])
  simpa using this

/-- One text more in the row. -/
theorem fill_step {w : World} {base g : Nat} {l : List ByteArray} {m : Nat} (h : w.ownsRow base 9 1 (.slice (some ⟨g, 0, none⟩) 37 37) 37 (fill l (m + 1))) (s : ByteArray) :
    (w.setCell ⟨g, l.length, none⟩ (.string s)).ownsRow base 9 1 (.slice (some ⟨g, 0, none⟩) 37 37) 37 (fill (l ++ [s]) m) := by
  have := (h.stored l.length (.string s)).1
  rwa [fill_set] at this

theorem fill_cell {w : World} {base g : Nat} {l : List ByteArray} {m : Nat} (h : w.ownsRow base 9 1 (.slice (some ⟨g, 0, none⟩) 37 37) 37 (fill l (m + 1))) :
    (∃ u, w.cell? ⟨g, l.length, none⟩ = some u) ∧ w.frozen? ⟨g, l.length, none⟩ = false ∧ base ≤ g ∧ g < w.heap.size ∧ l.length + (m + 1) = 37 := by
  have hlen : l.length + (m + 1) = 37 := by have := h.1; simp [fill, cellsS] at this; omega
  obtain ⟨u, hu⟩ := fill_at l (m + 1) l.length (by omega)
  have hlt := h.lt g rfl
  exact ⟨⟨u, by rw [h.cellAt _ (by omega)]; exact hu⟩, h.frozenAt _, hlt.1, hlt.2, hlen⟩

/-- What Flush answers. -/
def flushL (d : Dk) (k : Nat) : List ByteArray := (List.range k).map fun n : Nat => lastOf d (n : Int)
def flushK (d : Dk) : Dk := if goodB d = true then ⟨flushL d 37, []⟩ else d
def flushE (d : Dk) : Int := if goodB d = true then 0 else 2

theorem flushL_length (d : Dk) (k : Nat) : (flushL d k).length = k := by simp [flushL]
theorem flushL_succ (d : Dk) (k : Nat) : flushL d (k + 1) = flushL d k ++ [lastOf d (k : Int)] := by simp [flushL, List.range_succ]

set_option maxHeartbeats 1000000 in
theorem flush_no (v : Value) (d : Dk) (w : World) (h : IsDk w v d) (hg : goodB d = false) :
    Calls Try.prog 20 #[v] w fun e w' => e = .returned (.tuple #[v, .int .i64 2]) ∧ Below w.heap.size w w' := by
  have HI : Hid (IsDk w v d) := h
  obtain ⟨a, c, a', c', rfl, _, _, _, _⟩ := h
  go_enter Try.func20, Try.ntmps20
  go_wp2_with fail
  refine (good_any _ d _ (HI.out.below (bthen (below1 _ _) (below1 _ _)))).mono ?_
  rintro e w1 ⟨rfl, hb1⟩
  obtain ⟨hc1, hf1⟩ := bcell hb1
  have hs1 : w.heap.size + 1 < w1.heap.size := by have := hb1.size; simp at this; omega
  go_wp2
  refine bodyPost_ret (v := .tuple #[.agg #[.slice a d.safe.length c, .slice a' d.wr.length c'], .int .i64 2]) (by simp [results, Try.results20, go_sem, hc1]) rfl ⟨rfl, ?_⟩
  have hb2 : Below w.heap.size w w1 := bthen (bthen (below1 _ _) (below1 _ _)) hb1
  exact (hb2.setCell (by simp) _).setCell (by simp) _

set_option maxHeartbeats 2000000 in
set_option maxRecDepth 100000 in
theorem flush_ok (v : Value) (d : Dk) (w : World) (h : IsDk w v d) (hg : goodB d = true) :
    Calls Try.prog 20 #[v] w fun e w' => ∃ v2, e = .returned (.tuple #[v2, .int .i64 0]) ∧ IsDk w' v2 ⟨flushL d 37, []⟩ ∧ Below w.heap.size w w' ∧ DkFrom w.heap.size v2 := by
  have HI : Hid (IsDk w v d) := h
  obtain ⟨a, c, a', c', rfl, _, _, _, _⟩ := h
  have H37 := hide (good_len37 hg)
  have hmk := made37
  go_enter Try.func20, Try.ntmps20
  go_wp2_with fail
  refine (good_any _ d _ (HI.out.below (bthen (below1 _ _) (below1 _ _)))).mono ?_
  rintro e w1 ⟨rfl, hb1⟩
  have hs1 : w.heap.size + 1 < w1.heap.size := by have := hb1.size; simp at this; omega
  have x0 := cellKeep hb1 (b := w.heap.size) (o := 0) (v := .slice a d.safe.length c) (by simp; omega) (by simp [go_sem])
  have x1 := cellKeep hb1 (b := w.heap.size) (o := 1) (v := .slice a' d.wr.length c') (by simp; omega) (by simp [go_sem])
  have y0 := cellKeep hb1 (b := w.heap.size + 1) (o := 0) (v := .slice none 0 0) (by simp) (by simp [go_sem])
  have y1 := cellKeep hb1 (b := w.heap.size + 1) (o := 1) (v := .slice none 0 0) (by simp) (by simp [go_sem])
  have f0 := frozKeep hb1 (b := w.heap.size + 1) (o := 0) (v := false) (by simp) (by simp [go_sem])
  have f1 := frozKeep hb1 (b := w.heap.size + 1) (o := 1) (v := false) (by simp) (by simp [go_sem])
  have hb2 : Below w.heap.size w w1 := bthen (bthen (below1 _ _) (below1 _ _)) hb1
  clear hb1
  go_wp2
  go_loopw [13] (fun i wr => ∃ k : Nat, k ≤ 37 ∧ i = .int .i64 k ∧ Hid (wr.ownsRow w1.heap.size 9 1 (.slice (some ⟨w1.heap.size, 0, none⟩) 37 37) 37 (fill (flushL d k) (37 - k))) ∧ Below w1.heap.size w1 wr) (fun i _ => 37 - (intOf i).toNat)
  case atStart => exact ⟨0, Nat.zero_le _, rfl, made_owns _ _ (Nat.le_refl _), below1 _ _⟩
  case round =>
    obtain ⟨k, hk, rfl, hown, hbr⟩ := hrel
    have hsr := hbr.size
    by_cases hlt : k < 37
    · have hlt' : (k : Int) < 37 := by omega
      have z0 := cellKeep hbr (by omega) x0
      have z1 := cellKeep hbr (by omega) x1
      clear hmk
      go_wp2_with fail
      refine (last_any _ d k _ (HI.out.below (bthen hb2 hbr)) H37.out.1 hlt H37.out.2).mono ?_
      rintro e w3 ⟨rfl, hb3⟩
      have hown3 := owns_keep hown.out hb3
      rw [show 37 - k = (36 - k) + 1 from by omega] at hown3
      have hc := fill_cell hown3
      have hst := fill_step hown3 (lastOf d k)
      rw [flushL_length] at hc hst
      obtain ⟨⟨u, hu⟩, hfz, hg1, hg2, _⟩ := hc
      have HST := hide hst
      clear hown3 hst hown z0 z1
      go_wp2
      go_roundw
      case rel =>
        refine ⟨k + 1, by omega, by go_num, ?_, ?_⟩
        · rw [flushL_succ, show 37 - (k + 1) = 36 - k from by omega]; exact HST
        · exact (bthen hbr hb3).setCell (by simp) _
      case measure => simp [intOf]; omega
    · have e : k = 37 := by omega
      have hown' := hown.out
      rw [e, show 37 - 37 = 0 from rfl, fill_full] at hown'
      obtain ⟨a2, c2, hv2, hS2, hA2⟩ := SegS.of_owns hown'
      have hA2' := hide hA2
      have HS2 := hide hS2
      have y0' := cellKeep hbr (by omega) y0
      have y1' := cellKeep hbr (by omega) y1
      have f0' := frozKeep hbr (by omega) f0
      have f1' := frozKeep hbr (by omega) f1
      rw [flushL_length] at hv2
      simp only [Value.slice.injEq] at hv2
      obtain ⟨ha2, _, hc2⟩ := hv2
      subst ha2 hc2
      clear hown hown' hS2 hA2 y0 y1 f0 f1 x0 x1 hmk e
      go_wp2
      refine bodyPost_ret (v := .tuple #[.agg #[.slice (some ⟨w1.heap.size, 0, none⟩) 37 37, .slice none 0 0], .int .i64 0]) (by simp [results, Try.results20, go_sem, y0', y1']) rfl ⟨_, rfl, ⟨some ⟨w1.heap.size, 0, none⟩, 37, none, 0, ?_, ?_, .inl rfl, ?_, ?_⟩, ?_, ⟨_, _, _, _, _, _, rfl, fun b off e => by cases e; omega, fun _ _ e => by cases e⟩⟩
      · simp only [flushL_length]; rfl
      · exact (HS2.out.setCell hA2'.out (by simp; omega) _).setCell hA2'.out (by simp; omega) _
      · show (flushL d 37).length ≤ maxLen; rw [flushL_length]; decide
      · exact Nat.zero_le _
      · exact ((bthen hb2 hbr).setCell (by simp) _).setCell (by simp) _

/-- disk.Flush: each place as Read says, all safe, no writes; or an error, and the disk as it was. -/
theorem flush_from (v : Value) (d : Dk) (w : World) (h : IsDk w v d) :
    Calls Try.prog 20 #[v] w fun e w' => ∃ v2, e = .returned (.tuple #[v2, .int .i64 (flushE d)]) ∧ IsDk w' v2 (flushK d) ∧ (flushE d ≠ 0 → v2 = v) ∧ Below w.heap.size w w' ∧ (v2 = v ∨ DkFrom w.heap.size v2) := by
  cases hg : goodB d with
  | false =>
    have hE : flushE d = 2 := by simp [flushE, hg]
    have hK : flushK d = d := by simp [flushK, hg]
    rw [hE, hK]
    exact (flush_no v d w h hg).mono fun e w' he => ⟨v, he.1, h.below he.2, fun _ => rfl, he.2, .inl rfl⟩
  | true =>
    have hE : flushE d = 0 := by simp [flushE, hg]
    have hK : flushK d = ⟨flushL d 37, []⟩ := by simp [flushK, hg]
    rw [hE, hK]
    exact (flush_ok v d w h hg).mono fun e w' he => by
      obtain ⟨v2, h1, h2, h3, h4⟩ := he
      exact ⟨v2, h1, h2, fun h => absurd rfl h, h3, .inr h4⟩
theorem flush_any (v : Value) (d : Dk) (w : World) (h : IsDk w v d) :
    Calls Try.prog 20 #[v] w fun e w' => ∃ v2, e = .returned (.tuple #[v2, .int .i64 (flushE d)]) ∧ IsDk w' v2 (flushK d) ∧ (flushE d ≠ 0 → v2 = v) ∧ Below w.heap.size w w' :=
  (flush_from v d w h).mono fun _ _ ⟨v2, h1, h2, h3, h4, _⟩ => ⟨v2, h1, h2, h3, h4⟩

end Go.Proofs.Ytjnpndfpajjihaa
