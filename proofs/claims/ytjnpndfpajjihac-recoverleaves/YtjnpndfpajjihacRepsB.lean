/-
  The walks of slices.Clone at []string and at []api.Write.
  The walk of disk.Put.
  The walk of disk.Fit, beside what lies ahead of it. Nothing more is proved here.
  The walk of slices.Repeat at []string, of one text thirty-seven times; then of disk.New.
  The walk of disk.Flush.
-/
import Derived.Test.YtjnpndfpajjihacRead
import Derived.Lib.SliceRun
import Derived.Test.YtjnpndfpajjihacFitOwn
import Derived.Laws.CopyOwn
namespace Go.Proofs.Ytjnpndfpajjihac
open Go.RowKit

/-- Texts as cells; writes as cells. -/
def cellsS (ss : List ByteArray) : List Value := ss.map Value.string
def cellsW : List (Int × ByteArray) → List Value
  | [] => []
  | x :: r => .int .i64 x.1 :: .string x.2 :: cellsW r

theorem cellsS_length (ss : List ByteArray) : (cellsS ss).length = ss.length * 1 := by simp [cellsS]
theorem cellsW_length (ws : List (Int × ByteArray)) : (cellsW ws).length = ws.length * 2 := by
  induction ws with
  | nil => rfl
  | cons x r ih => simp [cellsW, ih]; omega
theorem cellsW_append (l r : List (Int × ByteArray)) : cellsW (l ++ r) = cellsW l ++ cellsW r := by
  induction l with
  | nil => rfl
  | cons x t ih => simp [cellsW, ih]
theorem cellsS_append (l r : List ByteArray) : cellsS (l ++ r) = cellsS l ++ cellsS r := by simp [cellsS]
theorem cellsS_one {ss : List ByteArray} : ∀ u ∈ cellsS ss, u.oneCell' = true := by
  intro u hu
  obtain ⟨s, _, rfl⟩ := List.mem_map.1 hu
  rfl
theorem cellsW_one (ws : List (Int × ByteArray)) : ∀ u ∈ cellsW ws, u.oneCell' = true := by
  induction ws with
  | nil => intro u hu; cases hu
  | cons x r ih =>
    intro u hu
    simp only [cellsW, List.mem_cons] at hu
    rcases hu with rfl | rfl | hu
    · rfl
    · rfl
    · exact ih u hu
theorem cellsS_at (ss : List ByteArray) (i : Nat) (h : i < ss.length) : (cellsS ss)[i]? = some (.string (ss.getD i ByteArray.empty)) := by
  rw [cellsS, List.getElem?_map, getD_some ss i ByteArray.empty h]; rfl
theorem cellsW_at (ws : List (Int × ByteArray)) (i : Nat) (h : i < ws.length) :
    (cellsW ws)[i * 2]? = some (.int .i64 (ws.getD i (0, ByteArray.empty)).1) ∧ (cellsW ws)[i * 2 + 1]? = some (.string (ws.getD i (0, ByteArray.empty)).2) := by
  induction ws generalizing i with
  | nil => simp at h
  | cons x r ih =>
    cases i with
    | zero => simp [cellsW]
    | succ k =>
      have := ih k (by simpa using h)
      rw [show (k + 1) * 2 = k * 2 + 1 + 1 from by omega]
      simpa [cellsW] using this

theorem SegS.news {w : World} {b off : Nat} {ss : List ByteArray} (h : ∀ i, i < ss.length → w.cell? ⟨b, off + i, none⟩ = some (.string (ss.getD i ByteArray.empty))) :
    ∀ j u, (cellsS ss)[j]? = some u → w.cell? ⟨b, off + j, none⟩ = some u := by
  intro j u hj
  have hlt : j < ss.length := by have := (List.getElem?_eq_some_iff.1 hj).1; simpa [cellsS] using this
  rw [h j hlt, ← cellsS_at ss j hlt, hj]
theorem SegW.news {w : World} {b off : Nat} {ws : List (Int × ByteArray)} (h : ∀ i, i < ws.length →
    w.cell? ⟨b, off + i * 2, none⟩ = some (.int .i64 (ws.getD i (0, ByteArray.empty)).1) ∧ w.cell? ⟨b, off + i * 2 + 1, none⟩ = some (.string (ws.getD i (0, ByteArray.empty)).2)) :
    ∀ j u, (cellsW ws)[j]? = some u → w.cell? ⟨b, off + j, none⟩ = some u := by
  intro j u hj
  have hlt : j < ws.length * 2 := by have := (List.getElem?_eq_some_iff.1 hj).1; rwa [cellsW_length] at this
  have hk : j / 2 < ws.length := by omega
  have e := cellsW_at ws (j / 2) hk
  have g := h (j / 2) hk
  rcases Nat.mod_two_eq_zero_or_one j with h0 | h0
  · have ej : j = j / 2 * 2 := by omega
    rw [ej] at hj ⊢
    rw [g.1, ← e.1, hj]
  · have ej : j = j / 2 * 2 + 1 := by omega
    rw [ej] at hj ⊢
    rw [show off + (j / 2 * 2 + 1) = off + j / 2 * 2 + 1 from by omega, g.2, ← e.2, hj]

/-- A slice of texts of the call's own is a row of texts. -/
theorem SegS.of_owns {w : World} {base n : Nat} {v : Value} {ss : List ByteArray} (h : w.ownsRow base 9 1 v n (cellsS ss)) : ∃ a c, v = .slice a ss.length c ∧ SegS w a ss ∧ ∀ b off, a = some ⟨b, off, none⟩ → base ≤ b := by
  have hn : ss.length = n := by have := h.1; rw [cellsS_length] at this; omega
  subst hn
  rcases h.2 with ⟨rfl, h0⟩ | ⟨g, cap, cur, rfl, hb, hg, rest⟩
  · exact ⟨none, 0, by rw [h0], .inl (List.eq_nil_of_length_eq_zero h0), fun _ _ h => by cases h⟩
  · refine ⟨_, cap, rfl, .inr ⟨g, 0, rfl, (Array.getElem?_eq_some_iff.1 hg).1, fun i hi => ?_⟩, fun _ _ h => by cases h; exact hb⟩
    rw [Nat.zero_add, h.cellAt i (by omega), cellsS_at ss i hi]
theorem SegW.of_owns {w : World} {base n : Nat} {v : Value} {ws : List (Int × ByteArray)} (h : w.ownsRow base 86 2 v n (cellsW ws)) : ∃ a c, v = .slice a ws.length c ∧ SegW w a ws ∧ ∀ b off, a = some ⟨b, off, none⟩ → base ≤ b := by
  have hn : ws.length = n := by have := h.1; rw [cellsW_length] at this; omega
  subst hn
  rcases h.2 with ⟨rfl, h0⟩ | ⟨g, cap, cur, rfl, hb, hg, rest⟩
  · exact ⟨none, 0, by rw [h0], .inl (List.eq_nil_of_length_eq_zero h0), fun _ _ h => by cases h⟩
  · refine ⟨_, cap, rfl, .inr ⟨g, 0, rfl, (Array.getElem?_eq_some_iff.1 hg).1, fun i hi => ?_⟩, fun _ _ h => by cases h; exact hb⟩
    have e := cellsW_at ws i hi
    rw [Nat.zero_add, h.cellAt (i * 2) (by omega), h.cellAt (i * 2 + 1) (by omega)]
    exact e

theorem infoS : (Try.prog.info? 9).map (fun i => (i.zero, i.size, i.bytes)) = some (some (.string ⟨#[]⟩), 1, 16) := by kernel_rfl
theorem infoW : (Try.prog.info? 86).map (fun i => (i.zero, i.size, i.bytes)) = some (some (.agg #[.int .i64 0, .string ⟨#[]⟩]), 2, 24) := by kernel_rfl

set_option maxHeartbeats 2000000 in
set_option maxRecDepth 100000 in
theorem cloneS_any (a : Option Addr) (c : Nat) (ss : List ByteArray) (w : World) (h : SegS w a ss) (hn : ss.length ≤ maxLen) (hbig : ss.length * 16 ≤ 140737488355328) :
    Calls Try.prog 49 #[.slice a ss.length c] w fun e w' => ∃ v', e = .returned v' ∧ w'.ownsRow w.heap.size 9 1 v' ss.length (cellsS ss) ∧ Below w.heap.size w w' := by
  have q22 : ∀ (w : World) (a : Option Addr) (n c n' c' : Nat), (binOp .eql 22 (.slice a n c) (.slice none n' c')).run Try.prog w = .ok (.bool a.isNone) w := fun w a n c n' c' => Lib.run_eql_slice_nil w _ _ a n c n' c' Try.underlying22
  obtain ⟨i0, hi, hz0, hz1, hz2⟩ := info_parts infoS
  rcases a with _ | ad
  · have h0 : ss = [] := by rcases h with h | ⟨b, off, he, _⟩; exact h; cases he
    subst h0
    go_enter Try.func49, Try.ntmps49
    go_wp2
    go_ret
    exact ⟨_, rfl, World.ownsRow_nil _ _ _ _, Below.refl _ _⟩
  · have A : Hid (∀ j u, (cellsS ss)[j]? = some u → w.cell? (ad.add j) = some u) := by
      rcases h with h | ⟨b, off, he, hlt, hc⟩
      · rw [h]; intro j u hj; simp [cellsS] at hj
      · intro j u hj
        cases he
        rw [Addr.add_lit]
        exact SegS.news hc j u hj
    clear h
    go_enter Try.func49, Try.ntmps49
    go_wp2_with (at_builtin; refine wpList_append_own _ rfl _ _ 22 rfl w.heap.size 9 i0 (.string ⟨#[]⟩) 1 16 Try.underlying22 hi hz0 hz1 hz2 rfl (by decide) _ _ _ rfl (World.ownsRow_made w #[] 0 (Nat.le_refl _) (Nat.zero_le _) (by simp)) ad ss.length c (cellsS ss) rfl ?qc1 ?qc2 ?qc3 ?qc4 ?qc5 ?qc6 ?_)
    case qc1 => exact cellsS_length ss
    case qc2 => intro j u hj; exact Lib.cell?_alloc_some _ (A.out j u hj)
    case qc3 => exact cellsS_one
    case qc4 => rw [Nat.zero_add]; exact hn
    case qc5 => rw [Nat.zero_add]; exact hbig
    case qc6 => simp
    intro v' w1 hown hgrow hnil
    have HO : Hid (w1.ownsRow w.heap.size 9 1 v' ss.length (cellsS ss)) := by unfold Hid; simpa using hown
    have HB : Hid (Below w.heap.size w w1) := (below1 w _).grown hgrow (by simp) (by intro k hk; simp [Value.ownBlock] at hk; omega)
    clear hown hgrow hnil
    go_wp2
    go_ret
    exact ⟨v', rfl, HO.out, HB.out⟩

set_option maxHeartbeats 2000000 in
set_option maxRecDepth 100000 in
theorem cloneW_any (a : Option Addr) (c : Nat) (ss : List (Int × ByteArray)) (w : World) (h : SegW w a ss) (hn : ss.length ≤ maxLen) (hbig : ss.length * 24 ≤ 140737488355328) :
    Calls Try.prog 48 #[.slice a ss.length c] w fun e w' => ∃ v', e = .returned v' ∧ w'.ownsRow w.heap.size 86 2 v' ss.length (cellsW ss) ∧ Below w.heap.size w w' := by
  have q22 : ∀ (w : World) (a : Option Addr) (n c n' c' : Nat), (binOp .eql 23 (.slice a n c) (.slice none n' c')).run Try.prog w = .ok (.bool a.isNone) w := fun w a n c n' c' => Lib.run_eql_slice_nil w _ _ a n c n' c' Try.underlying23
  obtain ⟨i0, hi, hz0, hz1, hz2⟩ := info_parts infoW
  rcases a with _ | ad
  · have h0 : ss = [] := by rcases h with h | ⟨b, off, he, _⟩; exact h; cases he
    subst h0
    go_enter Try.func48, Try.ntmps48
    go_wp2
    go_ret
    exact ⟨_, rfl, World.ownsRow_nil _ _ _ _, Below.refl _ _⟩
  · have A : Hid (∀ j u, (cellsW ss)[j]? = some u → w.cell? (ad.add j) = some u) := by
      rcases h with h | ⟨b, off, he, hlt, hc⟩
      · rw [h]; intro j u hj; simp [cellsW] at hj
      · intro j u hj
        cases he
        rw [Addr.add_lit]
        exact SegW.news hc j u hj
    clear h
    go_enter Try.func48, Try.ntmps48
    go_wp2_with (at_builtin; refine wpList_append_own _ rfl _ _ 23 rfl w.heap.size 86 i0 (.agg #[.int .i64 0, .string ⟨#[]⟩]) 2 24 Try.underlying23 hi hz0 hz1 hz2 rfl (by decide) _ _ _ rfl (World.ownsRow_made w #[] 0 (Nat.le_refl _) (Nat.zero_le _) (by simp)) ad ss.length c (cellsW ss) rfl ?qc1 ?qc2 ?qc3 ?qc4 ?qc5 ?qc6 ?_)
    case qc1 => exact cellsW_length ss
    case qc2 => intro j u hj; exact Lib.cell?_alloc_some _ (A.out j u hj)
    case qc3 => exact cellsW_one ss
    case qc4 => rw [Nat.zero_add]; exact hn
    case qc5 => rw [Nat.zero_add]; exact hbig
    case qc6 => simp
    intro v' w1 hown hgrow hnil
    have HO : Hid (w1.ownsRow w.heap.size 86 2 v' ss.length (cellsW ss)) := by unfold Hid; simpa using hown
    have HB : Hid (Below w.heap.size w w1) := (below1 w _).grown hgrow (by simp) (by intro k hk; simp [Value.ownBlock] at hk; omega)
    clear hown hgrow hnil
    go_wp2
    go_ret
    exact ⟨v', rfl, HO.out, HB.out⟩

end Go.Proofs.Ytjnpndfpajjihac

namespace Go.Proofs.Ytjnpndfpajjihac
open Go.RowKit

/-- What Put answers. -/
def putE (d : Dk) (n : Int) (s : ByteArray) : Int :=
  if (goodB d && placeB n) = true then (if fitsB s = true then (if d.wr.length = 200 then 11 else 0) else 1) else 2
def putK (d : Dk) (n : Int) (s : ByteArray) : Dk := if putE d n s = 0 then ⟨d.safe, d.wr ++ [(n, s)]⟩ else d

set_option maxHeartbeats 1000000 in
theorem put_range (v : Value) (d : Dk) (n : Int) (s : ByteArray) (w : World) (h : IsDk w v d) (hno : (goodB d && placeB n) = false) :
    Calls Try.prog 28 #[v, .int .i64 n, .string s] w fun e w' => e = .returned (.tuple #[v, .int .i64 2]) ∧ Below w.heap.size w w' := by
  have HI : Hid (IsDk w v d) := h
  obtain ⟨a, c, a', c', rfl, _, _, _, _⟩ := h
  by_cases hg : goodB d = true
  · have hp : placeB n = false := by simpa [hg] using hno
    clear hno
    go_enter Try.func28, Try.ntmps28
    go_wp2_with fail
    refine (good_any _ d _ (HI.out.below (bthen (below1 _ _) (below1 _ _)))).mono ?_
    rintro e w1 ⟨rfl, hb1⟩
    obtain ⟨hc1, hf1⟩ := bcell hb1
    have hs1 : w.heap.size + 1 < w1.heap.size := by have := hb1.size; simp at this; omega
    go_wp2_with fail
    refine (isPlace_any _ _).mono ?_
    rintro e w2 ⟨rfl, rfl⟩
    go_wp2
    refine bodyPost_ret (v := .tuple #[.agg #[.slice a d.safe.length c, .slice a' d.wr.length c'], .int .i64 2]) (by simp [results, Try.results28, go_sem, hc1]) rfl ⟨rfl, ?_⟩
    have hb2 : Below w.heap.size w w1 := bthen (bthen (below1 _ _) (below1 _ _)) hb1
    exact (hb2.setCell (by simp) _).setCell (by simp) _
  · have hg' : goodB d = false := by simpa using hg
    clear hno hg
    go_enter Try.func28, Try.ntmps28
    go_wp2_with fail
    refine (good_any _ d _ (HI.out.below (bthen (below1 _ _) (below1 _ _)))).mono ?_
    rintro e w1 ⟨rfl, hb1⟩
    obtain ⟨hc1, hf1⟩ := bcell hb1
    have hs1 : w.heap.size + 1 < w1.heap.size := by have := hb1.size; simp at this; omega
    go_wp2
    refine bodyPost_ret (v := .tuple #[.agg #[.slice a d.safe.length c, .slice a' d.wr.length c'], .int .i64 2]) (by simp [results, Try.results28, go_sem, hc1]) rfl ⟨rfl, ?_⟩
    have hb2 : Below w.heap.size w w1 := bthen (bthen (below1 _ _) (below1 _ _)) hb1
    exact (hb2.setCell (by simp) _).setCell (by simp) _

set_option maxHeartbeats 1000000 in
theorem put_form (v : Value) (d : Dk) (n : Int) (s : ByteArray) (w : World) (h : IsDk w v d) (hg : goodB d = true) (hp : placeB n = true) (hf : fitsB s = false) :
    Calls Try.prog 28 #[v, .int .i64 n, .string s] w fun e w' => e = .returned (.tuple #[v, .int .i64 1]) ∧ Below w.heap.size w w' := by
  have HI : Hid (IsDk w v d) := h
  obtain ⟨a, c, a', c', rfl, _, _, _, _⟩ := h
  go_enter Try.func28, Try.ntmps28
  go_wp2_with fail
  refine (good_any _ d _ (HI.out.below (bthen (below1 _ _) (below1 _ _)))).mono ?_
  rintro e w1 ⟨rfl, hb1⟩
  obtain ⟨hc1, hf1⟩ := bcell hb1
  have hs1 : w.heap.size + 1 < w1.heap.size := by have := hb1.size; simp at this; omega
  go_wp2_with fail
  refine (isPlace_any _ _).mono ?_
  rintro e w2 ⟨rfl, rfl⟩
  go_wp2_with fail
  refine (fits_any _ _).mono ?_
  rintro e w2 ⟨rfl, rfl⟩
  go_wp2
  refine bodyPost_ret (v := .tuple #[.agg #[.slice a d.safe.length c, .slice a' d.wr.length c'], .int .i64 1]) (by simp [results, Try.results28, go_sem, hc1]) rfl ⟨rfl, ?_⟩
  have hb2 : Below w.heap.size w w1 := bthen (bthen (below1 _ _) (below1 _ _)) hb1
  exact (hb2.setCell (by simp) _).setCell (by simp) _

set_option maxHeartbeats 1000000 in
theorem put_full (v : Value) (d : Dk) (n : Int) (s : ByteArray) (w : World) (h : IsDk w v d) (hg : goodB d = true) (hp : placeB n = true) (hf : fitsB s = true) (hl : d.wr.length = 200) :
    Calls Try.prog 28 #[v, .int .i64 n, .string s] w fun e w' => e = .returned (.tuple #[v, .int .i64 11]) ∧ Below w.heap.size w w' := by
  have HI : Hid (IsDk w v d) := h
  obtain ⟨a, c, a', c', rfl, _, _, _, _⟩ := h
  have hl' : ((d.wr.length : Int) == 200) = true := by rw [hl]; rfl
  clear hl
  go_enter Try.func28, Try.ntmps28
  go_wp2_with fail
  refine (good_any _ d _ (HI.out.below (bthen (below1 _ _) (below1 _ _)))).mono ?_
  rintro e w1 ⟨rfl, hb1⟩
  obtain ⟨hc1, hf1⟩ := bcell hb1
  have hs1 : w.heap.size + 1 < w1.heap.size := by have := hb1.size; simp at this; omega
  go_wp2_with fail
  refine (isPlace_any _ _).mono ?_
  rintro e w2 ⟨rfl, rfl⟩
  go_wp2_with fail
  refine (fits_any _ _).mono ?_
  rintro e w2 ⟨rfl, rfl⟩
  go_wp2
  refine bodyPost_ret (v := .tuple #[.agg #[.slice a d.safe.length c, .slice a' d.wr.length c'], .int .i64 11]) (by simp [results, Try.results28, go_sem, hc1]) rfl ⟨rfl, ?_⟩
  have hb2 : Below w.heap.size w w1 := bthen (bthen (below1 _ _) (below1 _ _)) hb1
  exact (hb2.setCell (by simp) _).setCell (by simp) _

set_option maxHeartbeats 2000000 in
set_option maxRecDepth 100000 in
theorem put_ok (v : Value) (d : Dk) (n : Int) (s : ByteArray) (w : World) (h : IsDk w v d) (hg : goodB d = true) (hp : placeB n = true) (hf : fitsB s = true) (hl : ¬ d.wr.length = 200) :
    Calls Try.prog 28 #[v, .int .i64 n, .string s] w fun e w' => ∃ v2, e = .returned (.tuple #[v2, .int .i64 0]) ∧ IsDk w' v2 ⟨d.safe, d.wr ++ [(n, s)]⟩ ∧ Below w.heap.size w w' := by
  have HI : Hid (IsDk w v d) := h
  obtain ⟨a, c, a', c', rfl, hS, hW, _, _⟩ := h
  have HS : Hid (SegS w a d.safe) := hS
  have HW : Hid (SegW w a' d.wr) := hW
  clear hS hW
  have hl' : ((d.wr.length : Int) == 200) = false := by simp; omega
  have h37 := (good_len37 hg).1
  have H37 : Hid (d.safe.length = 37) := h37
  have h200 := (good_len37 hg).2
  clear hl h37
  obtain ⟨i0, hi, hz0, hz1, hz2⟩ := info_parts infoW
  go_enter Try.func28, Try.ntmps28
  go_wp2_with fail
  refine (good_any _ d _ (HI.out.below (bthen (below1 _ _) (below1 _ _)))).mono ?_
  rintro e w1 ⟨rfl, hb1⟩
  have hs1 : w.heap.size + 1 < w1.heap.size := by have := hb1.size; simp at this; omega
  have x0 := cellKeep hb1 (b := w.heap.size) (o := 0) (v := .slice a d.safe.length c) (by simp; omega) (by simp [go_sem])
  have x1 := cellKeep hb1 (b := w.heap.size) (o := 1) (v := .slice a' d.wr.length c') (by simp; omega) (by simp [go_sem])
  have y0 := cellKeep hb1 (b := w.heap.size + 1) (o := 0) (v := .slice none 0 0) (by simp) (by simp [go_sem])
  have y1 := cellKeep hb1 (b := w.heap.size + 1) (o := 1) (v := .slice none 0 0) (by simp) (by simp [go_sem])
  have f0 := frozKeep hb1 (b := w.heap.size + 1) (o := 0) (v := false) (by simp) (by simp [go_sem])
  have f1 := frozKeep hb1 (b := w.heap.size + 1) (o := 1) (v := false) (by simp) (by simp [go_sem])
  go_wp2_with fail
  refine (isPlace_any _ _).mono ?_
  rintro e w2 ⟨rfl, rfl⟩
  go_wp2_with fail
  refine (fits_any _ _).mono ?_
  rintro e w2 ⟨rfl, rfl⟩
  go_wp2_with fail
  have hb2 : Below w.heap.size w w1 := bthen (bthen (below1 _ _) (below1 _ _)) hb1
  refine (cloneW_any a' c' d.wr _ (HW.out.below hb2) (by unfold maxLen; omega) (by omega)).mono ?_
  rintro e w3 ⟨v3, rfl, hown, hb3⟩
  have hs3 := hb3.size
  go_wp2_with (at_builtin; refine wpList_append_own _ rfl _ _ 23 rfl w1.heap.size 86 i0 (.agg #[.int .i64 0, .string ⟨#[]⟩]) 2 24 Try.underlying23 hi hz0 hz1 hz2 rfl (by decide) _ _ _ rfl (hown.alloc _) ⟨w3.heap.size, 0, none⟩ 1 1 (cellsW [(n, s)]) rfl ?qc1 ?qc2 ?qc3 ?qc4 ?qc5 ?qc6 ?_)
  case qc1 => rfl
  case qc2 =>
    intro j u hj
    match j, hj with
    | 0, hj => simp [cellsW] at hj; subst hj; simp [Addr.add]
    | 1, hj => simp [cellsW] at hj; subst hj; simp [Addr.add]
  case qc3 => exact cellsW_one _
  case qc4 => unfold maxLen; omega
  case qc5 => omega
  case qc6 => simp; omega
  intro v4 w4 hown4 hgrow4 hnil4
  have hb4 : Below w1.heap.size w1 w4 := (hb3.alloc hs3 _).grown hgrow4 (by simp; omega) (fun k hk => (hown.lt k hk).1)
  rw [← cellsW_append] at hown4
  obtain ⟨a4, c4, hv4, hW4, hB4⟩ := SegW.of_owns hown4
  have HW4 : Hid (SegW w4 a4 (d.wr ++ [(n, s)])) := hW4
  have HA4 : Hid (∀ b off, a4 = some ⟨b, off, none⟩ → w1.heap.size ≤ b) := hB4
  clear hown4 hgrow4 hnil4 hown hb3 hs3 hW4 hB4
  subst hv4
  have hs4 := hb4.size
  have x0' := cellKeep hb4 (by omega) x0
  go_wp2_with fail
  have hb5 := bthen hb2 hb4
  refine (cloneS_any a c d.safe _ (HS.out.below hb5) (by rw [H37.out]; decide) (by rw [H37.out]; decide)).mono ?_
  rintro e w6 ⟨v6, rfl, hown6, hb6⟩
  obtain ⟨a6, c6, hv6, hS6, hB6⟩ := SegS.of_owns hown6
  have HS6 : Hid (SegS w6 a6 d.safe) := hS6
  have HA6 : Hid (∀ b off, a6 = some ⟨b, off, none⟩ → w4.heap.size ≤ b) := hB6
  have HW6 : Hid (SegW w6 a4 (d.wr ++ [(n, s)])) := HW4.out.below hb6
  have HB6 : Hid (Below w.heap.size w w6) := bthen hb5 hb6
  have hs6 := hb6.size
  have y0' := cellKeep hb6 (by omega) (cellKeep hb4 (by omega) y0)
  have y1' := cellKeep hb6 (by omega) (cellKeep hb4 (by omega) y1)
  have f0' := frozKeep hb6 (by omega) (frozKeep hb4 (by omega) f0)
  have f1' := frozKeep hb6 (by omega) (frozKeep hb4 (by omega) f1)
  clear hown6 hS6 hB6 x0 x1 x0' y0 y1 f0 f1
  subst hv6
  go_wp2
  refine bodyPost_ret (v := .tuple #[.agg #[.slice a6 d.safe.length c6, .slice a4 (d.wr.length + 1) c4], .int .i64 0]) (by simp [results, Try.results28, go_sem, y0', y1']) rfl ⟨_, rfl, ⟨a6, c6, a4, c4, by simp, ?_, ?_, ?_, ?_⟩, ?_⟩
  · exact (HS6.out.setCell HA6.out (by simp; omega) _).setCell HA6.out (by simp; omega) _
  · exact (HW6.out.setCell HA4.out (by simp; omega) _).setCell HA4.out (by simp; omega) _
  · show d.safe.length ≤ maxLen; rw [H37.out]; decide
  · show (d.wr ++ [(n, s)]).length ≤ maxLen; simp [maxLen]; omega
  · exact (HB6.out.setCell (by simp) _).setCell (by simp) _

/-- disk.Put: one write more, the last one; or an error, and the disk as it was. -/
theorem put_any (v : Value) (d : Dk) (n : Int) (s : ByteArray) (w : World) (h : IsDk w v d) :
    Calls Try.prog 28 #[v, .int .i64 n, .string s] w fun e w' => ∃ v2, e = .returned (.tuple #[v2, .int .i64 (putE d n s)]) ∧ IsDk w' v2 (putK d n s) ∧ (putE d n s ≠ 0 → v2 = v) ∧ Below w.heap.size w w' := by
  have back : ∀ k : Int, putE d n s = k → k ≠ 0 → Calls Try.prog 28 #[v, .int .i64 n, .string s] w (fun e w' => e = .returned (.tuple #[v, .int .i64 k]) ∧ Below w.heap.size w w') →
      Calls Try.prog 28 #[v, .int .i64 n, .string s] w fun e w' => ∃ v2, e = .returned (.tuple #[v2, .int .i64 (putE d n s)]) ∧ IsDk w' v2 (putK d n s) ∧ (putE d n s ≠ 0 → v2 = v) ∧ Below w.heap.size w w' := by
    intro k hk h0 hcall
    have hK : putK d n s = d := by rw [putK, if_neg (by rw [hk]; exact h0)]
    rw [hk, hK]
    exact hcall.mono fun e w' he => ⟨v, he.1, h.below he.2, fun _ => rfl, he.2⟩
  cases hgp : (goodB d && placeB n) with
  | false => exact back 2 (by simp only [putE, hgp]; rfl) (by decide) (put_range v d n s w h hgp)
  | true =>
    have hg : goodB d = true := by simp at hgp; exact hgp.1
    have hp : placeB n = true := by simp at hgp; exact hgp.2
    cases hf : fitsB s with
    | false => exact back 1 (by simp only [putE, hgp, hf]; rfl) (by decide) (put_form v d n s w h hg hp hf)
    | true =>
      by_cases hl : d.wr.length = 200
      · exact back 11 (by simp only [putE, hgp, hf, hl]; rfl) (by decide) (put_full v d n s w h hg hp hf hl)
      · have hE : putE d n s = 0 := by simp [putE, hgp, hf, hl]
        have hK : putK d n s = ⟨d.safe, d.wr ++ [(n, s)]⟩ := by rw [putK, if_pos hE]
        rw [hE, hK]
        exact (put_ok v d n s w h hg hp hf hl).mono fun e w' he => by
          obtain ⟨v2, h1, h2, h3⟩ := he
          exact ⟨v2, h1, h2, fun h => absurd rfl h, h3⟩

end Go.Proofs.Ytjnpndfpajjihac

namespace Go.Proofs.Ytjnpndfpajjihac

end Go.Proofs.Ytjnpndfpajjihac

namespace Go.Proofs.Ytjnpndfpajjihac
open Go.RowKit

/-- A row of which the first n cells are filled. -/
def row (s : ByteArray) (n m : Nat) : List Value := List.replicate n (.string s) ++ List.replicate m (.string ⟨#[]⟩)

/-- So many copies. -/
def reps (s : ByteArray) (k : Nat) : List Value := List.replicate k (.string s)
theorem reps_length (s : ByteArray) (k : Nat) : (reps s k).length = k := by simp [reps]
theorem reps_at {s : ByteArray} {k j : Nat} {u : Value} (h : (reps s k)[j]? = some u) : j < k ∧ u = .string s := by
  rw [reps, List.getElem?_replicate] at h
  split at h
  · exact ⟨by assumption, by cases h; rfl⟩
  · cases h

theorem row_length (s : ByteArray) (n m : Nat) : (row s n m).length = n + m := by simp [row]
theorem row_splice (s : ByteArray) (n m k : Nat) : splice (row s n m) n (reps s k) = row s (n + k) (m - k) := by
  have e1 : (row s n m).take n = List.replicate n (.string s) := by simp [row]
  have e2 : (row s n m).drop (n + k) = List.replicate (m - k) (.string ⟨#[]⟩) := by simp [row, List.drop_append]
  rw [splice, e1, reps_length, e2, row, reps, ← List.append_assoc, List.replicate_append_replicate]
theorem row_head (s : ByteArray) (n m j : Nat) (h : j < n) : (row s n m)[j]? = some (.string s) := by
  rw [row, List.getElem?_append_left (by simpa using h)]
  simp [h]
theorem rep_one (s : ByteArray) (k : Nat) : ∀ u ∈ reps s k, u.oneCell' = true := by
  intro u hu
  rw [List.eq_of_mem_replicate hu]
  rfl

theorem row_src {s : ByteArray} {wr : World} {B n m k : Nat} (HG : Hid (wr.heap[B]? = some (.cells (row s n m).toArray 9 (0, 0)))) (hk : k ≤ n) :
    ∀ j v, (reps s k)[j]? = some v → wr.cell? ((⟨B, 0, none⟩ : Addr).add j) = some v := by
  intro j v hj
  obtain ⟨hlt, rfl⟩ := reps_at hj
  rw [Addr.add_lit, Nat.zero_add, cell_of_row wr B j _ 9 (0, 0) HG.out]
  simpa using row_head s n m j (by omega)

theorem sizeS : (Try.prog.info? 9).map (fun i => i.size) = some 1 := by kernel_rfl

theorem mul_1_37 (w : World) : Calls Try.prog 57 #[.int .u64 1, .int .u64 37] w fun e w' => e = .returned (.tuple #[.int .u64 0, .int .u64 37]) ∧ w = w' := by
  refine (Try.bits_Mul 1 37 (by decide) (by decide) w).mono ?_
  rintro e w' ⟨rfl, rfl⟩
  exact ⟨rfl, rfl⟩

theorem make37 (s : ByteArray) (w : World) : (Instr.makeSlice 22 (.int .i64 37) (.int .i64 37)).run Try.prog w = .ok (.slice (some ⟨w.heap.size, 0, none⟩) 37 37) (w.alloc (.cells (row s 0 37).toArray 9)) := by kernel_rfl

set_option maxHeartbeats 1000000 in
set_option maxRecDepth 100000 in
theorem rep_any (b off c : Nat) (s : ByteArray) (w : World) (hb : b < w.heap.size) (hc : w.cell? ⟨b, off, none⟩ = some (.string s)) :
    Calls Try.prog 39 #[.slice (some ⟨b, off, none⟩) 1 c, .int .i64 37] w fun e w' => ∃ v', e = .returned v' ∧ w'.ownsRow w.heap.size 9 1 v' 37 (cellsS (List.replicate 37 s)) ∧ Below w.heap.size w w' := by
  have hmk := make37 s
  go_enter Try.func39, Try.ntmps39
  go_wp2_with fail
  refine (mul_1_37 _).mono ?_
  rintro e w1 ⟨rfl, rfl⟩
  go_wp2_with (refine wpList_copy_splice rfl (.tmp 31) (.tmp 32) 22 22 rfl 9 Try.underlying22 sizeS _ _ _ _ _ _ rfl rfl w.heap.size 0 (row s 0 37) 9 ?qc1 (reps s 1) ?qc2 ?qc3 ?qc4 (rep_one s 1) w.heap.size w ?qc5 (Nat.le_refl _) ?_)
  case qc1 => exact heap_alloc_new w _
  case qc2 => rw [reps_length]; rfl
  case qc3 =>
    intro _ j v hj
    obtain ⟨h0, rfl⟩ := reps_at hj
    rw [show j = 0 from by omega, Nat.add_zero]
    exact hc
  case qc4 => rw [row_length, reps_length]; decide
  case qc5 => exact below1 _ _
  intro w2 HG2 hB2
  rw [row_splice] at HG2
  go_wp2
  go_loopw [8] (fun i wr => ∃ n : Nat, 1 ≤ n ∧ n ≤ 37 ∧ i = .int .i64 n ∧ Hid (wr.heap[w.heap.size]? = some (.cells (row s n (37 - n)).toArray 9 (0, 0))) ∧ Below w.heap.size w wr) (fun i _ => 37 - (intOf i).toNat)
  case atStart => exact ⟨1, by omega, by omega, rfl, HG2, hB2⟩
  case round =>
    obtain ⟨n, h1, h37, rfl, HG, hB⟩ := hrel
    clear HG2 hB2
    by_cases hlt : n < 37
    · have hlt' : (n : Int) < 37 := by omega
      have hle' : (n : Int) ≤ 37 := by omega
      have hne : ¬ 37 = n := by omega
      have hlen : (reps s (min n (37 - n))).length ≤ 37 := by rw [reps_length]; omega
      go_wp2
      go_region_law (refine step_copy_splice rfl (.tmp 41) (.tmp 44) 22 22 rfl 9 Try.underlying22 sizeS (some ⟨w.heap.size, n, none⟩) (some ⟨w.heap.size, 0, none⟩) (37 - n) (37 - n) n 37 (by simp [Act.eval, Act.put]) (by simp [Act.eval, Act.put]) w.heap.size n (row s n (37 - n)) 9 HG.out (reps s (min n (37 - n))) (by rw [reps_length]) (fun _ => ⟨rfl, ⟨w.heap.size, 0, none⟩, rfl, row_src HG (Nat.min_le_left _ _)⟩) (by rw [row_length, reps_length]; omega) (rep_one s _) w.heap.size w hB.drew (Nat.le_refl _) ?_; intro w4 HG4 hB4)
      rw [row_splice] at HG4
      go_wp2
      have hw : IntKind.i64.wrap ((n : Int) + ((reps s (min n (37 - n))).length : Int)) = ((n + min n (37 - n) : Nat) : Int) := by
        rw [reps_length]
        rw [IntKind.wrap_i64]
        omega
      rw [hw]
      refine ⟨?_, ?_⟩
      · (repeat apply Exists.intro)
        exact ⟨⟨n + min n (37 - n), by omega, by omega, rfl, by rw [show 37 - (n + min n (37 - n)) = 37 - n - min n (37 - n) from by omega]; exact HG4, hB4⟩, rfl⟩
      · simp [Act.put, intOf]; omega
    · have e : n = 37 := by omega
      have HF : Hid (wr.heap[w.heap.size]? = some (.cells (row s 37 0).toArray 9 (0, 0))) := by have := HG.out; rw [e] at this; exact this
      clear e HG
      go_wp2
      go_ret
      refine ⟨_, rfl, ⟨by simp [cellsS], .inr ⟨w.heap.size, 37, (row s 37 0).toArray, rfl, Nat.le_refl _, HF.out, by omega, by decide, by simp [row], ?_⟩⟩, hB⟩
      simp [row, cellsS]

/-- A new disk as plain data. -/
def newK : Dk := ⟨List.replicate 37 (fitT ⟨#[]⟩), []⟩

set_option maxHeartbeats 1000000 in
set_option maxRecDepth 100000 in
theorem new_own (w : World) :
    Calls Try.prog 19 #[] w fun e w' => ∃ g c, e = .returned (.agg #[.slice (some ⟨g, 0, none⟩) 37 c, .slice none 0 0]) ∧ w'.ownsRow w.heap.size 9 1 (.slice (some ⟨g, 0, none⟩) 37 c) 37 (cellsS (List.replicate 37 (fitT ⟨#[]⟩))) ∧ Below w.heap.size w w' := by
  go_enter Try.func19, Try.ntmps19
  go_wp2_with fail
  refine (fit_any ⟨#[]⟩ _ (by decide)).mono ?_
  rintro e w1 ⟨rfl, hb1⟩
  have hs1 : w.heap.size < w1.heap.size := by have := hb1.size; simp at this; omega
  generalize hz : fitT ⟨#[]⟩ = z
  have HZ : Hid (fitT ⟨#[]⟩ = z) := hz
  clear hz
  go_wp2_with fail
  refine (rep_any _ _ _ z _ (by simp) (by simp [go_sem])).mono ?_
  rintro e w2 ⟨v2, rfl, hown, hb2⟩
  have HO := hide hown
  obtain ⟨g, c2, hv2⟩ : ∃ g c2, v2 = .slice (some ⟨g, 0, none⟩) 37 c2 := by
    rcases hown.2 with ⟨_, h0⟩ | ⟨g, cap, cur, e, _⟩
    · cases h0
    · exact ⟨g, cap, e⟩
  subst hv2
  have y0 := cellKeep hb1 (b := w.heap.size) (o := 0) (v := .slice none 0 0) (by simp) (by simp [go_sem])
  have y1 := cellKeep hb1 (b := w.heap.size) (o := 1) (v := .slice none 0 0) (by simp) (by simp [go_sem])
  have f0 := frozKeep hb1 (b := w.heap.size) (o := 0) (v := false) (by simp) (by simp [go_sem])
  have f1 := frozKeep hb1 (b := w.heap.size) (o := 1) (v := false) (by simp) (by simp [go_sem])
  have hb12 : Below w1.heap.size w1 w2 := bthen (below1 _ _) hb2
  have y0' := cellKeep hb12 hs1 y0
  have y1' := cellKeep hb12 hs1 y1
  have f0' := frozKeep hb12 hs1 f0
  have f1' := frozKeep hb12 hs1 f1
  have HB : Hid (Below w.heap.size w w2) := bthen (bthen (below1 _ _) hb1) hb12
  clear hown y0 y1 f0 f1 hb2
  go_wp2
  refine bodyPost_ret (v := .agg #[.slice (some ⟨g, 0, none⟩) 37 c2, .slice none 0 0]) (by simp [results, Try.results19, go_sem, y0', y1']) rfl ⟨g, c2, rfl, ?_, ?_⟩
  · rw [← HZ.out] at HO
    exact owns_base (ownsRow_setCell_below (ownsRow_setCell_below HO.out (a := ⟨w.heap.size, 0, none⟩) (by simp; omega) _) (a := ⟨w.heap.size, 1, none⟩) (by simp; omega) _) (by simp; omega)
  · exact (HB.out.setCell (by simp) _).setCell (by simp) _

theorem new_any (w : World) :
    Calls Try.prog 19 #[] w fun e w' => ∃ v, e = .returned v ∧ IsDk w' v newK ∧ Below w.heap.size w w' := by
  refine (new_own w).mono ?_
  rintro e w' ⟨g, c, rfl, ho, hb⟩
  obtain ⟨a2, c2, hv, hS, _⟩ := SegS.of_owns ho
  cases hv
  exact ⟨_, rfl, ⟨some ⟨g, 0, none⟩, c, none, 0, by simp [newK], hS, .inl rfl, by simp [newK, maxLen], by simp [newK, maxLen]⟩, hb⟩

end Go.Proofs.Ytjnpndfpajjihac

namespace Go.Proofs.Ytjnpndfpajjihac
open Go.RowKit

/-- A row of which the first cells are these texts. -/
def fill (l : List ByteArray) (m : Nat) : List Value := cellsS l ++ List.replicate m (.string ⟨#[]⟩)

theorem fill_set (l : List ByteArray) (m : Nat) (s : ByteArray) : (fill l (m + 1)).set l.length (.string s) = fill (l ++ [s]) m := by
  have hl : (cellsS l).length = l.length := by simp [cellsS]
  rw [fill, List.set_append_right _ _ (by omega), hl, Nat.sub_self, List.replicate_succ, List.set_cons_zero, fill, cellsS_append, List.append_assoc]
  rfl
theorem fill_full (l : List ByteArray) : fill l 0 = cellsS l := by simp [fill]
theorem fill_none (m : Nat) : fill [] m = List.replicate m (.string ⟨#[]⟩) := rfl
theorem fill_at (l : List ByteArray) (m k : Nat) (h : k < l.length + m) : ∃ u, (fill l m)[k]? = some u := by
  have : k < (fill l m).length := by simp [fill, cellsS]; omega
  exact ⟨_, List.getElem?_eq_getElem this⟩

theorem made37 (w : World) : (Instr.makeSlice 22 (.int .i64 37) (.int .i64 37)).run Try.prog w = .ok (.slice (some ⟨w.heap.size, 0, none⟩) 37 37) (w.alloc (.cells (fill [] 37).toArray 9)) := by kernel_rfl

theorem made_owns (w : World) (base : Nat) (hb : base ≤ w.heap.size) : (w.alloc (.cells (fill [] 37).toArray 9)).ownsRow base 9 1 (.slice (some ⟨w.heap.size, 0, none⟩) 37 37) 37 (fill [] 37) := by
  have := World.ownsRow_lit (e := 9) (size := 1) w (fill [] 37).toArray 37 hb (by decide) (by simp [fill, cellsS])
  simpa using this

/-- One text more in the row. -/
theorem fill_step {w : World} {base g : Nat} {l : List ByteArray} {m : Nat} (h : w.ownsRow base 9 1 (.slice (some ⟨g, 0, none⟩) 37 37) 37 (fill l (m + 1))) (s : ByteArray) :
    (w.setCell ⟨g, l.length, none⟩ (.string s)).ownsRow base 9 1 (.slice (some ⟨g, 0, none⟩) 37 37) 37 (fill (l ++ [s]) m) := by
  have := (h.stored l.length (.string s)).1
  rwa [fill_set] at this

theorem fill_cell {w : World} {base g : Nat} {l : List ByteArray} {m : Nat} (h : w.ownsRow base 9 1 (.slice (some ⟨g, 0, none⟩) 37 37) 37 (fill l (m + 1))) :
    (∃ u, w.cell? ⟨g, l.length, none⟩ = some u) ∧ w.frozen? ⟨g, l.length, none⟩ = false ∧ base ≤ g ∧ g < w.heap.size ∧ l.length + (m + 1) = 37 := by
  have hlen : l.length + (m + 1) = 37 := by have := h.1; simp [fill, cellsS] at this; omega
  obtain ⟨u, hu⟩ := fill_at l (m + 1) l.length (by omega)
  have hlt := h.lt g rfl
  exact ⟨⟨u, by rw [h.cellAt _ (by omega)]; exact hu⟩, h.frozenAt _, hlt.1, hlt.2, hlen⟩

/-- What Flush answers. -/
def flushL (d : Dk) (k : Nat) : List ByteArray := (List.range k).map fun n : Nat => lastOf d (n : Int)
def flushK (d : Dk) : Dk := if goodB d = true then ⟨flushL d 37, []⟩ else d
def flushE (d : Dk) : Int := if goodB d = true then 0 else 2

theorem flushL_length (d : Dk) (k : Nat) : (flushL d k).length = k := by simp [flushL]
theorem flushL_succ (d : Dk) (k : Nat) : flushL d (k + 1) = flushL d k ++ [lastOf d (k : Int)] := by simp [flushL, List.range_succ]

set_option maxHeartbeats 1000000 in
theorem flush_no (v : Value) (d : Dk) (w : World) (h : IsDk w v d) (hg : goodB d = false) :
    Calls Try.prog 4 #[v] w fun e w' => e = .returned (.tuple #[v, .int .i64 2]) ∧ Below w.heap.size w w' := by
  have HI : Hid (IsDk w v d) := h
  obtain ⟨a, c, a', c', rfl, _, _, _, _⟩ := h
  go_enter Try.func4, Try.ntmps4
  go_wp2_with fail
  refine (good_any _ d _ (HI.out.below (bthen (below1 _ _) (below1 _ _)))).mono ?_
  rintro e w1 ⟨rfl, hb1⟩
  obtain ⟨hc1, hf1⟩ := bcell hb1
  have hs1 : w.heap.size + 1 < w1.heap.size := by have := hb1.size; simp at this; omega
  go_wp2
  refine bodyPost_ret (v := .tuple #[.agg #[.slice a d.safe.length c, .slice a' d.wr.length c'], .int .i64 2]) (by simp [results, Try.results4, go_sem, hc1]) rfl ⟨rfl, ?_⟩
  have hb2 : Below w.heap.size w w1 := bthen (bthen (below1 _ _) (below1 _ _)) hb1
  exact (hb2.setCell (by simp) _).setCell (by simp) _

set_option maxHeartbeats 2000000 in
set_option maxRecDepth 100000 in
theorem flush_ok (v : Value) (d : Dk) (w : World) (h : IsDk w v d) (hg : goodB d = true) :
    Calls Try.prog 4 #[v] w fun e w' => ∃ v2, e = .returned (.tuple #[v2, .int .i64 0]) ∧ IsDk w' v2 ⟨flushL d 37, []⟩ ∧ Below w.heap.size w w' := by
  have HI : Hid (IsDk w v d) := h
  obtain ⟨a, c, a', c', rfl, _, _, _, _⟩ := h
  have H37 := hide (good_len37 hg)
  have hmk := made37
  go_enter Try.func4, Try.ntmps4
  go_wp2_with fail
  refine (good_any _ d _ (HI.out.below (bthen (below1 _ _) (below1 _ _)))).mono ?_
  rintro e w1 ⟨rfl, hb1⟩
  have hs1 : w.heap.size + 1 < w1.heap.size := by have := hb1.size; simp at this; omega
  have x0 := cellKeep hb1 (b := w.heap.size) (o := 0) (v := .slice a d.safe.length c) (by simp; omega) (by simp [go_sem])
  have x1 := cellKeep hb1 (b := w.heap.size) (o := 1) (v := .slice a' d.wr.length c') (by simp; omega) (by simp [go_sem])
  have y0 := cellKeep hb1 (b := w.heap.size + 1) (o := 0) (v := .slice none 0 0) (by simp) (by simp [go_sem])
  have y1 := cellKeep hb1 (b := w.heap.size + 1) (o := 1) (v := .slice none 0 0) (by simp) (by simp [go_sem])
  have f0 := frozKeep hb1 (b := w.heap.size + 1) (o := 0) (v := false) (by simp) (by simp [go_sem])
  have f1 := frozKeep hb1 (b := w.heap.size + 1) (o := 1) (v := false) (by simp) (by simp [go_sem])
  have hb2 : Below w.heap.size w w1 := bthen (bthen (below1 _ _) (below1 _ _)) hb1
  clear hb1
  go_wp2
  go_loopw [13] (fun i wr => ∃ k : Nat, k ≤ 37 ∧ i = .int .i64 k ∧ Hid (wr.ownsRow w1.heap.size 9 1 (.slice (some ⟨w1.heap.size, 0, none⟩) 37 37) 37 (fill (flushL d k) (37 - k))) ∧ Below w1.heap.size w1 wr) (fun i _ => 37 - (intOf i).toNat)
  case atStart => exact ⟨0, Nat.zero_le _, rfl, made_owns _ _ (Nat.le_refl _), below1 _ _⟩
  case round =>
    obtain ⟨k, hk, rfl, hown, hbr⟩ := hrel
    have hsr := hbr.size
    by_cases hlt : k < 37
    · have hlt' : (k : Int) < 37 := by omega
      have z0 := cellKeep hbr (by omega) x0
      have z1 := cellKeep hbr (by omega) x1
      clear hmk
      go_wp2_with fail
      refine (last_any _ d k _ (HI.out.below (bthen hb2 hbr)) H37.out.1 hlt H37.out.2).mono ?_
      rintro e w3 ⟨rfl, hb3⟩
      have hown3 := owns_keep hown.out hb3
      rw [show 37 - k = (36 - k) + 1 from by omega] at hown3
      have hc := fill_cell hown3
      have hst := fill_step hown3 (lastOf d k)
      rw [flushL_length] at hc hst
      obtain ⟨⟨u, hu⟩, hfz, hg1, hg2, _⟩ := hc
      have HST := hide hst
      clear hown3 hst hown z0 z1
      go_wp2
      go_roundw
      case rel =>
        refine ⟨k + 1, by omega, by go_num, ?_, ?_⟩
        · rw [flushL_succ, show 37 - (k + 1) = 36 - k from by omega]; exact HST
        · exact (bthen hbr hb3).setCell (by simp) _
      case measure => simp [intOf]; omega
    · have e : k = 37 := by omega
      have hown' := hown.out
      rw [e, show 37 - 37 = 0 from rfl, fill_full] at hown'
      obtain ⟨a2, c2, hv2, hS2, hA2⟩ := SegS.of_owns hown'
      have hA2' := hide hA2
      have HS2 := hide hS2
      have y0' := cellKeep hbr (by omega) y0
      have y1' := cellKeep hbr (by omega) y1
      have f0' := frozKeep hbr (by omega) f0
      have f1' := frozKeep hbr (by omega) f1
      rw [flushL_length] at hv2
      simp only [Value.slice.injEq] at hv2
      obtain ⟨ha2, _, hc2⟩ := hv2
      subst ha2 hc2
      clear hown hown' hS2 hA2 y0 y1 f0 f1 x0 x1 hmk e
      go_wp2
      refine bodyPost_ret (v := .tuple #[.agg #[.slice (some ⟨w1.heap.size, 0, none⟩) 37 37, .slice none 0 0], .int .i64 0]) (by simp [results, Try.results4, go_sem, y0', y1']) rfl ⟨_, rfl, ⟨some ⟨w1.heap.size, 0, none⟩, 37, none, 0, ?_, ?_, .inl rfl, ?_, ?_⟩, ?_⟩
      · simp only [flushL_length]; rfl
      · exact (HS2.out.setCell hA2'.out (by simp; omega) _).setCell hA2'.out (by simp; omega) _
      · show (flushL d 37).length ≤ maxLen; rw [flushL_length]; decide
      · exact Nat.zero_le _
      · exact ((bthen hb2 hbr).setCell (by simp) _).setCell (by simp) _

/-- disk.Flush: each place as Read says, all safe, no writes; or an error, and the disk as it was. -/
theorem flush_any (v : Value) (d : Dk) (w : World) (h : IsDk w v d) :
    Calls Try.prog 4 #[v] w fun e w' => ∃ v2, e = .returned (.tuple #[v2, .int .i64 (flushE d)]) ∧ IsDk w' v2 (flushK d) ∧ (flushE d ≠ 0 → v2 = v) ∧ Below w.heap.size w w' := by
  cases hg : goodB d with
  | false =>
    have hE : flushE d = 2 := by simp [flushE, hg]
    have hK : flushK d = d := by simp [flushK, hg]
    rw [hE, hK]
    exact (flush_no v d w h hg).mono fun e w' he => ⟨v, he.1, h.below he.2, fun _ => rfl, he.2⟩
  | true =>
    have hE : flushE d = 0 := by simp [flushE, hg]
    have hK : flushK d = ⟨flushL d 37, []⟩ := by simp [flushK, hg]
    rw [hE, hK]
    exact (flush_ok v d w h hg).mono fun e w' he => by
      obtain ⟨v2, h1, h2, h3⟩ := he
      exact ⟨v2, h1, h2, fun h => absurd rfl h, h3⟩

end Go.Proofs.Ytjnpndfpajjihac
