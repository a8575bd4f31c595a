/-
  The walk of the statements' own run: a disk behind steps.
-/
import Derived.Test.YtjnpndfpajjihabGreatGrSealWhole23
import Derived.Test.YtjnpndfpajjihabGreatGrSealWhole24
import Derived.Test.YtjnpndfpajjihabGreatGrSealWhole7
import Derived.Test.YtjnpndfpajjihabGreatGrSealWhole20
namespace Go.Proofs.YtjnpndfpajjihabGreat
open Go.RowKit

/-- A disk behind a step, and behind steps. -/
def stepK (d : Dk) (s : St) : Dk := if s.1 = 2 then flushK d else putK d s.2.1 s.2.2
def runK (d : Dk) (l : List St) : Dk := l.foldl stepK d
theorem runK_take {l : List St} {k : Nat} {s : St} (h : l[k]? = some s) (d : Dk) : runK d (l.take (k + 1)) = stepK (runK d (l.take k)) s := by
  rw [List.take_add_one, h, runK, List.foldl_append]; rfl
theorem st_at {l : List St} {k : Nat} (h : k < l.length) : l[k]? = some (l.getD k st0) := by
  rw [List.getD, List.getElem?_eq_getElem h]; rfl

/-- A block of two slices is no row of texts or writes. -/
theorem IsDk.setBox {w : World} {v : Value} {d : Dk} {B : Nat} {a1 a2 : Option Addr} {n1 c1 n2 c2 : Nat} {t : TypeId} (h : IsDk w v d) (hB : w.heap[B]? = some (.cells #[.slice a1 n1 c1, .slice a2 n2 c2] t (0, 0))) (k : Nat) (u : Value) : IsDk (w.setCell ⟨B, k, none⟩ u) v d := by
  obtain ⟨a, c, a', c', rfl, hS, hW, l1, l2⟩ := h
  have hcell : ∀ o x, w.cell? ⟨B, o, none⟩ = some x → x = .slice a1 n1 c1 ∨ x = .slice a2 n2 c2 := by
    intro o x hx
    rw [cell_of_row w _ _ _ _ _ hB] at hx
    match o, hx with
    | 0, hx => simp at hx; exact .inl hx.symm
    | 1, hx => simp at hx; exact .inr hx.symm
    | o + 2, hx => simp at hx
  refine ⟨a, c, a', c', rfl, ?_, ?_, l1, l2⟩
  · rcases hS with e | ⟨b, off, rfl, hlt, hc⟩
    · exact .inl e
    · by_cases h0 : d.safe.length = 0
      · exact .inl (List.eq_nil_of_length_eq_zero h0)
      · have hne : b ≠ B := by
          intro e
          subst e
          rcases hcell _ _ (hc 0 (by omega)) with h | h <;> cases h
        exact .inr ⟨b, off, rfl, by simpa [World.setCell] using hlt, fun i hi => cellSet (hc i hi) (by simp; exact hne)⟩
  · rcases hW with e | ⟨b, off, rfl, hlt, hc⟩
    · exact .inl e
    · by_cases h0 : d.wr.length = 0
      · exact .inl (List.eq_nil_of_length_eq_zero h0)
      · have hne : b ≠ B := by
          intro e
          subst e
          rcases hcell _ _ (hc 0 (by omega)).1 with h | h <;> cases h
        exact .inr ⟨b, off, rfl, by simpa [World.setCell] using hlt, fun i hi => ⟨cellSet (hc i hi).1 (by simp; exact hne), cellSet (hc i hi).2 (by simp; exact hne)⟩⟩
theorem stored2 {w : World} {B : Nat} {z0 z1 : Value} {t : TypeId} (h : w.heap[B]? = some (.cells #[z0, z1] t (0, 0))) (v0 v1 : Value) :
    ((w.setCell ⟨B, 0, none⟩ v0).setCell ⟨B, 1, none⟩ v1).heap[B]? = some (.cells #[v0, v1] t (0, 0)) := by
  have h0 := heap_setCell_same w B 0 _ _ v0 h
  exact heap_setCell_same _ B 1 _ _ v1 h0

set_option maxHeartbeats 4000000 in
set_option maxRecDepth 100000 in
theorem run_any (v : Value) (d : Dk) (a : Option Addr) (c : Nat) (l : List St) (w : World) (h : IsDk w v d) (hS : SegSt w a l) (hn : l.length ≤ 1000) :
    Calls Tryz.prog 34 #[v, .slice a l.length c] w fun e w' => ∃ v2, e = .returned v2 ∧ IsDk w' v2 (runK d l) ∧ Below w.heap.size w w' := by
  have HD := hide h
  have HS := hide hS
  obtain ⟨x, cx, y, cy, rfl, _, _, _, _⟩ := h
  clear hS
  go_enter Tryz.func34, Tryz.ntmps34
  go_wp2
  go_loopw [9] (fun i wr => ∃ (k : Nat) (a1 : Option Addr) (n1 c1 : Nat) (a2 : Option Addr) (n2 c2 : Nat), k ≤ l.length ∧ i = .int .i64 (k : Int) ∧ Hid (wr.heap[w.heap.size]? = some (.cells #[.slice a1 n1 c1, .slice a2 n2 c2] 58 (0, 0))) ∧ Hid (wr.heap[w.heap.size + 1]? = some (.cells #[.slice none 0 0, .slice none 0 0] 58 (0, 0))) ∧ Hid (IsDk wr (.agg #[.slice a1 n1 c1, .slice a2 n2 c2]) (runK d (l.take k))) ∧ w.heap.size + 1 < wr.heap.size ∧ Hid (Below w.heap.size w wr)) (fun i _ => l.length - (intOf i).toNat)
  case atStart => exact ⟨0, x, _, cx, y, _, cy, Nat.zero_le _, rfl, two1 (Below.refl _ _), two2 (Below.refl _ _), HD.out.below (bthen (below1 _ _) (below1 _ _)), by simp, bthen (below1 _ _) (below1 _ _)⟩
  case round =>
    obtain ⟨k, a1, n1, c1, a2, n2, c2, hk, rfl, KB, KR, HDk, hsz, HB⟩ := hrel
    have hsz0 : w.heap.size < wr.heap.size := by omega
    by_cases hlt : k < l.length
    · obtain ⟨b, off, rfl, hb, hc⟩ := HS.out.resolve_left (fun e => absurd hlt (by rw [e]; exact Nat.not_lt_zero _))
      obtain ⟨s, hs⟩ : ∃ s, s = l.getD k st0 := ⟨_, rfl⟩
      have HRK := hide (runK_take (st_at hlt) d)
      obtain ⟨g0, g1, g2⟩ := hc k hlt
      rw [← hs] at g0 g1 g2 HRK
      have x0 := cellKeep HB.out hb g0
      have x1 := cellKeep HB.out hb g1
      have x2 := cellKeep HB.out hb g2
      have hlt' : (k : Int) < (l.length : Int) := by omega
      clear hc g0 g1 g2 hs
      obtain ⟨⟨y0, y1⟩, yf⟩ := box2 KB.out
      generalize runK d (l.take k) = D at *
      by_cases hf : s.1 = 2
      · have HST : Hid (runK d (l.take (k + 1)) = flushK D) := by rw [Hid, HRK.out, stepK, if_pos hf]
        clear HRK
        rw [hf] at x0
        go_wp2_with fail
        refine (flush_any _ D _ (HDk.out.below (below1 _ _))).mono ?_
        rintro e w2 ⟨v2, rfl, hD2, _, hb2⟩
        have hb12 := bthen (below1 _ _) hb2
        have HD2 := hide hD2
        obtain ⟨e1, e2, e3, e4, rfl, _, _, _, _⟩ := hD2
        have KB2 := hide (boxKeep hb12 hsz0 KB.out)
        have KR2 := hide (boxKeep hb12 hsz KR.out)
        have hs2 := hb12.size
        have HB2 := hide (bthen HB.out hb12)
        clear hb2 hb12 KB KR HB y0 y1 yf x0 x1 x2
        obtain ⟨⟨y0, y1⟩, yf⟩ := box2 KB2.out
        have hz2 : w.heap.size < w2.heap.size := by omega
        go_wp2
        go_roundw
        case rel =>
          refine ⟨k + 1, e1, _, e2, e3, _, e4, by omega, by go_num, stored2 KB2.out _ _, ?_, ?_, by simp [World.setCell]; omega, (HB2.out.setCell (p := ⟨w.heap.size, 0, none⟩) (by simp) _).setCell (p := ⟨w.heap.size, 1, none⟩) (by simp) _⟩
          · exact (box_setNe (p := ⟨w.heap.size, 1, none⟩) (by simp) _).trans ((box_setNe (p := ⟨w.heap.size, 0, none⟩) (by simp) _).trans KR2.out)
          · rw [HST.out]
            exact (HD2.out.setBox KB2.out 0 _).setBox (heap_setCell_same _ _ 0 _ _ (.slice e1 (flushK D).safe.length e2) KB2.out) 1 _
        case measure => simp [intOf]; omega
      · have HST : Hid (runK d (l.take (k + 1)) = putK D s.2.1 s.2.2) := by rw [Hid, HRK.out, stepK, if_neg hf]
        clear HRK
        have hf' : (s.1 == 2) = false := by simpa using hf
        go_wp2_with fail
        refine (put_any _ D s.2.1 s.2.2 _ (HDk.out.below (below1 _ _))).mono ?_
        rintro e w2 ⟨v2, rfl, hD2, _, hb2⟩
        have hb12 := bthen (below1 _ _) hb2
        have HD2 := hide hD2
        obtain ⟨e1, e2, e3, e4, rfl, _, _, _, _⟩ := hD2
        have KB2 := hide (boxKeep hb12 hsz0 KB.out)
        have KR2 := hide (boxKeep hb12 hsz KR.out)
        have hs2 := hb12.size
        have HB2 := hide (bthen HB.out hb12)
        clear hb2 hb12 KB KR HB y0 y1 yf x0 x1 x2
        obtain ⟨⟨y0, y1⟩, yf⟩ := box2 KB2.out
        have hz2 : w.heap.size < w2.heap.size := by omega
        go_wp2
        go_roundw
        case rel =>
          refine ⟨k + 1, e1, _, e2, e3, _, e4, by omega, by go_num, stored2 KB2.out _ _, ?_, ?_, by simp [World.setCell]; omega, (HB2.out.setCell (p := ⟨w.heap.size, 0, none⟩) (by simp) _).setCell (p := ⟨w.heap.size, 1, none⟩) (by simp) _⟩
          · exact (box_setNe (p := ⟨w.heap.size, 1, none⟩) (by simp) _).trans ((box_setNe (p := ⟨w.heap.size, 0, none⟩) (by simp) _).trans KR2.out)
          · rw [HST.out]
            exact (HD2.out.setBox KB2.out 0 _).setBox (heap_setCell_same _ _ 0 _ _ (.slice e1 (putK D s.2.1 s.2.2).safe.length e2) KB2.out) 1 _
        case measure => simp [intOf]; omega
    · have e : k = l.length := by omega
      subst e
      rw [List.take_length] at HDk
      obtain ⟨⟨y0, y1⟩, yf⟩ := box2 KB.out
      obtain ⟨⟨z0, z1⟩, zf⟩ := box2 KR.out
      go_wp2
      obtain ⟨W, hW⟩ : ∃ W, W = ((wr.setCell ⟨w.heap.size + 1, 0, none⟩ (.slice a1 n1 c1)).setCell ⟨w.heap.size + 1, 1, none⟩ (.slice a2 n2 c2)) := ⟨_, rfl⟩
      have hbx := stored2 KR.out (.slice a1 n1 c1) (.slice a2 n2 c2)
      rw [← hW] at hbx
      obtain ⟨⟨q0, q1⟩, _⟩ := box2 hbx
      have HW := hide hW
      rw [← hW]
      clear hW hbx z0 z1 zf y0 y1 yf
      refine bodyPost_ret (v := .agg #[.slice a1 n1 c1, .slice a2 n2 c2]) (by simp [results, Tryz.results34, go_sem, q0, q1]) rfl ⟨_, rfl, ?_, ?_⟩
      · rw [HW.out]
        exact (HDk.out.setBox KR.out 0 _).setBox (heap_setCell_same _ _ 0 _ _ (.slice a1 n1 c1) KR.out) 1 _
      · rw [HW.out]
        exact (HB.out.setCell (p := ⟨w.heap.size + 1, 0, none⟩) (by simp) _).setCell (p := ⟨w.heap.size + 1, 1, none⟩) (by simp) _

end Go.Proofs.YtjnpndfpajjihabGreat
