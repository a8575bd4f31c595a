/-
  The walk of the statements' own run: a disk behind steps.
  The texts that a place may have behind a crash, as plain data. Nothing of the program is proved here.
  What a write and a flush make of a good disk: plain facts, nothing of the program.
-/
import Derived.Test.YtjnpndfpajjihabGreatGrSealWhole25
import Derived.Test.YtjnpndfpajjihabGreatERows
import Derived.Test.YtjnpndfpajjihabGreatGrSealWhole15
import Derived.Test.YtjnpndfpajjihabGreatXScan
import Derived.Test.YtjnpndfpajjihabGreatGrSealWhole23
namespace Go.Proofs.YtjnpndfpajjihabGreat
open Go.RowKit

/-- A disk behind a step, and behind steps. -/
def stepK (d : Dk) (s : St) : Dk := if s.1 = 2 then flushK d else putK d s.2.1 s.2.2
def runK (d : Dk) (l : List St) : Dk := l.foldl stepK d
theorem runK_take {l : List St} {k : Nat} {s : St} (h : l[k]? = some s) (d : Dk) : runK d (l.take (k + 1)) = stepK (runK d (l.take k)) s := by
  rw [List.take_add_one, h, runK, List.foldl_append]; rfl
theorem st_at {l : List St} {k : Nat} (h : k < l.length) : l[k]? = some (l.getD k st0) := by
  rw [List.getD, List.getElem?_eq_getElem h]; rfl

/-- A block of two slices is no row of texts or writes. -/
theorem IsDk.setBox {w : World} {v : Value} {d : Dk} {B : Nat} {a1 a2 : Option Addr} {n1 c1 n2 c2 : Nat} {t : TypeId} (h : IsDk w v d) (hB : w.heap[B]? = some (.cells #[.slice a1 n1 c1, .slice a2 n2 c2] t (0, 0))) (k : Nat) (u : Value) : IsDk (w.setCell ⟨B, k, none⟩ u) v d := by
  obtain ⟨a, c, a', c', rfl, hS, hW, l1, l2⟩ := h
  have hcell : ∀ o x, w.cell? ⟨B, o, none⟩ = some x → x = .slice a1 n1 c1 ∨ x = .slice a2 n2 c2 := by
    intro o x hx
    rw [cell_of_row w _ _ _ _ _ hB] at hx
    match o, hx with
    | 0, hx => simp at hx; exact .inl hx.symm
    | 1, hx => simp at hx; exact .inr hx.symm
    | o + 2, hx => simp at hx
  refine ⟨a, c, a', c', rfl, ?_, ?_, l1, l2⟩
  · rcases hS with e | ⟨b, off, rfl, hlt, hc⟩
    · exact .inl e
    · by_cases h0 : d.safe.length = 0
      · exact .inl (List.eq_nil_of_length_eq_zero h0)
      · have hne : b ≠ B := by
          intro e
          subst e
          rcases hcell _ _ (hc 0 (by omega)) with h | h <;> cases h
        exact .inr ⟨b, off, rfl, by simpa [World.setCell] using hlt, fun i hi => cellSet (hc i hi) (by simp; exact hne)⟩
  · rcases hW with e | ⟨b, off, rfl, hlt, hc⟩
    · exact .inl e
    · by_cases h0 : d.wr.length = 0
      · exact .inl (List.eq_nil_of_length_eq_zero h0)
      · have hne : b ≠ B := by
          intro e
          subst e
          rcases hcell _ _ (hc 0 (by omega)).1 with h | h <;> cases h
        exact .inr ⟨b, off, rfl, by simpa [World.setCell] using hlt, fun i hi => ⟨cellSet (hc i hi).1 (by simp; exact hne), cellSet (hc i hi).2 (by simp; exact hne)⟩⟩
theorem stored2 {w : World} {B : Nat} {z0 z1 : Value} {t : TypeId} (h : w.heap[B]? = some (.cells #[z0, z1] t (0, 0))) (v0 v1 : Value) :
    ((w.setCell ⟨B, 0, none⟩ v0).setCell ⟨B, 1, none⟩ v1).heap[B]? = some (.cells #[v0, v1] t (0, 0)) := by
  have h0 := heap_setCell_same w B 0 _ _ v0 h
  exact heap_setCell_same _ B 1 _ _ v1 h0

set_option maxHeartbeats 4000000 in
set_option maxRecDepth 100000 in
theorem run_any (v : Value) (d : Dk) (a : Option Addr) (c : Nat) (l : List St) (w : World) (h : IsDk w v d) (hS : SegSt w a l) (hn : l.length ≤ 1000) :
    Calls Tryz.prog 34 #[v, .slice a l.length c] w fun e w' => ∃ v2, e = .returned v2 ∧ IsDk w' v2 (runK d l) ∧ Below w.heap.size w w' := by
  have HD := hide h
  have HS := hide hS
  obtain ⟨x, cx, y, cy, rfl, _, _, _, _⟩ := h
  clear hS
  go_enter Tryz.func34, Tryz.ntmps34
  go_wp2
  go_loopw [9] (fun i wr => ∃ (k : Nat) (a1 : Option Addr) (n1 c1 : Nat) (a2 : Option Addr) (n2 c2 : Nat), k ≤ l.length ∧ i = .int .i64 (k : Int) ∧ Hid (wr.heap[w.heap.size]? = some (.cells #[.slice a1 n1 c1, .slice a2 n2 c2] 58 (0, 0))) ∧ Hid (wr.heap[w.heap.size + 1]? = some (.cells #[.slice none 0 0, .slice none 0 0] 58 (0, 0))) ∧ Hid (IsDk wr (.agg #[.slice a1 n1 c1, .slice a2 n2 c2]) (runK d (l.take k))) ∧ w.heap.size + 1 < wr.heap.size ∧ Hid (Below w.heap.size w wr)) (fun i _ => l.length - (intOf i).toNat)
  case atStart => exact ⟨0, x, _, cx, y, _, cy, Nat.zero_le _, rfl, two1 (Below.refl _ _), two2 (Below.refl _ _), HD.out.below (bthen (below1 _ _) (below1 _ _)), by simp, bthen (below1 _ _) (below1 _ _)⟩
  case round =>
    obtain ⟨k, a1, n1, c1, a2, n2, c2, hk, rfl, KB, KR, HDk, hsz, HB⟩ := hrel
    have hsz0 : w.heap.size < wr.heap.size := by omega
    by_cases hlt : k < l.length
    · obtain ⟨b, off, rfl, hb, hc⟩ := HS.out.resolve_left (fun e => absurd hlt (by rw [e]; exact Nat.not_lt_zero _))
      obtain ⟨s, hs⟩ : ∃ s, s = l.getD k st0 := ⟨_, rfl⟩
      have HRK := hide (runK_take (st_at hlt) d)
      obtain ⟨g0, g1, g2⟩ := hc k hlt
      rw [← hs] at g0 g1 g2 HRK
      have x0 := cellKeep HB.out hb g0
      have x1 := cellKeep HB.out hb g1
      have x2 := cellKeep HB.out hb g2
      have hlt' : (k : Int) < (l.length : Int) := by omega
      clear hc g0 g1 g2 hs
      obtain ⟨⟨y0, y1⟩, yf⟩ := box2 KB.out
      generalize runK d (l.take k) = D at *
      by_cases hf : s.1 = 2
      · have HST : Hid (runK d (l.take (k + 1)) = flushK D) := by rw [Hid, HRK.out, stepK, if_pos hf]
        clear HRK
        rw [hf] at x0
        go_wp2_with fail
        refine (flush_any _ D _ (HDk.out.below (below1 _ _))).mono ?_
        rintro e w2 ⟨v2, rfl, hD2, _, hb2⟩
        have hb12 := bthen (below1 _ _) hb2
        have HD2 := hide hD2
        obtain ⟨e1, e2, e3, e4, rfl, _, _, _, _⟩ := hD2
        have KB2 := hide (boxKeep hb12 hsz0 KB.out)
        have KR2 := hide (boxKeep hb12 hsz KR.out)
        have hs2 := hb12.size
        have HB2 := hide (bthen HB.out hb12)
        clear hb2 hb12 KB KR HB y0 y1 yf x0 x1 x2
        obtain ⟨⟨y0, y1⟩, yf⟩ := box2 KB2.out
        have hz2 : w.heap.size < w2.heap.size := by omega
        go_wp2
        go_roundw
        case rel =>
          refine ⟨k + 1, e1, _, e2, e3, _, e4, by omega, by go_num, stored2 KB2.out _ _, ?_, ?_, by simp [World.setCell]; omega, (HB2.out.setCell (p := ⟨w.heap.size, 0, none⟩) (by simp) _).setCell (p := ⟨w.heap.size, 1, none⟩) (by simp) _⟩
          · exact (box_setNe (p := ⟨w.heap.size, 1, none⟩) (by simp) _).trans ((box_setNe (p := ⟨w.heap.size, 0, none⟩) (by simp) _).trans KR2.out)
          · rw [HST.out]
            exact (HD2.out.setBox KB2.out 0 _).setBox (heap_setCell_same _ _ 0 _ _ (.slice e1 (flushK D).safe.length e2) KB2.out) 1 _
        case measure => simp [intOf]; omega
      · have HST : Hid (runK d (l.take (k + 1)) = putK D s.2.1 s.2.2) := by rw [Hid, HRK.out, stepK, if_neg hf]
        clear HRK
        have hf' : (s.1 == 2) = false := by simpa using hf
        go_wp2_with fail
        refine (put_any _ D s.2.1 s.2.2 _ (HDk.out.below (below1 _ _))).mono ?_
        rintro e w2 ⟨v2, rfl, hD2, _, hb2⟩
        have hb12 := bthen (below1 _ _) hb2
        have HD2 := hide hD2
        obtain ⟨e1, e2, e3, e4, rfl, _, _, _, _⟩ := hD2
        have KB2 := hide (boxKeep hb12 hsz0 KB.out)
        have KR2 := hide (boxKeep hb12 hsz KR.out)
        have hs2 := hb12.size
        have HB2 := hide (bthen HB.out hb12)
        clear hb2 hb12 KB KR HB y0 y1 yf x0 x1 x2
        obtain ⟨⟨y0, y1⟩, yf⟩ := box2 KB2.out
        have hz2 : w.heap.size < w2.heap.size := by omega
        go_wp2
        go_roundw
        case rel =>
          refine ⟨k + 1, e1, _, e2, e3, _, e4, by omega, by go_num, stored2 KB2.out _ _, ?_, ?_, by simp [World.setCell]; omega, (HB2.out.setCell (p := ⟨w.heap.size, 0, none⟩) (by simp) _).setCell (p := ⟨w.heap.size, 1, none⟩) (by simp) _⟩
          · exact (box_setNe (p := ⟨w.heap.size, 1, none⟩) (by simp) _).trans ((box_setNe (p := ⟨w.heap.size, 0, none⟩) (by simp) _).trans KR2.out)
          · rw [HST.out]
            exact (HD2.out.setBox KB2.out 0 _).setBox (heap_setCell_same _ _ 0 _ _ (.slice e1 (putK D s.2.1 s.2.2).safe.length e2) KB2.out) 1 _
        case measure => simp [intOf]; omega
    · have e : k = l.length := by omega
      subst e
      rw [List.take_length] at HDk
      obtain ⟨⟨y0, y1⟩, yf⟩ := box2 KB.out
      obtain ⟨⟨z0, z1⟩, zf⟩ := box2 KR.out
      go_wp2
      obtain ⟨W, hW⟩ : ∃ W, W = ((wr.setCell ⟨w.heap.size + 1, 0, none⟩ (.slice a1 n1 c1)).setCell ⟨w.heap.size + 1, 1, none⟩ (.slice a2 n2 c2)) := ⟨_, rfl⟩
      have hbx := stored2 KR.out (.slice a1 n1 c1) (.slice a2 n2 c2)
      rw [← hW] at hbx
      obtain ⟨⟨q0, q1⟩, _⟩ := box2 hbx
      have HW := hide hW
      rw [← hW]
      clear hW hbx z0 z1 zf y0 y1 yf
      refine bodyPost_ret (v := .agg #[.slice a1 n1 c1, .slice a2 n2 c2]) (by simp [results, Tryz.results34, go_sem, q0, q1]) rfl ⟨_, rfl, ?_, ?_⟩
      · rw [HW.out]
        exact (HDk.out.setBox KR.out 0 _).setBox (heap_setCell_same _ _ 0 _ _ (.slice a1 n1 c1) KR.out) 1 _
      · rw [HW.out]
        exact (HB.out.setCell (p := ⟨w.heap.size + 1, 0, none⟩) (by simp) _).setCell (p := ⟨w.heap.size + 1, 1, none⟩) (by simp) _

end Go.Proofs.YtjnpndfpajjihabGreat

namespace Go.Proofs.YtjnpndfpajjihabGreat
open Go.RowKit

/-- The texts of these writes to a place. -/
def atPlace (n : Int) : List (Int × ByteArray) → List ByteArray
  | [] => []
  | x :: r => if x.1 = n then x.2 :: atPlace n r else atPlace n r
/-- The texts that a place may have: the safe one, and behind it those of its writes. -/
def waysTo (d : Dk) (n k : Nat) : List ByteArray := d.safe.getD n ByteArray.empty :: atPlace n (d.wr.take k)
def ways (d : Dk) (n : Nat) : List ByteArray := d.safe.getD n ByteArray.empty :: atPlace n d.wr

theorem atPlace_snoc (n : Int) (l : List (Int × ByteArray)) (x : Int × ByteArray) : atPlace n (l ++ [x]) = if x.1 = n then atPlace n l ++ [x.2] else atPlace n l := by
  induction l with
  | nil => simp [atPlace]
  | cons y r ih => by_cases h : y.1 = n <;> by_cases h' : x.1 = n <;> simp [atPlace, h, h'] <;> simpa [h'] using ih
theorem atPlace_length (n : Int) (l : List (Int × ByteArray)) : (atPlace n l).length ≤ l.length := by
  induction l with
  | nil => simp [atPlace]
  | cons y r ih => by_cases h : y.1 = n <;> simp [atPlace, h] <;> omega
theorem waysTo_hit (d : Dk) (n k : Nat) (x : Int × ByteArray) (h : d.wr[k]? = some x) (hx : x.1 = n) : waysTo d n (k + 1) = waysTo d n k ++ [x.2] := by
  rw [waysTo, List.take_add_one, h]
  simp only [Option.toList_some]
  rw [atPlace_snoc, if_pos hx]; rfl
theorem waysTo_miss (d : Dk) (n k : Nat) (x : Int × ByteArray) (h : d.wr[k]? = some x) (hx : ¬ x.1 = n) : waysTo d n (k + 1) = waysTo d n k := by
  rw [waysTo, List.take_add_one, h]
  simp only [Option.toList_some]
  rw [atPlace_snoc, if_neg hx]; rfl
theorem waysTo_length (d : Dk) (n k : Nat) (h : d.wr.length ≤ 200) : 1 ≤ (waysTo d n k).length ∧ (waysTo d n k).length ≤ 201 := by
  have := atPlace_length n (d.wr.take k)
  have h2 : (d.wr.take k).length ≤ d.wr.length := by rw [List.length_take]; omega
  simp only [waysTo, List.length_cons]
  omega


end Go.Proofs.YtjnpndfpajjihabGreat

namespace Go.Proofs.YtjnpndfpajjihabGreat
open Go.RowKit

theorem lastIn_fits (n : Int) (z : ByteArray) (l : List (Int × ByteArray)) (hz : fitsB z = true) (h : l.all wrB = true) : fitsB (lastIn n z l) = true := by
  induction l generalizing z with
  | nil => exact hz
  | cons x r ih =>
    simp only [List.all_cons, Bool.and_eq_true] at h
    refine ih _ ?_ h.2
    by_cases e : x.1 = n
    · rw [if_pos e]; have := h.1; simp only [wrB, Bool.and_eq_true] at this; exact this.2
    · rw [if_neg e]; exact hz

theorem good_parts {d : Dk} (h : goodB d = true) : d.safe.length = 37 ∧ d.wr.length ≤ 200 ∧ d.safe.all fitsB = true ∧ d.wr.all wrB = true := by
  simp only [goodB, Bool.and_eq_true, decide_eq_true_eq] at h
  exact ⟨h.1.1.1, h.1.1.2, h.1.2, h.2⟩

theorem safe_fits {d : Dk} (h : goodB d = true) (k : Nat) (hk : k < 37) : fitsB (d.safe.getD k ByteArray.empty) = true := by
  obtain ⟨h1, _, h3, _⟩ := good_parts h
  rw [List.all_eq_true] at h3
  exact h3 _ (List.mem_of_getElem? (getD_some d.safe k ByteArray.empty (by omega)))

theorem last_fits {d : Dk} (h : goodB d = true) (k : Nat) (hk : k < 37) : fitsB (lastOf d k) = true :=
  lastIn_fits _ _ _ (by rw [Int.toNat_natCast]; exact safe_fits h k hk) (good_parts h).2.2.2

theorem atPlace_mem (n : Int) (l : List (Int × ByteArray)) (s : ByteArray) (h : s ∈ atPlace n l) : (n, s) ∈ l := by
  induction l with
  | nil => simp [atPlace] at h
  | cons x r ih =>
    by_cases e : x.1 = n
    · simp only [atPlace, if_pos e, List.mem_cons] at h
      rcases h with rfl | h
      · rw [← e]; simp
      · exact List.mem_cons_of_mem _ (ih h)
    · simp only [atPlace, if_neg e] at h
      exact List.mem_cons_of_mem _ (ih h)

theorem ways_mem {d : Dk} {n : Nat} {s : ByteArray} (h : s ∈ ways d n) : s = d.safe.getD n ByteArray.empty ∨ ((n : Int), s) ∈ d.wr := by
  simp only [ways, List.mem_cons] at h
  rcases h with h | h
  · exact .inl h
  · exact .inr (atPlace_mem _ _ _ h)

theorem ways_fits {d : Dk} (h : goodB d = true) {k : Nat} (hk : k < 37) {s : ByteArray} (hs : s ∈ ways d k) : fitsB s = true := by
  rcases ways_mem hs with rfl | hm
  · exact safe_fits h k hk
  · have := (good_parts h).2.2.2
    rw [List.all_eq_true] at this
    have := this _ hm
    simp only [wrB, Bool.and_eq_true] at this
    exact this.2

theorem all_of_getD {l : List ByteArray} {f : ByteArray → Bool} (h : ∀ k, k < l.length → f (l.getD k ByteArray.empty) = true) : l.all f = true := by
  rw [List.all_eq_true]
  intro x hx
  obtain ⟨k, hk⟩ := List.getElem?_of_mem hx
  have hlt := (List.getElem?_eq_some_iff.1 hk).1
  have := h k hlt
  rwa [List.getD, hk] at this

theorem good_safe {l : List ByteArray} (hl : l.length = 37) (h : ∀ k, k < 37 → fitsB (l.getD k ByteArray.empty) = true) : goodB ⟨l, []⟩ = true := by
  simp only [goodB, hl, all_of_getD (l := l) (f := fitsB) (fun k hk => h k (by omega))]
  rfl

theorem flush_at {d : Dk} (k m : Nat) (hk : k < m) : (flushL d m).getD k ByteArray.empty = lastOf d k := by
  rw [flushL, List.getD, List.getElem?_map, List.getElem?_range hk]; rfl

theorem flush_good {d : Dk} (h : goodB d = true) : goodB ⟨flushL d 37, []⟩ = true :=
  good_safe (flushL_length d 37) fun k hk => by rw [flush_at k 37 hk]; exact last_fits h k hk

theorem place_of {k : Nat} (hk : k < 37) : placeB (k : Int) = true := by simp [placeB]; omega

theorem read_safe {l : List ByteArray} (h : goodB ⟨l, []⟩ = true) {k : Nat} (hk : k < 37) : readT ⟨l, []⟩ k = l.getD k ByteArray.empty := by
  rw [readT, h, place_of hk]
  show lastOf ⟨l, []⟩ k = _
  rw [lastOf, Int.toNat_natCast]; rfl

theorem read_flush {d : Dk} (h : goodB d = true) {k : Nat} (hk : k < 37) : readT ⟨flushL d 37, []⟩ k = readT d k := by
  rw [read_safe (flush_good h) hk, flush_at k 37 hk, readT, h, place_of hk]; rfl

theorem range_getD (l : List ByteArray) : (List.range l.length).map (fun k => l.getD k ByteArray.empty) = l := by
  apply List.ext_getElem?
  intro i
  by_cases hi : i < l.length
  · rw [List.getElem?_map, List.getElem?_range hi, getD_some l i ByteArray.empty hi]; rfl
  · rw [List.getElem?_eq_none (by simpa using hi), List.getElem?_eq_none (by omega)]
theorem put_good {d : Dk} {n : Int} {s : ByteArray} (h : putE d n s = 0) : goodB d = true ∧ placeB n = true ∧ fitsB s = true ∧ ¬ d.wr.length = 200 := by
  unfold putE at h
  by_cases h1 : (goodB d && placeB n) = true
  · rw [if_pos h1] at h
    by_cases h2 : fitsB s = true
    · rw [if_pos h2] at h
      by_cases h3 : d.wr.length = 200
      · rw [if_pos h3] at h; cases h
      · simp at h1; exact ⟨h1.1, h1.2, h2, h3⟩
    · rw [if_neg h2] at h; cases h
  · rw [if_neg h1] at h; cases h

theorem putK_ok {d : Dk} {n : Int} {s : ByteArray} (h : putE d n s = 0) : putK d n s = ⟨d.safe, d.wr ++ [(n, s)]⟩ := by rw [putK, if_pos h]
theorem putK_no {d : Dk} {n : Int} {s : ByteArray} (h : putE d n s ≠ 0) : putK d n s = d := by rw [putK, if_neg h]

theorem good_put {d : Dk} {n : Int} {s : ByteArray} (h : putE d n s = 0) : goodB (putK d n s) = true := by
  rw [putK_ok h]
  obtain ⟨hg, hp, hf, hl⟩ := put_good h
  simp only [goodB, Bool.and_eq_true, decide_eq_true_eq] at hg ⊢
  obtain ⟨⟨⟨h1, h2⟩, h3⟩, h4⟩ := hg
  refine ⟨⟨⟨h1, ?_⟩, h3⟩, ?_⟩
  · simp; omega
  · rw [List.all_append, h4]; simp [wrB, hp, hf]

theorem last_put (d : Dk) (n m : Int) (s : ByteArray) : lastOf ⟨d.safe, d.wr ++ [(n, s)]⟩ m = if n = m then s else lastOf d m := lastIn_snoc _ _ _ _

theorem read_put {d : Dk} {n : Int} {s : ByteArray} (h : putE d n s = 0) : readT (putK d n s) n = s ∧ readE (putK d n s) n = 0 := by
  have hg := good_put h
  have hp := (put_good h).2.1
  rw [readT, readE, hg, hp]
  refine ⟨?_, rfl⟩
  rw [putK_ok h]
  simp [last_put]

theorem read_other {d : Dk} {n : Int} {s : ByteArray} (h : putE d n s = 0) (m : Int) : readE (putK d n s) m = readE d m ∧ (m ≠ n → readT (putK d n s) m = readT d m) := by
  have hg := good_put h
  have hg' := (put_good h).1
  rw [readT, readE, readT, readE, hg, hg']
  refine ⟨rfl, fun hne => ?_⟩
  have e : lastOf (putK d n s) m = lastOf d m := by rw [putK_ok h, last_put, if_neg (fun e => hne e.symm)]
  rw [e]


end Go.Proofs.YtjnpndfpajjihabGreat
