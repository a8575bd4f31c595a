/-
  The walk of slices.Repeat at []string, of one text thirty-seven times; then of disk.New.
  The walk of disk.Flush.
  What a write and a flush make of a good disk: plain facts, nothing of the program.
  The walk of disk.choices: the texts that a place may have behind a crash.
  The walk of disk.Crash.
  What a crash makes of a good disk: plain facts, nothing of the program.
-/
import Derived.Test.YtjnpndfpajjihabGreatFit
import Derived.Laws.CopyOwn
import Derived.Test.YtjnpndfpajjihabGreatGrSealWhole21
namespace Go.Proofs.YtjnpndfpajjihabGreat
open Go.RowKit

/-- A row of which the first n cells are filled. -/
def row (s : ByteArray) (n m : Nat) : List Value := List.replicate n (.string s) ++ List.replicate m (.string ⟨#[]⟩)

/-- So many copies. -/
def reps (s : ByteArray) (k : Nat) : List Value := List.replicate k (.string s)
theorem reps_length (s : ByteArray) (k : Nat) : (reps s k).length = k := by simp [reps]
theorem reps_at {s : ByteArray} {k j : Nat} {u : Value} (h : (reps s k)[j]? = some u) : j < k ∧ u = .string s := by
  rw [reps, List.getElem?_replicate] at h
  split at h
  · exact ⟨by assumption, by cases h; rfl⟩
  · cases h

theorem row_length (s : ByteArray) (n m : Nat) : (row s n m).length = n + m := by simp [row]
theorem row_splice (s : ByteArray) (n m k : Nat) : splice (row s n m) n (reps s k) = row s (n + k) (m - k) := by
  have e1 : (row s n m).take n = List.replicate n (.string s) := by simp [row]
  have e2 : (row s n m).drop (n + k) = List.replicate (m - k) (.string ⟨#[]⟩) := by simp [row, List.drop_append]
  rw [splice, e1, reps_length, e2, row, reps, ← List.append_assoc, List.replicate_append_replicate]
theorem row_head (s : ByteArray) (n m j : Nat) (h : j < n) : (row s n m)[j]? = some (.string s) := by
  rw [row, List.getElem?_append_left (by simpa using h)]
  simp [h]
theorem rep_one (s : ByteArray) (k : Nat) : ∀ u ∈ reps s k, u.oneCell' = true := by
  intro u hu
  rw [List.eq_of_mem_replicate hu]
  rfl

theorem row_src {s : ByteArray} {wr : World} {B n m k : Nat} (HG : Hid (wr.heap[B]? = some (.cells (row s n m).toArray 9 (0, 0)))) (hk : k ≤ n) :
    ∀ j v, (reps s k)[j]? = some v → wr.cell? ((⟨B, 0, none⟩ : Addr).add j) = some v := by
  intro j v hj
  obtain ⟨hlt, rfl⟩ := reps_at hj
  rw [Addr.add_lit, Nat.zero_add, cell_of_row wr B j _ 9 (0, 0) HG.out]
  simpa using row_head s n m j (by omega)

theorem sizeS : (Tryz.prog.info? 9).map (fun i => i.size) = some 1 := by kernel_rfl

theorem mul_1_37 (w : World) : Calls Tryz.prog 135 #[.int .u64 1, .int .u64 37] w fun e w' => e = .returned (.tuple #[.int .u64 0, .int .u64 37]) ∧ w = w' := by
  refine (Tryz.bits_Mul 1 37 (by decide) (by decide) w).mono ?_
  rintro e w' ⟨rfl, rfl⟩
  exact ⟨rfl, rfl⟩

theorem make37 (s : ByteArray) (w : World) : (Instr.makeSlice 55 (.int .i64 37) (.int .i64 37)).run Tryz.prog w = .ok (.slice (some ⟨w.heap.size, 0, none⟩) 37 37) (w.alloc (.cells (row s 0 37).toArray 9)) := by kernel_rfl

/-- A new disk as plain data. -/
def newK : Dk := ⟨List.replicate 37 (fitT ⟨#[]⟩), []⟩
end Go.Proofs.YtjnpndfpajjihabGreat

namespace Go.Proofs.YtjnpndfpajjihabGreat
open Go.RowKit

/-- A row of which the first cells are these texts. -/
def fill (l : List ByteArray) (m : Nat) : List Value := cellsS l ++ List.replicate m (.string ⟨#[]⟩)

theorem fill_set (l : List ByteArray) (m : Nat) (s : ByteArray) : (fill l (m + 1)).set l.length (.string s) = fill (l ++ [s]) m := by
  have hl : (cellsS l).length = l.length := by simp [cellsS]
  rw [fill, List.set_append_right _ _ (by omega), hl, Nat.sub_self, List.replicate_succ, List.set_cons_zero, fill, cellsS_append, List.append_assoc]
  rfl
theorem fill_full (l : List ByteArray) : fill l 0 = cellsS l := by simp [fill]
theorem fill_none (m : Nat) : fill [] m = List.replicate m (.string ⟨#[]⟩) := rfl
theorem fill_at (l : List ByteArray) (m k : Nat) (h : k < l.length + m) : ∃ u, (fill l m)[k]? = some u := by
  have : k < (fill l m).length := by simp [fill, cellsS]; omega
  exact ⟨_, List.getElem?_eq_getElem this⟩

theorem made37 (w : World) : (Instr.makeSlice 55 (.int .i64 37) (.int .i64 37)).run Tryz.prog w = .ok (.slice (some ⟨w.heap.size, 0, none⟩) 37 37) (w.alloc (.cells (fill [] 37).toArray 9)) := by kernel_rfl

theorem made_owns (w : World) (base : Nat) (hb : base ≤ w.heap.size) : (w.alloc (.cells (fill [] 37).toArray 9)).ownsRow base 9 1 (.slice (some ⟨w.heap.size, 0, none⟩) 37 37) 37 (fill [] 37) := by
  have := World.ownsRow_lit (e := 9) (size := 1) w (fill [] 37).toArray 37 hb (by decide) (by simp [fill, cellsS])
  simpa using this

/-- One text more in the row. -/
theorem fill_step {w : World} {base g : Nat} {l : List ByteArray} {m : Nat} (h : w.ownsRow base 9 1 (.slice (some ⟨g, 0, none⟩) 37 37) 37 (fill l (m + 1))) (s : ByteArray) :
    (w.setCell ⟨g, l.length, none⟩ (.string s)).ownsRow base 9 1 (.slice (some ⟨g, 0, none⟩) 37 37) 37 (fill (l ++ [s]) m) := by
  have := (h.stored l.length (.string s)).1
  rwa [fill_set] at this

theorem fill_cell {w : World} {base g : Nat} {l : List ByteArray} {m : Nat} (h : w.ownsRow base 9 1 (.slice (some ⟨g, 0, none⟩) 37 37) 37 (fill l (m + 1))) :
    (∃ u, w.cell? ⟨g, l.length, none⟩ = some u) ∧ w.frozen? ⟨g, l.length, none⟩ = false ∧ base ≤ g ∧ g < w.heap.size ∧ l.length + (m + 1) = 37 := by
  have hlen : l.length + (m + 1) = 37 := by have := h.1; simp [fill, cellsS] at this; omega
  obtain ⟨u, hu⟩ := fill_at l (m + 1) l.length (by omega)
  have hlt := h.lt g rfl
  exact ⟨⟨u, by rw [h.cellAt _ (by omega)]; exact hu⟩, h.frozenAt _, hlt.1, hlt.2, hlen⟩

/-- What Flush answers. -/
def flushL (d : Dk) (k : Nat) : List ByteArray := (List.range k).map fun n : Nat => lastOf d (n : Int)
def flushK (d : Dk) : Dk := if goodB d = true then ⟨flushL d 37, []⟩ else d
def flushE (d : Dk) : Int := if goodB d = true then 0 else 2

theorem flushL_length (d : Dk) (k : Nat) : (flushL d k).length = k := by simp [flushL]
theorem flushL_succ (d : Dk) (k : Nat) : flushL d (k + 1) = flushL d k ++ [lastOf d (k : Int)] := by simp [flushL, List.range_succ]

set_option maxHeartbeats 1000000 in
theorem flush_no (v : Value) (d : Dk) (w : World) (h : IsDk w v d) (hg : goodB d = false) :
    Calls Tryz.prog 27 #[v] w fun e w' => e = .returned (.tuple #[v, .int .i64 2]) ∧ Below w.heap.size w w' := by
  have HI : Hid (IsDk w v d) := h
  obtain ⟨a, c, a', c', rfl, _, _, _, _⟩ := h
  go_enter Tryz.func27, Tryz.ntmps27
  go_wp2_with fail
  refine (good_any _ d _ (HI.out.below (bthen (below1 _ _) (below1 _ _)))).mono ?_
  rintro e w1 ⟨rfl, hb1⟩
  obtain ⟨hc1, hf1⟩ := bcell hb1
  have hs1 : w.heap.size + 1 < w1.heap.size := by have := hb1.size; simp at this; omega
  go_wp2
  refine bodyPost_ret (v := .tuple #[.agg #[.slice a d.safe.length c, .slice a' d.wr.length c'], .int .i64 2]) (by simp [results, Tryz.results27, go_sem, hc1]) rfl ⟨rfl, ?_⟩
  have hb2 : Below w.heap.size w w1 := bthen (bthen (below1 _ _) (below1 _ _)) hb1
  exact (hb2.setCell (by simp) _).setCell (by simp) _

set_option maxHeartbeats 2000000 in
set_option maxRecDepth 100000 in
theorem flush_ok (v : Value) (d : Dk) (w : World) (h : IsDk w v d) (hg : goodB d = true) :
    Calls Tryz.prog 27 #[v] w fun e w' => ∃ v2, e = .returned (.tuple #[v2, .int .i64 0]) ∧ IsDk w' v2 ⟨flushL d 37, []⟩ ∧ Below w.heap.size w w' ∧ DkFrom w.heap.size v2 := by
  have HI : Hid (IsDk w v d) := h
  obtain ⟨a, c, a', c', rfl, _, _, _, _⟩ := h
  have H37 := hide (good_len37 hg)
  have hmk := made37
  go_enter Tryz.func27, Tryz.ntmps27
  go_wp2_with fail
  refine (good_any _ d _ (HI.out.below (bthen (below1 _ _) (below1 _ _)))).mono ?_
  rintro e w1 ⟨rfl, hb1⟩
  have hs1 : w.heap.size + 1 < w1.heap.size := by have := hb1.size; simp at this; omega
  have x0 := cellKeep hb1 (b := w.heap.size) (o := 0) (v := .slice a d.safe.length c) (by simp; omega) (by simp [go_sem])
  have x1 := cellKeep hb1 (b := w.heap.size) (o := 1) (v := .slice a' d.wr.length c') (by simp; omega) (by simp [go_sem])
  have y0 := cellKeep hb1 (b := w.heap.size + 1) (o := 0) (v := .slice none 0 0) (by simp) (by simp [go_sem])
  have y1 := cellKeep hb1 (b := w.heap.size + 1) (o := 1) (v := .slice none 0 0) (by simp) (by simp [go_sem])
  have f0 := frozKeep hb1 (b := w.heap.size + 1) (o := 0) (v := false) (by simp) (by simp [go_sem])
  have f1 := frozKeep hb1 (b := w.heap.size + 1) (o := 1) (v := false) (by simp) (by simp [go_sem])
  have hb2 : Below w.heap.size w w1 := bthen (bthen (below1 _ _) (below1 _ _)) hb1
  clear hb1
  go_wp2
  go_loopw [13] (fun i wr => ∃ k : Nat, k ≤ 37 ∧ i = .int .i64 k ∧ Hid (wr.ownsRow w1.heap.size 9 1 (.slice (some ⟨w1.heap.size, 0, none⟩) 37 37) 37 (fill (flushL d k) (37 - k))) ∧ Below w1.heap.size w1 wr) (fun i _ => 37 - (intOf i).toNat)
  case atStart => exact ⟨0, Nat.zero_le _, rfl, made_owns _ _ (Nat.le_refl _), below1 _ _⟩
  case round =>
    obtain ⟨k, hk, rfl, hown, hbr⟩ := hrel
    have hsr := hbr.size
    by_cases hlt : k < 37
    · have hlt' : (k : Int) < 37 := by omega
      have z0 := cellKeep hbr (by omega) x0
      have z1 := cellKeep hbr (by omega) x1
      clear hmk
      go_wp2_with fail
      refine (last_any _ d k _ (HI.out.below (bthen hb2 hbr)) H37.out.1 hlt H37.out.2).mono ?_
      rintro e w3 ⟨rfl, hb3⟩
      have hown3 := owns_keep hown.out hb3
      rw [show 37 - k = (36 - k) + 1 from by omega] at hown3
      have hc := fill_cell hown3
      have hst := fill_step hown3 (lastOf d k)
      rw [flushL_length] at hc hst
      obtain ⟨⟨u, hu⟩, hfz, hg1, hg2, _⟩ := hc
      have HST := hide hst
      clear hown3 hst hown z0 z1
      go_wp2
      go_roundw
      case rel =>
        refine ⟨k + 1, by omega, by go_num, ?_, ?_⟩
        · rw [flushL_succ, show 37 - (k + 1) = 36 - k from by omega]; exact HST
        · exact (bthen hbr hb3).setCell (by simp) _
      case measure => simp [intOf]; omega
    · have e : k = 37 := by omega
      have hown' := hown.out
      rw [e, show 37 - 37 = 0 from rfl, fill_full] at hown'
      obtain ⟨a2, c2, hv2, hS2, hA2⟩ := SegS.of_owns hown'
      have hA2' := hide hA2
      have HS2 := hide hS2
      have y0' := cellKeep hbr (by omega) y0
      have y1' := cellKeep hbr (by omega) y1
      have f0' := frozKeep hbr (by omega) f0
      have f1' := frozKeep hbr (by omega) f1
      rw [flushL_length] at hv2
      simp only [Value.slice.injEq] at hv2
      obtain ⟨ha2, _, hc2⟩ := hv2
      subst ha2 hc2
      clear hown hown' hS2 hA2 y0 y1 f0 f1 x0 x1 hmk e
      go_wp2
      refine bodyPost_ret (v := .tuple #[.agg #[.slice (some ⟨w1.heap.size, 0, none⟩) 37 37, .slice none 0 0], .int .i64 0]) (by simp [results, Tryz.results27, go_sem, y0', y1']) rfl ⟨_, rfl, ⟨some ⟨w1.heap.size, 0, none⟩, 37, none, 0, ?_, ?_, .inl rfl, ?_, ?_⟩, ?_, ⟨_, _, _, _, _, _, rfl, fun b off e => by cases e; omega, fun _ _ e => by cases e⟩⟩
      · simp only [flushL_length]; rfl
      · exact (HS2.out.setCell hA2'.out (by simp; omega) _).setCell hA2'.out (by simp; omega) _
      · show (flushL d 37).length ≤ maxLen; rw [flushL_length]; decide
      · exact Nat.zero_le _
      · exact ((bthen hb2 hbr).setCell (by simp) _).setCell (by simp) _

/-- disk.Flush: each place as Read says, all safe, no writes; or an error, and the disk as it was. -/
theorem flush_from (v : Value) (d : Dk) (w : World) (h : IsDk w v d) :
    Calls Tryz.prog 27 #[v] w fun e w' => ∃ v2, e = .returned (.tuple #[v2, .int .i64 (flushE d)]) ∧ IsDk w' v2 (flushK d) ∧ (flushE d ≠ 0 → v2 = v) ∧ Below w.heap.size w w' ∧ (v2 = v ∨ DkFrom w.heap.size v2) := by
  cases hg : goodB d with
  | false =>
    have hE : flushE d = 2 := by simp [flushE, hg]
    have hK : flushK d = d := by simp [flushK, hg]
    rw [hE, hK]
    exact (flush_no v d w h hg).mono fun e w' he => ⟨v, he.1, h.below he.2, fun _ => rfl, he.2, .inl rfl⟩
  | true =>
    have hE : flushE d = 0 := by simp [flushE, hg]
    have hK : flushK d = ⟨flushL d 37, []⟩ := by simp [flushK, hg]
    rw [hE, hK]
    exact (flush_ok v d w h hg).mono fun e w' he => by
      obtain ⟨v2, h1, h2, h3, h4⟩ := he
      exact ⟨v2, h1, h2, fun h => absurd rfl h, h3, .inr h4⟩
theorem flush_any (v : Value) (d : Dk) (w : World) (h : IsDk w v d) :
    Calls Tryz.prog 27 #[v] w fun e w' => ∃ v2, e = .returned (.tuple #[v2, .int .i64 (flushE d)]) ∧ IsDk w' v2 (flushK d) ∧ (flushE d ≠ 0 → v2 = v) ∧ Below w.heap.size w w' :=
  (flush_from v d w h).mono fun _ _ ⟨v2, h1, h2, h3, h4, _⟩ => ⟨v2, h1, h2, h3, h4⟩

end Go.Proofs.YtjnpndfpajjihabGreat

namespace Go.Proofs.YtjnpndfpajjihabGreat
open Go.RowKit

theorem lastIn_fits (n : Int) (z : ByteArray) (l : List (Int × ByteArray)) (hz : fitsB z = true) (h : l.all wrB = true) : fitsB (lastIn n z l) = true := by
  induction l generalizing z with
  | nil => exact hz
  | cons x r ih =>
    simp only [List.all_cons, Bool.and_eq_true] at h
    refine ih _ ?_ h.2
    by_cases e : x.1 = n
    · rw [if_pos e]; have := h.1; simp only [wrB, Bool.and_eq_true] at this; exact this.2
    · rw [if_neg e]; exact hz

theorem good_parts {d : Dk} (h : goodB d = true) : d.safe.length = 37 ∧ d.wr.length ≤ 200 ∧ d.safe.all fitsB = true ∧ d.wr.all wrB = true := by
  simp only [goodB, Bool.and_eq_true, decide_eq_true_eq] at h
  exact ⟨h.1.1.1, h.1.1.2, h.1.2, h.2⟩

theorem safe_fits {d : Dk} (h : goodB d = true) (k : Nat) (hk : k < 37) : fitsB (d.safe.getD k ByteArray.empty) = true := by
  obtain ⟨h1, _, h3, _⟩ := good_parts h
  rw [List.all_eq_true] at h3
  exact h3 _ (List.mem_of_getElem? (getD_some d.safe k ByteArray.empty (by omega)))

theorem last_fits {d : Dk} (h : goodB d = true) (k : Nat) (hk : k < 37) : fitsB (lastOf d k) = true :=
  lastIn_fits _ _ _ (by rw [Int.toNat_natCast]; exact safe_fits h k hk) (good_parts h).2.2.2

theorem atPlace_mem (n : Int) (l : List (Int × ByteArray)) (s : ByteArray) (h : s ∈ atPlace n l) : (n, s) ∈ l := by
  induction l with
  | nil => simp [atPlace] at h
  | cons x r ih =>
    by_cases e : x.1 = n
    · simp only [atPlace, if_pos e, List.mem_cons] at h
      rcases h with rfl | h
      · rw [← e]; simp
      · exact List.mem_cons_of_mem _ (ih h)
    · simp only [atPlace, if_neg e] at h
      exact List.mem_cons_of_mem _ (ih h)

theorem ways_mem {d : Dk} {n : Nat} {s : ByteArray} (h : s ∈ ways d n) : s = d.safe.getD n ByteArray.empty ∨ ((n : Int), s) ∈ d.wr := by
  simp only [ways, List.mem_cons] at h
  rcases h with h | h
  · exact .inl h
  · exact .inr (atPlace_mem _ _ _ h)

theorem ways_fits {d : Dk} (h : goodB d = true) {k : Nat} (hk : k < 37) {s : ByteArray} (hs : s ∈ ways d k) : fitsB s = true := by
  rcases ways_mem hs with rfl | hm
  · exact safe_fits h k hk
  · have := (good_parts h).2.2.2
    rw [List.all_eq_true] at this
    have := this _ hm
    simp only [wrB, Bool.and_eq_true] at this
    exact this.2

theorem all_of_getD {l : List ByteArray} {f : ByteArray → Bool} (h : ∀ k, k < l.length → f (l.getD k ByteArray.empty) = true) : l.all f = true := by
  rw [List.all_eq_true]
  intro x hx
  obtain ⟨k, hk⟩ := List.getElem?_of_mem hx
  have hlt := (List.getElem?_eq_some_iff.1 hk).1
  have := h k hlt
  rwa [List.getD, hk] at this

theorem good_safe {l : List ByteArray} (hl : l.length = 37) (h : ∀ k, k < 37 → fitsB (l.getD k ByteArray.empty) = true) : goodB ⟨l, []⟩ = true := by
  simp only [goodB, hl, all_of_getD (l := l) (f := fitsB) (fun k hk => h k (by omega))]
  rfl

theorem flush_at {d : Dk} (k m : Nat) (hk : k < m) : (flushL d m).getD k ByteArray.empty = lastOf d k := by
  rw [flushL, List.getD, List.getElem?_map, List.getElem?_range hk]; rfl

theorem flush_good {d : Dk} (h : goodB d = true) : goodB ⟨flushL d 37, []⟩ = true :=
  good_safe (flushL_length d 37) fun k hk => by rw [flush_at k 37 hk]; exact last_fits h k hk

theorem place_of {k : Nat} (hk : k < 37) : placeB (k : Int) = true := by simp [placeB]; omega

theorem read_safe {l : List ByteArray} (h : goodB ⟨l, []⟩ = true) {k : Nat} (hk : k < 37) : readT ⟨l, []⟩ k = l.getD k ByteArray.empty := by
  rw [readT, h, place_of hk]
  show lastOf ⟨l, []⟩ k = _
  rw [lastOf, Int.toNat_natCast]; rfl

theorem read_flush {d : Dk} (h : goodB d = true) {k : Nat} (hk : k < 37) : readT ⟨flushL d 37, []⟩ k = readT d k := by
  rw [read_safe (flush_good h) hk, flush_at k 37 hk, readT, h, place_of hk]; rfl

theorem range_getD (l : List ByteArray) : (List.range l.length).map (fun k => l.getD k ByteArray.empty) = l := by
  apply List.ext_getElem?
  intro i
  by_cases hi : i < l.length
  · rw [List.getElem?_map, List.getElem?_range hi, getD_some l i ByteArray.empty hi]; rfl
  · rw [List.getElem?_eq_none (by simpa using hi), List.getElem?_eq_none (by omega)]
theorem put_good {d : Dk} {n : Int} {s : ByteArray} (h : putE d n s = 0) : goodB d = true ∧ placeB n = true ∧ fitsB s = true ∧ ¬ d.wr.length = 200 := by
  unfold putE at h
  by_cases h1 : (goodB d && placeB n) = true
  · rw [if_pos h1] at h
    by_cases h2 : fitsB s = true
    · rw [if_pos h2] at h
      by_cases h3 : d.wr.length = 200
      · rw [if_pos h3] at h; cases h
      · simp at h1; exact ⟨h1.1, h1.2, h2, h3⟩
    · rw [if_neg h2] at h; cases h
  · rw [if_neg h1] at h; cases h

theorem putK_ok {d : Dk} {n : Int} {s : ByteArray} (h : putE d n s = 0) : putK d n s = ⟨d.safe, d.wr ++ [(n, s)]⟩ := by rw [putK, if_pos h]
theorem putK_no {d : Dk} {n : Int} {s : ByteArray} (h : putE d n s ≠ 0) : putK d n s = d := by rw [putK, if_neg h]

theorem good_put {d : Dk} {n : Int} {s : ByteArray} (h : putE d n s = 0) : goodB (putK d n s) = true := by
  rw [putK_ok h]
  obtain ⟨hg, hp, hf, hl⟩ := put_good h
  simp only [goodB, Bool.and_eq_true, decide_eq_true_eq] at hg ⊢
  obtain ⟨⟨⟨h1, h2⟩, h3⟩, h4⟩ := hg
  refine ⟨⟨⟨h1, ?_⟩, h3⟩, ?_⟩
  · simp; omega
  · rw [List.all_append, h4]; simp [wrB, hp, hf]

theorem last_put (d : Dk) (n m : Int) (s : ByteArray) : lastOf ⟨d.safe, d.wr ++ [(n, s)]⟩ m = if n = m then s else lastOf d m := lastIn_snoc _ _ _ _

theorem read_put {d : Dk} {n : Int} {s : ByteArray} (h : putE d n s = 0) : readT (putK d n s) n = s ∧ readE (putK d n s) n = 0 := by
  have hg := good_put h
  have hp := (put_good h).2.1
  rw [readT, readE, hg, hp]
  refine ⟨?_, rfl⟩
  rw [putK_ok h]
  simp [last_put]

theorem read_other {d : Dk} {n : Int} {s : ByteArray} (h : putE d n s = 0) (m : Int) : readE (putK d n s) m = readE d m ∧ (m ≠ n → readT (putK d n s) m = readT d m) := by
  have hg := good_put h
  have hg' := (put_good h).1
  rw [readT, readE, readT, readE, hg, hg']
  refine ⟨rfl, fun hne => ?_⟩
  have e : lastOf (putK d n s) m = lastOf d m := by rw [putK_ok h, last_put, if_neg (fun e => hne e.symm)]
  rw [e]


end Go.Proofs.YtjnpndfpajjihabGreat

namespace Go.Proofs.YtjnpndfpajjihabGreat
open Go.RowKit

set_option maxHeartbeats 2000000 in
set_option maxRecDepth 100000 in
theorem choices_walk (b off c : Nat) (a' : Option Addr) (c' : Nat) (d : Dk) (n : Nat) (w : World) (hn : d.safe.length = 37) (hp : n < 37) (hm : d.wr.length ≤ 200) (hb : b < w.heap.size)
    (hc : ∀ i, i < d.safe.length → w.cell? ⟨b, off + i, none⟩ = some (.string (d.safe.getD i ByteArray.empty))) (hw : SegW w a' d.wr) :
    Calls Tryz.prog 84 #[.agg #[.slice (some ⟨b, off, none⟩) 37 c, .slice a' d.wr.length c'], .int .i64 n] w fun e w' => ∃ v', e = .returned v' ∧ w'.ownsRow w.heap.size 9 1 v' (ways d n).length (cellsS (ways d n)) ∧ Below w.heap.size w w' := by
  have HW := hide hw
  obtain ⟨z, hz⟩ : ∃ z, z = d.safe.getD n ByteArray.empty := ⟨_, rfl⟩
  have hcn := hc n (by omega)
  rw [← hz] at hcn
  have hp' : (n : Int) < 37 := by omega
  have H0 : Hid (waysTo d n 0 = [z]) := by rw [hz]; rfl
  clear hn hw hc hz
  obtain ⟨i0, hi, hz0, hz1, hz2⟩ := info_parts infoS
  go_enter Tryz.func84, Tryz.ntmps84
  go_wp2
  go_loopw [5, 17] (fun v i wr => ∃ k : Nat, k ≤ d.wr.length ∧ i = .int .i64 k ∧ Hid (wr.ownsRow w.heap.size 9 1 v (waysTo d n k).length (cellsS (waysTo d n k))) ∧ Below w.heap.size w wr) (fun _ i _ => d.wr.length - (intOf i).toNat)
  case atStart =>
    refine ⟨0, Nat.zero_le _, rfl, ?_, bthen (below1 _ _) (below1 _ _)⟩
    rw [H0.out]
    have h := World.ownsRow_lit (e := 9) (size := 1) (w.alloc (Obj.cells #[.slice (some ⟨b, off, none⟩) 37 c, .slice a' d.wr.length c'] 58)) #[.string z] 1 (below1 w _).size (by decide) rfl
    unfold Hid
    simpa [cellsS] using h
  case round =>
    obtain ⟨k, hk, rfl, hown, hbr⟩ := hrel
    have hsr := hbr.size
    by_cases hlt : k < d.wr.length
    · obtain ⟨b', off', rfl, hb', hcw⟩ := HW.out.resolve_left (by intro e; rw [e] at hlt; simp at hlt)
      obtain ⟨x, hx⟩ : ∃ x, x = d.wr.getD k (0, ByteArray.empty) := ⟨_, rfl⟩
      obtain ⟨hc1, hc2⟩ := hcw k hlt
      rw [← hx] at hc1 hc2
      have HX : Hid (d.wr[k]? = some x) := by rw [hx]; exact getD_some _ _ _ hlt
      clear hx hcw
      have g1 := cellKeep hbr hb' hc1
      have g2 := cellKeep hbr hb' hc2
      clear hc1 hc2
      have hl := waysTo_length d n k hm
      obtain ⟨m, s⟩ := x
      by_cases he : m = n
      · have he' : (m == (n : Int)) = true := by rw [he]; simp
        have HE : Hid (waysTo d n (k + 1) = waysTo d n k ++ [s]) := waysTo_hit d n k (m, s) HX.out he
        clear he
        go_wp2_with (at_builtin; refine wpList_append_own _ rfl _ _ 55 rfl w.heap.size 9 i0 (.string ⟨#[]⟩) 1 16 Tryz.underlying55 hi hz0 hz1 hz2 rfl (by decide) _ _ _ rfl ((hown.out.alloc _).alloc _) ⟨wr.heap.size + 1, 0, none⟩ 1 1 (cellsS [s]) rfl ?qc1 ?qc2 ?qc3 ?qc4 ?qc5 ?qc6 ?_)
        case qc1 => rfl
        case qc2 =>
          intro j u hj
          match j, hj with
          | 0, hj => simp [cellsS] at hj; subst hj; simp [go_sem]
        case qc3 => exact cellsS_one
        case qc4 => unfold maxLen; omega
        case qc5 => omega
        case qc6 => omega
        intro v4 w4 hown4 hgrow4 _
        have hb4 : Below w.heap.size w w4 := ((hbr.alloc hsr _).alloc (by simp; omega) _).grown hgrow4 (by simp; omega) (fun k hk => (hown.out.lt k hk).1)
        rw [← cellsS_append, ← HE.out] at hown4
        have hlen : (waysTo d n k).length + 1 = (waysTo d n (k + 1)).length := by rw [HE.out]; simp
        rw [hlen] at hown4
        have HO := hide hown4
        clear hown4 hgrow4 hown hbr
        go_wp2
        go_roundw
        case rel => exact ⟨k + 1, by omega, by go_num, HO, hb4⟩
        case measure => simp [intOf]; omega
      · have he' : (m == (n : Int)) = false := by simpa using he
        have HE : Hid (waysTo d n (k + 1) = waysTo d n k) := waysTo_miss d n k (m, s) HX.out he
        have HO := hide (hown.out.alloc (Obj.cells #[Value.int IntKind.i64 m, Value.string s] 166))
        clear he hown
        go_wp2
        go_roundw
        case rel => exact ⟨k + 1, by omega, by go_num, by rw [HE.out]; exact HO, hbr.alloc hsr _⟩
        case measure => simp [intOf]; omega
    · have e : k = d.wr.length := by omega
      have hw' : waysTo d n k = ways d n := by rw [e, waysTo, List.take_length]; rfl
      rw [hw'] at hown
      clear hw' e
      go_wp2
      go_ret
      exact ⟨_, rfl, hown.out, hbr⟩

/-- disk.choices: the texts that a place may have. -/
theorem choices_any (v : Value) (d : Dk) (n : Nat) (w : World) (h : IsDk w v d) (hn : d.safe.length = 37) (hp : n < 37) (hm : d.wr.length ≤ 200) :
    Calls Tryz.prog 84 #[v, .int .i64 n] w fun e w' => ∃ v', e = .returned v' ∧ w'.ownsRow w.heap.size 9 1 v' (ways d n).length (cellsS (ways d n)) ∧ Below w.heap.size w w' := by
  obtain ⟨a, c, a', c', rfl, hs, hw, h1, h2⟩ := h
  obtain ⟨b, off, rfl, hb, hc⟩ := hs.resolve_left (by intro e; rw [e] at hn; simp at hn)
  have := choices_walk b off c a' c' d n w hn hp hm hb hc hw
  rw [← hn] at this
  exact this

end Go.Proofs.YtjnpndfpajjihabGreat

namespace Go.Proofs.YtjnpndfpajjihabGreat
open Go.RowKit

/-- What Crash has chosen for the first k places, and what is left of the draw. -/
def crashL (d : Dk) (q : Nat) : Nat → List ByteArray × Nat
  | 0 => ([], q)
  | k + 1 => ((crashL d q k).1 ++ [(ways d k).getD ((crashL d q k).2 % (ways d k).length) ByteArray.empty], (crashL d q k).2 / (ways d k).length)
def crashK (d : Dk) (q : Int) : Dk := if (goodB d && decide (0 ≤ q)) = true then ⟨(crashL d q.toNat 37).1, []⟩ else d
def crashE (d : Dk) (q : Int) : Int := if (goodB d && decide (0 ≤ q)) = true then 0 else 2

theorem crashL_length (d : Dk) (q k : Nat) : (crashL d q k).1.length = k := by
  induction k with
  | zero => rfl
  | succ k ih => simp [crashL, ih]
theorem crashL_le (d : Dk) (q k : Nat) : (crashL d q k).2 ≤ q := by
  induction k with
  | zero => exact Nat.le_refl _
  | succ k ih => exact Nat.le_trans (Nat.div_le_self _ _) ih
theorem ways_length (d : Dk) (n : Nat) (h : d.wr.length ≤ 200) : 1 ≤ (ways d n).length ∧ (ways d n).length ≤ 201 := by
  have := waysTo_length d n d.wr.length h
  rw [waysTo, List.take_length] at this
  exact this

set_option maxHeartbeats 1000000 in
theorem crash_no (v : Value) (d : Dk) (q : Int) (w : World) (h : IsDk w v d) (hno : (goodB d && decide (0 ≤ q)) = false) :
    Calls Tryz.prog 33 #[v, .int .i64 q] w fun e w' => e = .returned (.tuple #[v, .int .i64 2]) ∧ Below w.heap.size w w' := by
  have HI : Hid (IsDk w v d) := h
  obtain ⟨a, c, a', c', rfl, _, _, _, _⟩ := h
  cases hg : goodB d with
  | false =>
    clear hno
    go_enter Tryz.func33, Tryz.ntmps33
    go_wp2_with fail
    refine (good_any _ d _ (HI.out.below (bthen (below1 _ _) (below1 _ _)))).mono ?_
    rintro e w1 ⟨rfl, hb1⟩
    obtain ⟨hc1, hf1⟩ := bcell hb1
    have hs1 : w.heap.size + 1 < w1.heap.size := by have := hb1.size; simp at this; omega
    go_wp2
    refine bodyPost_ret (v := .tuple #[.agg #[.slice a d.safe.length c, .slice a' d.wr.length c'], .int .i64 2]) (by simp [results, Tryz.results33, go_sem, hc1]) rfl ⟨rfl, ?_⟩
    have hb2 : Below w.heap.size w w1 := bthen (bthen (below1 _ _) (below1 _ _)) hb1
    exact (hb2.setCell (by simp) _).setCell (by simp) _
  | true =>
    have hq : q < 0 := by simpa [hg] using hno
    clear hno
    go_enter Tryz.func33, Tryz.ntmps33
    go_wp2_with fail
    refine (good_any _ d _ (HI.out.below (bthen (below1 _ _) (below1 _ _)))).mono ?_
    rintro e w1 ⟨rfl, hb1⟩
    obtain ⟨hc1, hf1⟩ := bcell hb1
    have hs1 : w.heap.size + 1 < w1.heap.size := by have := hb1.size; simp at this; omega
    go_wp2
    refine bodyPost_ret (v := .tuple #[.agg #[.slice a d.safe.length c, .slice a' d.wr.length c'], .int .i64 2]) (by simp [results, Tryz.results33, go_sem, hc1]) rfl ⟨rfl, ?_⟩
    have hb2 : Below w.heap.size w w1 := bthen (bthen (below1 _ _) (below1 _ _)) hb1
    exact (hb2.setCell (by simp) _).setCell (by simp) _

set_option maxHeartbeats 2000000 in
set_option maxRecDepth 100000 in
theorem crash_ok (v : Value) (d : Dk) (q : Nat) (w : World) (h : IsDk w v d) (hg : goodB d = true) (hq : q ≤ 9223372036854775807) :
    Calls Tryz.prog 33 #[v, .int .i64 q] w fun e w' => ∃ v2, e = .returned (.tuple #[v2, .int .i64 0]) ∧ IsDk w' v2 ⟨(crashL d q 37).1, []⟩ ∧ Below w.heap.size w w' ∧ DkFrom w.heap.size v2 := by
  have HI : Hid (IsDk w v d) := h
  obtain ⟨a, c, a', c', rfl, _, _, _, _⟩ := h
  have H37 := hide (good_len37 hg)
  have hmk := made37
  go_enter Tryz.func33, Tryz.ntmps33
  go_wp2_with fail
  refine (good_any _ d _ (HI.out.below (bthen (below1 _ _) (below1 _ _)))).mono ?_
  rintro e w1 ⟨rfl, hb1⟩
  have hs1 : w.heap.size + 1 < w1.heap.size := by have := hb1.size; simp at this; omega
  have x0 := cellKeep hb1 (b := w.heap.size) (o := 0) (v := .slice a d.safe.length c) (by simp; omega) (by simp [go_sem])
  have x1 := cellKeep hb1 (b := w.heap.size) (o := 1) (v := .slice a' d.wr.length c') (by simp; omega) (by simp [go_sem])
  have y0 := cellKeep hb1 (b := w.heap.size + 1) (o := 0) (v := .slice none 0 0) (by simp) (by simp [go_sem])
  have y1 := cellKeep hb1 (b := w.heap.size + 1) (o := 1) (v := .slice none 0 0) (by simp) (by simp [go_sem])
  have f0 := frozKeep hb1 (b := w.heap.size + 1) (o := 0) (v := false) (by simp) (by simp [go_sem])
  have f1 := frozKeep hb1 (b := w.heap.size + 1) (o := 1) (v := false) (by simp) (by simp [go_sem])
  have hb2 : Below w.heap.size w w1 := bthen (bthen (below1 _ _) (below1 _ _)) hb1
  clear hb1
  go_wp2
  go_loopw [1, 20] (fun r i wr => ∃ k : Nat, k ≤ 37 ∧ i = .int .i64 k ∧ r = .int .i64 ((crashL d q k).2 : Nat) ∧ Hid (wr.ownsRow w1.heap.size 9 1 (.slice (some ⟨w1.heap.size, 0, none⟩) 37 37) 37 (fill (crashL d q k).1 (37 - k))) ∧ Below w1.heap.size w1 wr) (fun _ i _ => 37 - (intOf i).toNat)
  case atStart => exact ⟨0, Nat.zero_le _, rfl, rfl, made_owns _ _ (Nat.le_refl _), below1 _ _⟩
  case round =>
    obtain ⟨k, hk, rfl, rfl, hown, hbr⟩ := hrel
    have hsr := hbr.size
    by_cases hlt : k < 37
    · have hlt' : (k : Int) < 37 := by omega
      have z0 := cellKeep hbr (by omega) x0
      have z1 := cellKeep hbr (by omega) x1
      have hrq := crashL_le d q k
      obtain ⟨r, hr⟩ : ∃ r, r = (crashL d q k).2 := ⟨_, rfl⟩
      rw [← hr] at hrq ⊢
      clear hmk
      go_wp2_with fail
      refine (choices_any _ d k _ (HI.out.below (bthen hb2 hbr)) H37.out.1 hlt H37.out.2).mono ?_
      rintro e w3 ⟨v3, rfl, hown3, hb3⟩
      obtain ⟨a3, c3, hv3, hS3, _⟩ := SegS.of_owns hown3
      have hL := ways_length d k H37.out.2
      obtain ⟨b3, o3, ha3, hb3', hc3⟩ := hS3.resolve_left (by intro e; rw [e] at hL; simp at hL)
      obtain ⟨t, ht⟩ : ∃ t, t = (ways d k).getD (r % (ways d k).length) ByteArray.empty := ⟨_, rfl⟩
      have hct := hc3 (r % (ways d k).length) (Nat.mod_lt _ (by omega))
      rw [← ht] at hct
      have HK : Hid (crashL d q (k + 1) = ((crashL d q k).1 ++ [t], r / (ways d k).length)) := by rw [ht, hr]; rfl
      obtain ⟨L, hLe⟩ : ∃ L, L = (ways d k).length := ⟨_, rfl⟩
      rw [← hLe] at hv3 hL hct HK
      rw [hv3, ha3]
      have hown4 := owns_keep hown.out hb3
      rw [show 37 - k = (36 - k) + 1 from by omega] at hown4
      have hcc := fill_cell hown4
      have hst := fill_step hown4 t
      rw [crashL_length] at hcc hst
      obtain ⟨⟨u, hu⟩, hfz, hg1, hg2, _⟩ := hcc
      have HST := hide hst
      clear hown4 hst hown z0 z1 hown3 hS3 hc3 ha3 hv3 hLe ht hr
      have hm0 : 0 ≤ (r : Int) % (L : Int) := Int.emod_nonneg _ (by omega)
      have hm1 : (r : Int) % (L : Int) < (L : Int) := Int.emod_lt_of_pos _ (by omega)
      have hd0 : 0 ≤ (r : Int) / (L : Int) := Int.ediv_nonneg (by omega) (by omega)
      have hd1 : (r : Int) / (L : Int) ≤ 9223372036854775807 := Int.le_trans (Int.ediv_le_self _ (by omega)) (by omega)
      go_wp2
      go_roundw
      case rel =>
        refine ⟨k + 1, by omega, by go_num, ?_, ?_, ?_⟩
        · rw [HK.out]; rfl
        · rw [HK.out, show 37 - (k + 1) = 36 - k from by omega]; exact HST
        · exact (bthen hbr hb3).setCell (by simp) _
      case measure => simp [intOf]; omega
    · have e : k = 37 := by omega
      have hown' := hown.out
      rw [e, show 37 - 37 = 0 from rfl, fill_full] at hown'
      obtain ⟨a2, c2, hv2, hS2, hA2⟩ := SegS.of_owns hown'
      have hA2' := hide hA2
      have HS2 := hide hS2
      have y0' := cellKeep hbr (by omega) y0
      have y1' := cellKeep hbr (by omega) y1
      have f0' := frozKeep hbr (by omega) f0
      have f1' := frozKeep hbr (by omega) f1
      rw [crashL_length] at hv2
      simp only [Value.slice.injEq] at hv2
      obtain ⟨ha2, _, hc2⟩ := hv2
      subst ha2 hc2
      clear hown hown' hS2 hA2 y0 y1 f0 f1 x0 x1 hmk e
      go_wp2
      refine bodyPost_ret (v := .tuple #[.agg #[.slice (some ⟨w1.heap.size, 0, none⟩) 37 37, .slice none 0 0], .int .i64 0]) (by simp [results, Tryz.results33, go_sem, y0', y1']) rfl ⟨_, rfl, ⟨some ⟨w1.heap.size, 0, none⟩, 37, none, 0, ?_, ?_, .inl rfl, ?_, ?_⟩, ?_, ⟨_, _, _, _, _, _, rfl, fun b off e => by cases e; omega, fun _ _ e => by cases e⟩⟩
      · simp only [crashL_length]; rfl
      · exact (HS2.out.setCell hA2'.out (by simp; omega) _).setCell hA2'.out (by simp; omega) _
      · show (crashL d q 37).1.length ≤ maxLen; rw [crashL_length]; decide
      · exact Nat.zero_le _
      · exact ((bthen hb2 hbr).setCell (by simp) _).setCell (by simp) _

/-- disk.Crash: each place as the draw says, all safe, no writes; or an error, and the disk as it was. -/
theorem crash_from (v : Value) (d : Dk) (q : Int) (w : World) (h : IsDk w v d) (hq : q ≤ 9223372036854775807) :
    Calls Tryz.prog 33 #[v, .int .i64 q] w fun e w' => ∃ v2, e = .returned (.tuple #[v2, .int .i64 (crashE d q)]) ∧ IsDk w' v2 (crashK d q) ∧ (crashE d q ≠ 0 → v2 = v) ∧ Below w.heap.size w w' ∧ (v2 = v ∨ DkFrom w.heap.size v2) := by
  cases hg : (goodB d && decide (0 ≤ q)) with
  | false =>
    have hE : crashE d q = 2 := by simp only [crashE, hg]; rfl
    have hK : crashK d q = d := by simp only [crashK, hg]; rfl
    rw [hE, hK]
    exact (crash_no v d q w h hg).mono fun e w' he => ⟨v, he.1, h.below he.2, fun _ => rfl, he.2, .inl rfl⟩
  | true =>
    have hE : crashE d q = 0 := by simp only [crashE, hg]; rfl
    have hK : crashK d q = ⟨(crashL d q.toNat 37).1, []⟩ := by simp only [crashK, hg]; rfl
    simp at hg
    obtain ⟨n, rfl⟩ := Int.eq_ofNat_of_zero_le hg.2
    rw [hE, hK]
    rw [Int.toNat_natCast]
    exact (crash_ok v d n w h hg.1 (by omega)).mono fun e w' he => by
      obtain ⟨v2, h1, h2, h3, h4⟩ := he
      exact ⟨v2, h1, h2, fun h => absurd rfl h, h3, .inr h4⟩
theorem crash_any (v : Value) (d : Dk) (q : Int) (w : World) (h : IsDk w v d) (hq : q ≤ 9223372036854775807) :
    Calls Tryz.prog 33 #[v, .int .i64 q] w fun e w' => ∃ v2, e = .returned (.tuple #[v2, .int .i64 (crashE d q)]) ∧ IsDk w' v2 (crashK d q) ∧ (crashE d q ≠ 0 → v2 = v) ∧ Below w.heap.size w w' :=
  (crash_from v d q w h hq).mono fun _ _ ⟨v2, h1, h2, h3, h4, _⟩ => ⟨v2, h1, h2, h3, h4⟩

end Go.Proofs.YtjnpndfpajjihabGreat

namespace Go.Proofs.YtjnpndfpajjihabGreat
open Go.RowKit

/-- The text that a crash chooses for a place is one of those it may have. -/
theorem crash_at {d : Dk} (q k m : Nat) (hk : k < m) : (crashL d q m).1.getD k ByteArray.empty ∈ ways d k := by
  induction m with
  | zero => omega
  | succ m ih =>
    rw [crashL]
    have hl := crashL_length d q m
    by_cases e : k < m
    · have := ih e
      rwa [List.getD, List.getElem?_append_left (by omega)]
    · have e' : k = m := by omega
      subst e'
      rw [List.getD, List.getElem?_append_right (by omega), hl, Nat.sub_self]
      have hlt : (crashL d q k).2 % (ways d k).length < (ways d k).length := Nat.mod_lt _ (by simp [ways])
      exact List.mem_of_getElem? (getD_some _ _ ByteArray.empty hlt)

theorem crash_good {d : Dk} (h : goodB d = true) (q : Nat) : goodB ⟨(crashL d q 37).1, []⟩ = true :=
  good_safe (crashL_length d q 37) fun k hk => ways_fits h hk (crash_at q k 37 hk)

theorem read_crash {d : Dk} (h : goodB d = true) (q : Nat) {k : Nat} (hk : k < 37) :
    readT ⟨(crashL d q 37).1, []⟩ k = d.safe.getD k ByteArray.empty ∨ ((k : Int), readT ⟨(crashL d q 37).1, []⟩ k) ∈ d.wr := by
  rw [read_safe (crash_good h q) hk]
  exact ways_mem (crash_at q k 37 hk)

/-- What was flushed no crash can take. -/
theorem crash_flushed (l : List ByteArray) (q m : Nat) : (crashL ⟨l, []⟩ q m).1 = (List.range m).map fun k => l.getD k ByteArray.empty := by
  induction m with
  | zero => rfl
  | succ m ih =>
    have e : ways ⟨l, []⟩ m = [l.getD m ByteArray.empty] := rfl
    rw [crashL, ih, e, List.range_succ, List.map_append]
    simp only [List.length_singleton, Nat.mod_one]
    rfl

theorem crashK_flushed (d : Dk) (h : goodB d = true) (q : Int) (hq : 0 ≤ q) : crashK ⟨flushL d 37, []⟩ q = ⟨flushL d 37, []⟩ ∧ crashE ⟨flushL d 37, []⟩ q = 0 := by
  have hg := flush_good h
  have hd : decide (0 ≤ q) = true := by simpa using hq
  rw [crashK, crashE, hg, hd]
  refine ⟨?_, rfl⟩
  show (⟨(crashL ⟨flushL d 37, []⟩ q.toNat 37).1, []⟩ : Dk) = _
  have e := range_getD (flushL d 37)
  rw [flushL_length] at e
  rw [crash_flushed, e]


end Go.Proofs.YtjnpndfpajjihabGreat
