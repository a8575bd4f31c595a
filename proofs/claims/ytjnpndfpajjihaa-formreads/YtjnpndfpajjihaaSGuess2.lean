/-
  The walk of stamp's own guessTags.
-/
import Derived.Test.YtjnpndfpajjihaaSGuess
namespace Go.Proofs.Ytjnpndfpajjihaa
open Go.RowKit

theorem cellsT_set (l : List (Int × Bool)) (k : Nat) (x : Int) (f : Bool) : ((cellsT l).set (k * 2) (.int .i64 x)).set (k * 2 + 1) (.bool f) = cellsT (l.set k (x, f)) := by
  induction l generalizing k with
  | nil => rfl
  | cons y r ih =>
    cases k with
    | zero => rfl
    | succ k =>
      have e1 : (k + 1) * 2 = k * 2 + 1 + 1 := by omega
      rw [List.set_cons_succ, cellsT, cellsT, e1]
      simp only [List.set_cons_succ]
      rw [ih]
theorem cellsT_rep (n i : Nat) (h : i < n * 2) : (cellsT (List.replicate n (0, false)))[i]? = some (#[Value.int .i64 0, Value.bool false][i % 2]!) := by
  have hi : i / 2 < (List.replicate n ((0 : Int), false)).length := by rw [List.length_replicate]; omega
  have := cellsT_at (List.replicate n (0, false)) (i / 2) hi
  have hd : (List.replicate n ((0 : Int), false)).getD (i / 2) (0, false) = (0, false) := by
    rw [List.length_replicate] at hi
    rw [List.getD, List.getElem?_replicate, if_pos hi]; rfl
  rw [hd] at this
  by_cases h0 : i % 2 = 0
  · rw [show i = i / 2 * 2 from by omega, this.1, show i / 2 * 2 % 2 = 0 from by omega]; rfl
  · rw [show i = i / 2 * 2 + 1 from by omega, this.2, show (i / 2 * 2 + 1) % 2 = 1 from by omega]; rfl

set_option maxRecDepth 100000 in
theorem makeT (n : Nat) (h : n ≤ 1000) (w : World) : (Instr.makeSlice 44 (.int .i64 (n : Int)) (.int .i64 (n : Int))).run Try.prog w = .ok (.slice (some ⟨w.heap.size, 0, none⟩) n n) (w.alloc (.cells (cellsT (List.replicate n (0, false))).toArray 87)) := by
  obtain ⟨i0, hi, hz0, hz1, hz2⟩ := info_parts infoT
  have := run_make (P := Try.prog) w 44 87 i0 (.agg #[.int .i64 0, .bool false]) Try.underlying44 hi hz0 .i64 .i64 n n (by omega) (by omega) (by rw [hz2]; omega) (by omega)
  rw [this, hz1, Int.toNat_natCast]
  congr 3
  apply Array.ext'
  apply List.ext_getElem?
  intro i
  by_cases h2 : i < n * 2
  · rw [cellsT_rep n i h2]
    simp [madeCells, h2, Value.cells]
  · rw [List.getElem?_eq_none (by simp [madeCells]; omega), List.getElem?_eq_none (by rw [cellsT_length, List.length_replicate]; omega)]

set_option maxHeartbeats 2000000 in
set_option maxRecDepth 100000 in
theorem guessTags_few (s : ByteArray) (n : Nat) (w : World) (hs : s.size = 32) (hn : n ≤ 10) (h9 : at8 s 9 = (n : Int)) :
    Calls Try.prog 95 #[.string s] w fun e w' => ∃ a2 c2, e = .returned (.slice a2 n c2) ∧ (SegT w' a2 (gTags s) ∧ ∀ b off, a2 = some ⟨b, off, none⟩ → w.heap.size ≤ b) ∧ Below w.heap.size w w' := by
  have hB : ∀ k (hk : k < s.size), ((s[k]'hk).toNat : Int) = at8 s k := at8_of s
  have hW := wrap_at8 s
  have hW' : ∀ k, IntKind.i64.wrap (at8 s k) = at8 s k := fun k => by have := at8_in s k; rw [IntKind.wrap_i64]; omega
  have HM : Hid (manyOf s 10 = n) := many_few h9 hn
  have hmk : ∀ w : World, (Instr.makeSlice 44 (.int .i64 (n : Int)) (.int .i64 (n : Int))).run Try.prog w = .ok (.slice (some ⟨w.heap.size, 0, none⟩) n n) (w.alloc (.cells (cellsT (List.replicate n (0, false))).toArray 87)) := makeT n (by omega)
  have hn' : (n : Int) ≤ 10 := by omega
  obtain ⟨l, hl⟩ : ∃ l, l = gTags s := ⟨_, rfl⟩
  have HL : Hid (l.length = n) := by rw [Hid, hl, gTags_length, HM.out]
  have HG := hide hl
  clear hl
  go_enter Try.func95, Try.ntmps95
  go_wp2
  go_loopw [13] (fun i wr => ∃ k : Nat, k ≤ n ∧ i = .int .i64 k ∧ Hid (wr.heap[w.heap.size]? = some (.cells (cellsT (fillRow (0, false) l k)).toArray 87 (0, 0))) ∧ Below w.heap.size w wr) (fun i _ => n - (intOf i).toNat)
  case atStart => exact ⟨0, Nat.zero_le _, rfl, by rw [fill_start, HL.out]; exact heap_alloc_new w _, below1 _ _⟩
  case round =>
    obtain ⟨k, hk, rfl, hbox, hbr⟩ := hrel
    have hsr : w.heap.size < wr.heap.size := (Array.getElem?_eq_some_iff.1 hbox.out).1
    by_cases hlt : k < n
    · have hlt' : (k : Int) < (n : Int) := by omega
      have hk32 : 10 + 2 * k < s.size := by omega
      have hk33 : 11 + 2 * k < s.size := by omega
      have hT : ((10 : Int) + 2 * (k : Int)).toNat = 10 + 2 * k := by omega
      have hT2 : ((10 : Int) + 2 * (k : Int) + 1).toNat = 11 + 2 * k := by omega
      have u1 : IntKind.i64.wrap (2 * (k : Int)) = 2 * (k : Int) := by rw [IntKind.wrap_i64]; omega
      have u2 : IntKind.i64.wrap (10 + 2 * (k : Int)) = 10 + 2 * (k : Int) := by rw [IntKind.wrap_i64]; omega
      have u3 : IntKind.i64.wrap (10 + 2 * (k : Int) + 1) = 10 + 2 * (k : Int) + 1 := by rw [IntKind.wrap_i64]; omega
      obtain ⟨y, f, hy, hy2⟩ : ∃ y f, wr.cell? ⟨w.heap.size, k * 2, none⟩ = some (.int .i64 y) ∧ wr.cell? ⟨w.heap.size, k * 2 + 1, none⟩ = some (.bool f) := by
        have hlen : k < (fillRow (0, false) l k).length := by rw [fill_length _ _ _ (by rw [HL.out]; omega), HL.out]; exact hlt
        have := cellsT_at (fillRow (0, false) l k) k hlen
        refine ⟨((fillRow (0, false) l k).getD k (0, false)).1, ((fillRow (0, false) l k).getD k (0, false)).2, ?_, ?_⟩
        · rw [cell_of_row wr _ _ _ _ _ hbox.out, List.getElem?_toArray]; exact this.1
        · rw [cell_of_row wr _ _ _ _ _ hbox.out, List.getElem?_toArray]; exact this.2
      have fz := frozen_of_row wr _ (k * 2) _ _ hbox.out
      have fz2 := frozen_of_row wr _ (k * 2 + 1) _ _ hbox.out
      have HX : Hid (l[k]? = some (at8 s (10 + 2 * k), at8 s (11 + 2 * k) != 0)) := by rw [Hid, HG.out]; exact gTags_at s k (by rw [HM.out]; exact hlt)
      go_wp2
      go_region
      all_goals
        go_wp2
        go_roundw
        case rel =>
          refine ⟨k + 1, by omega, by go_num, ?_, ((hbr.setCell (by simp) _).setCell (by simp) _).drew⟩
          have hb1 := heap_setCell_same wr w.heap.size (k * 2) _ _ (.int .i64 (at8 s (10 + 2 * k))) hbox.out
          refine (heap_setCell_same _ w.heap.size (k * 2 + 1) _ _ _ hb1).trans ?_
          rw [← fillB_set (0, false) l k _ HX.out, ← cellsT_set]
          simp
        case measure => simp [intOf]; omega
    · have e : n = k := by omega
      subst e
      have hf := hbox.out
      rw [← HL.out, fill_end] at hf
      have HF := hide hf
      clear hf hbox
      go_wp2
      go_ret
      refine ⟨_, _, rfl, ⟨?_, fun b off e => by cases e; exact Nat.le_refl _⟩, hbr⟩
      rw [← HG.out]
      by_cases h0 : l = []
      · exact .inl h0
      · refine .inr ⟨w.heap.size, 0, rfl, hsr, fun i hi => ?_⟩
        rw [cell_of_row wr _ _ _ _ _ HF.out, cell_of_row wr _ _ _ _ _ HF.out, Nat.zero_add, List.getElem?_toArray, List.getElem?_toArray]
        exact cellsT_at l i hi

set_option maxHeartbeats 2000000 in
set_option maxRecDepth 100000 in
theorem guessTags_most (s : ByteArray) (w : World) (hs : s.size = 32) (h9 : 10 < at8 s 9) :
    Calls Try.prog 95 #[.string s] w fun e w' => ∃ a2 c2, e = .returned (.slice a2 10 c2) ∧ (SegT w' a2 (gTags s) ∧ ∀ b off, a2 = some ⟨b, off, none⟩ → w.heap.size ≤ b) ∧ Below w.heap.size w w' := by
  have hB : ∀ k (hk : k < s.size), ((s[k]'hk).toNat : Int) = at8 s k := at8_of s
  have hW := wrap_at8 s
  have hW' : ∀ k, IntKind.i64.wrap (at8 s k) = at8 s k := fun k => by have := at8_in s k; rw [IntKind.wrap_i64]; omega
  have HM : Hid (manyOf s 10 = 10) := many_most h9
  have h9' : ¬ at8 s 9 < 10 := by omega
  have hmk : ∀ w : World, (Instr.makeSlice 44 (.int .i64 10) (.int .i64 10)).run Try.prog w = .ok (.slice (some ⟨w.heap.size, 0, none⟩) 10 10) (w.alloc (.cells (cellsT (List.replicate 10 (0, false))).toArray 87)) := makeT 10 (by omega)
  obtain ⟨l, hl⟩ : ∃ l, l = gTags s := ⟨_, rfl⟩
  have HL : Hid (l.length = 10) := by rw [Hid, hl, gTags_length, HM.out]
  have HG := hide hl
  clear hl
  go_enter Try.func95, Try.ntmps95
  go_wp2
  go_loopw [13] (fun i wr => ∃ k : Nat, k ≤ 10 ∧ i = .int .i64 k ∧ Hid (wr.heap[w.heap.size]? = some (.cells (cellsT (fillRow (0, false) l k)).toArray 87 (0, 0))) ∧ Below w.heap.size w wr) (fun i _ => 10 - (intOf i).toNat)
  case atStart => exact ⟨0, Nat.zero_le _, rfl, by rw [fill_start, HL.out]; exact heap_alloc_new w _, below1 _ _⟩
  case round =>
    obtain ⟨k, hk, rfl, hbox, hbr⟩ := hrel
    have hsr : w.heap.size < wr.heap.size := (Array.getElem?_eq_some_iff.1 hbox.out).1
    by_cases hlt : k < 10
    · have hlt' : (k : Int) < 10 := by omega
      have hk32 : 10 + 2 * k < s.size := by omega
      have hk33 : 11 + 2 * k < s.size := by omega
      have hT : ((10 : Int) + 2 * (k : Int)).toNat = 10 + 2 * k := by omega
      have hT2 : ((10 : Int) + 2 * (k : Int) + 1).toNat = 11 + 2 * k := by omega
      have u1 : IntKind.i64.wrap (2 * (k : Int)) = 2 * (k : Int) := by rw [IntKind.wrap_i64]; omega
      have u2 : IntKind.i64.wrap (10 + 2 * (k : Int)) = 10 + 2 * (k : Int) := by rw [IntKind.wrap_i64]; omega
      have u3 : IntKind.i64.wrap (10 + 2 * (k : Int) + 1) = 10 + 2 * (k : Int) + 1 := by rw [IntKind.wrap_i64]; omega
      obtain ⟨y, f, hy, hy2⟩ : ∃ y f, wr.cell? ⟨w.heap.size, k * 2, none⟩ = some (.int .i64 y) ∧ wr.cell? ⟨w.heap.size, k * 2 + 1, none⟩ = some (.bool f) := by
        have hlen : k < (fillRow (0, false) l k).length := by rw [fill_length _ _ _ (by rw [HL.out]; omega), HL.out]; exact hlt
        have := cellsT_at (fillRow (0, false) l k) k hlen
        refine ⟨((fillRow (0, false) l k).getD k (0, false)).1, ((fillRow (0, false) l k).getD k (0, false)).2, ?_, ?_⟩
        · rw [cell_of_row wr _ _ _ _ _ hbox.out, List.getElem?_toArray]; exact this.1
        · rw [cell_of_row wr _ _ _ _ _ hbox.out, List.getElem?_toArray]; exact this.2
      have fz := frozen_of_row wr _ (k * 2) _ _ hbox.out
      have fz2 := frozen_of_row wr _ (k * 2 + 1) _ _ hbox.out
      have HX : Hid (l[k]? = some (at8 s (10 + 2 * k), at8 s (11 + 2 * k) != 0)) := by rw [Hid, HG.out]; exact gTags_at s k (by rw [HM.out]; exact hlt)
      go_wp2
      go_region
      all_goals
        go_wp2
        go_roundw
        case rel =>
          refine ⟨k + 1, by omega, by go_num, ?_, ((hbr.setCell (by simp) _).setCell (by simp) _).drew⟩
          have hb1 := heap_setCell_same wr w.heap.size (k * 2) _ _ (.int .i64 (at8 s (10 + 2 * k))) hbox.out
          refine (heap_setCell_same _ w.heap.size (k * 2 + 1) _ _ _ hb1).trans ?_
          rw [← fillB_set (0, false) l k _ HX.out, ← cellsT_set]
          simp
        case measure => simp [intOf]; omega
    · have e : k = 10 := by omega
      subst e
      have hf := hbox.out
      rw [← HL.out, fill_end] at hf
      have HF := hide hf
      clear hf hbox
      go_wp2
      go_ret
      refine ⟨_, _, rfl, ⟨?_, fun b off e => by cases e; exact Nat.le_refl _⟩, hbr⟩
      rw [← HG.out]
      by_cases h0 : l = []
      · exact .inl h0
      · refine .inr ⟨w.heap.size, 0, rfl, hsr, fun i hi => ?_⟩
        rw [cell_of_row wr _ _ _ _ _ HF.out, cell_of_row wr _ _ _ _ _ HF.out, Nat.zero_add, List.getElem?_toArray, List.getElem?_toArray]
        exact cellsT_at l i hi

theorem guessTags_any (s : ByteArray) (w : World) (hs : s.size = 32) :
    Calls Try.prog 95 #[.string s] w fun e w' => ∃ a2 c2, e = .returned (.slice a2 (gTags s).length c2) ∧ (SegT w' a2 (gTags s) ∧ ∀ b off, a2 = some ⟨b, off, none⟩ → w.heap.size ≤ b) ∧ Below w.heap.size w w' := by
  rw [gTags_length]
  by_cases h : at8 s 9 ≤ 10
  · obtain ⟨n, hn⟩ := Int.eq_ofNat_of_zero_le (at8_in s 9).1
    rw [many_few hn (by omega)]
    exact guessTags_few s n w hs (by omega) hn
  · rw [many_most (show ((10 : Nat) : Int) < at8 s 9 by omega)]
    exact guessTags_most s w hs (by omega)

end Go.Proofs.Ytjnpndfpajjihaa
