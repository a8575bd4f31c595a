/-
  The walks of stamp's own tagged, namesWell and Good.
-/
import Derived.Test.YtjnpndfpajjihabGreatSSmall
import Derived.Test.YtjnpndfpajjihabGreatIntRows2
import Derived.Test.YtjnpndfpajjihabGreatBoxes
namespace Go.Proofs.YtjnpndfpajjihabGreat
open Go.RowKit

/-- A row that is filled from its beginning on. -/
def fillRow {α : Type} (z : α) (l : List α) (k : Nat) : List α := l.take k ++ List.replicate (l.length - k) z
theorem fill_start {α : Type} (z : α) (l : List α) : fillRow z l 0 = List.replicate l.length z := by simp [fillRow]
theorem fill_end {α : Type} (z : α) (l : List α) : fillRow z l l.length = l := by simp [fillRow]
theorem fill_length {α : Type} (z : α) (l : List α) (k : Nat) (h : k ≤ l.length) : (fillRow z l k).length = l.length := by simp [fillRow]; omega
theorem fillB_set {α : Type} (z : α) (l : List α) (k : Nat) (x : α) (h : l[k]? = some x) : (fillRow z l k).set k x = fillRow z l (k + 1) := by
  have hk : k < l.length := (List.getElem?_eq_some_iff.1 h).1
  have hl : (l.take k).length = k := by rw [List.length_take]; omega
  rw [fillRow, List.set_append_right _ _ (by omega), hl, Nat.sub_self, show l.length - k = (l.length - (k + 1)) + 1 from by omega, List.replicate_succ, List.set_cons_zero, fillRow, List.take_add_one, h]
  simp

theorem cellsI_set (l : List Int) (k : Nat) (x : Int) : (cellsI l).set k (.int .i64 x) = cellsI (l.set k x) := by simp [cellsI, List.map_set]
theorem cellsI_rep (n : Nat) : cellsI (List.replicate n 0) = List.replicate n (.int .i64 0) := by simp [cellsI]

set_option maxRecDepth 100000 in
theorem makeI (n : Nat) (h : n ≤ 1000) (w : World) : (Instr.makeSlice 23 (.int .i64 (n : Int)) (.int .i64 (n : Int))).run Tryz.prog w = .ok (.slice (some ⟨w.heap.size, 0, none⟩) n n) (w.alloc (.cells (cellsI (List.replicate n 0)).toArray 3)) := by
  obtain ⟨i0, hi, hz0, hz1, hz2⟩ := info_parts infoI
  have := run_make (P := Tryz.prog) w 23 3 i0 (.int .i64 0) Tryz.underlying23 hi hz0 .i64 .i64 n n (by omega) (by omega) (by rw [hz2]; omega) (by omega)
  rw [this, hz1, Int.toNat_natCast, cellsI_rep]
  congr 3
  apply Array.ext
  · simp [madeCells]
  · intro i h1 h2
    have h2' : i < n := by simpa using h2
    simp [madeCells, Nat.mod_one, Value.cells]

set_option maxHeartbeats 2000000 in
set_option maxRecDepth 100000 in
theorem tagged_any (a : Option Addr) (c : Nat) (l : List (Int × Bool)) (w : World) (h : SegT w a l) (hn : l.length ≤ 10) :
    Calls Tryz.prog 164 #[.slice a l.length c] w fun e w' => ∃ a2 c2, e = .returned (.slice a2 l.length c2) ∧ SegI w' a2 (l.map (·.1)) ∧ Below w.heap.size w w' := by
  have HS := hide h
  clear h
  have hmk := makeI l.length (by omega)
  obtain ⟨nums, hnums⟩ : ∃ nums, nums = l.map (·.1) := ⟨_, rfl⟩
  have hlen : nums.length = l.length := by rw [hnums, List.length_map]
  have HN := hide hnums
  have HL := hide hlen
  go_enter Tryz.func164, Tryz.ntmps164
  go_wp2
  clear hnums hlen
  go_loopw [11] (fun i wr => ∃ k : Nat, k ≤ l.length ∧ i = .int .i64 k ∧ Hid (wr.heap[w.heap.size]? = some (.cells (cellsI (fillRow 0 nums k)).toArray 3 (0, 0))) ∧ Below w.heap.size w wr) (fun i _ => l.length - (intOf i).toNat)
  case atStart => exact ⟨0, Nat.zero_le _, rfl, by rw [fill_start, HL.out]; exact heap_alloc_new w _, below1 _ _⟩
  case round =>
    obtain ⟨k, hk, rfl, hbox, hbr⟩ := hrel
    have hsr : w.heap.size < wr.heap.size := (Array.getElem?_eq_some_iff.1 hbox.out).1
    by_cases hlt : k < l.length
    · obtain ⟨b, off, rfl, hb, hc⟩ := HS.out.resolve_left (by intro e; rw [e] at hlt; simp at hlt)
      obtain ⟨x, hx⟩ : ∃ x, x = l.getD k (0, false) := ⟨_, rfl⟩
      obtain ⟨hc1, hc2⟩ := hc k hlt
      rw [← hx] at hc1 hc2
      have HX : Hid (nums[k]? = some x.1) := by rw [Hid, HN.out, List.getElem?_map, hx, getD_at l k (0, false) hlt]; rfl
      have g1 := cellKeep hbr hb hc1
      have g2 := cellKeep hbr hb hc2
      clear hx hc hc1 hc2
      obtain ⟨n, f⟩ := x
      have hlt' : (k : Int) < (l.length : Int) := by omega
      obtain ⟨y, hy⟩ : ∃ y, wr.cell? ⟨w.heap.size, k, none⟩ = some (.int .i64 y) := by
        have hlen : k < (fillRow 0 nums k).length := by rw [fill_length _ _ _ (by rw [HL.out]; omega), HL.out]; exact hlt
        refine ⟨(fillRow 0 nums k)[k], ?_⟩
        rw [cell_of_row wr _ _ _ _ _ hbox.out]
        simp [cellsI, hlen]
      have fz := frozen_of_row wr _ k _ _ hbox.out
      go_wp2
      go_roundw
      case rel =>
        refine ⟨k + 1, by omega, by go_num, ?_, (hbr.setCell (by simp) _).alloc (by simp; omega) _⟩
        refine (Below.heap_alloc _ _ _ (by simpa using hsr)).trans ?_
        rw [heap_setCell_same _ _ _ _ _ _ hbox.out, ← fillB_set 0 nums k n HX.out, ← cellsI_set]
        simp
      case measure => simp [intOf]; omega
    · have e : k = l.length := by omega
      subst e
      have hf := hbox.out
      rw [← HL.out, fill_end] at hf
      have HF := hide hf
      clear hf hbox
      go_wp2
      go_ret
      refine ⟨_, _, rfl, ?_, hbr⟩
      rw [← HN.out]
      by_cases h0 : nums = []
      · exact .inl h0
      · refine .inr ⟨w.heap.size, 0, rfl, hsr, fun i hi => ?_⟩
        rw [cell_of_row wr _ _ _ _ _ HF.out, Nat.zero_add]
        have := cellsI_at nums i hi
        simpa using this

theorem rise_len (a : Option Addr) (c : Nat) (l : List Int) (n : Nat) (w : World) (h : SegI w a l) (hl : l.length = n) (hn : n ≤ maxLen) :
    Calls Tryz.prog 163 #[.slice a n c] w fun e w' => e = .returned (.bool (rises l)) ∧ w = w' := by
  subst hl
  exact sRise_any a c l w h hn

set_option maxHeartbeats 2000000 in
set_option maxRecDepth 100000 in
theorem names_tags (q p : Int) (a : Option Addr) (c : Nat) (a' : Option Addr) (n' c' : Nat) (l : List (Int × Bool)) (w : World) (h : SegT w a l) (hn : l.length ≤ maxLen) :
    Calls Tryz.prog 149 #[.agg #[.int .i64 2, .int .i64 q, .int .i64 p, .slice a l.length c, .slice a' n' c']] w fun e w' => e = .returned (.bool (withinB l.length 1 10 && rises (l.map (·.1)))) ∧ Below w.heap.size w w' := by
  have HS := hide h
  unfold maxLen at hn
  clear h
  go_enter Tryz.func149, Tryz.ntmps149
  go_wp2_with fail
  refine (sWithin_any l.length 1 10 _).mono ?_
  rintro e w1 ⟨rfl, rfl⟩
  cases hw : withinB l.length 1 10 with
  | false =>
    have HW := hide hw
    clear hw
    go_wp2
    go_ret
    exact ⟨by rw [HW.out, Bool.false_and]; rfl, below1 _ _⟩
  | true =>
    have hle := withinB_yes hw
    have h10 : l.length ≤ 10 := by omega
    have HW := hide hw
    clear hle hw
    go_wp2_with fail
    refine (tagged_any _ _ l _ (HS.out.below (below1 _ _)) h10).mono ?_
    rintro e w1 ⟨a2, c2, rfl, hS2, hb1⟩
    have HS2 := hide hS2
    have HB := hide (bthen (below1 _ _) hb1)
    clear hS2 hb1
    go_wp2_with fail
    refine (rise_len _ _ (l.map (·.1)) l.length _ HS2.out (List.length_map _) (by unfold maxLen; omega)).mono ?_
    rintro e w2 ⟨rfl, rfl⟩
    go_wp2
    go_ret
    exact ⟨by rw [HW.out, Bool.true_and]; rfl, HB.out⟩

set_option maxHeartbeats 2000000 in
set_option maxRecDepth 100000 in
theorem names_list (q p : Int) (a : Option Addr) (n c : Nat) (a' : Option Addr) (c' : Nat) (l : List Int) (w : World) (h : SegI w a' l) (hn : l.length ≤ maxLen) :
    Calls Tryz.prog 149 #[.agg #[.int .i64 3, .int .i64 q, .int .i64 p, .slice a n c, .slice a' l.length c']] w fun e w' => e = .returned (.bool (withinB l.length 1 20 && rises l)) ∧ Below w.heap.size w w' := by
  have HS := hide h
  have HN := hide hn
  unfold maxLen at hn
  clear h
  go_enter Tryz.func149, Tryz.ntmps149
  go_wp2_with fail
  refine (sWithin_any l.length 1 20 _).mono ?_
  rintro e w1 ⟨rfl, rfl⟩
  cases hw : withinB l.length 1 20 with
  | false =>
    have HW := hide hw
    clear hw
    go_wp2
    go_ret
    exact ⟨by rw [HW.out, Bool.false_and]; rfl, below1 _ _⟩
  | true =>
    have HW := hide hw
    clear hw
    go_wp2_with fail
    refine (sRise_any _ _ l _ (HS.out.below (below1 _ _)) HN.out).mono ?_
    rintro e w2 ⟨rfl, rfl⟩
    go_wp2
    go_ret
    exact ⟨by rw [HW.out, Bool.true_and]; rfl, below1 _ _⟩

set_option maxHeartbeats 2000000 in
theorem names_plain (k q p : Int) (a : Option Addr) (n c : Nat) (a' : Option Addr) (n' c' : Nat) (w : World) (hk : k = 1 ∨ k = 4) :
    Calls Tryz.prog 149 #[.agg #[.int .i64 k, .int .i64 q, .int .i64 p, .slice a n c, .slice a' n' c']] w fun e w' => e = .returned (.bool true) ∧ Below w.heap.size w w' := by
  rcases hk with rfl | rfl
  all_goals
    go_enter Tryz.func149, Tryz.ntmps149
    go_wp2
    go_ret
    exact ⟨rfl, below1 _ _⟩

/-- Are what a mark names blocks that rise, and as many as may be? -/
def namesB (m : Mk) : Bool := if m.kind = 2 then withinB m.tags.length 1 10 && rises (m.tags.map (·.1)) else if m.kind = 3 then withinB m.blocks.length 1 20 && rises m.blocks else true

theorem names_good {m : Mk} (h : ¬ ((m.kind ≠ 1 ∧ m.pos ≠ 0) ∨ (m.kind ≠ 2 ∧ m.tags ≠ []) ∨ (m.kind ≠ 3 ∧ m.blocks ≠ []))) (hb : namesB m = true) :
    ¬ ((m.kind = 2 ∧ (m.tags.length < 1 ∨ 10 < m.tags.length)) ∨ (m.kind = 3 ∧ (m.blocks.length < 1 ∨ 20 < m.blocks.length)) ∨ rises (m.tags.map (·.1)) = false ∨ rises m.blocks = false) := by
  have t0 : m.kind ≠ 2 → m.tags = [] := fun e => Classical.byContradiction fun x => h (.inr (.inl ⟨e, x⟩))
  have b0 : m.kind ≠ 3 → m.blocks = [] := fun e => Classical.byContradiction fun x => h (.inr (.inr ⟨e, x⟩))
  unfold namesB at hb
  rintro (⟨hk, hl⟩ | ⟨hk, hl⟩ | hr | hr)
  · rw [if_pos hk, Bool.and_eq_true] at hb
    have := withinB_yes hb.1
    omega
  · rw [if_neg (by omega), if_pos hk, Bool.and_eq_true] at hb
    have := withinB_yes hb.1
    omega
  · by_cases hk : m.kind = 2
    · rw [if_pos hk, Bool.and_eq_true] at hb
      rw [hr] at hb; cases hb.2
    · rw [t0 hk] at hr; cases hr
  · by_cases hk : m.kind = 3
    · rw [if_neg (by omega), if_pos hk, Bool.and_eq_true] at hb
      rw [hr] at hb; cases hb.2
    · rw [b0 hk] at hr; cases hr
theorem names_bad {m : Mk} (hb : namesB m = false) :
    (m.kind = 2 ∧ (m.tags.length < 1 ∨ 10 < m.tags.length)) ∨ (m.kind = 3 ∧ (m.blocks.length < 1 ∨ 20 < m.blocks.length)) ∨ rises (m.tags.map (·.1)) = false ∨ rises m.blocks = false := by
  unfold namesB at hb
  by_cases hk : m.kind = 2
  · rw [if_pos hk, Bool.and_eq_false_iff] at hb
    rcases hb with hb | hb
    · have := withinB_no hb
      exact .inl ⟨hk, by omega⟩
    · exact .inr (.inr (.inl hb))
  · rw [if_neg hk] at hb
    by_cases hk3 : m.kind = 3
    · rw [if_pos hk3, Bool.and_eq_false_iff] at hb
      rcases hb with hb | hb
      · have := withinB_no hb
        exact .inr (.inl ⟨hk3, by omega⟩)
      · exact .inr (.inr (.inr hb))
    · rw [if_neg hk3] at hb; cases hb

theorem names_any (v : Value) (m : Mk) (w : World) (h : IsMk w v m) (hk : m.kind = 1 ∨ m.kind = 2 ∨ m.kind = 3 ∨ m.kind = 4) :
    Calls Tryz.prog 149 #[v] w fun e w' => e = .returned (.bool (namesB m)) ∧ Below w.heap.size w w' := by
  obtain ⟨a, c, a', c', rfl, hS, hW, hn, hm⟩ := h
  obtain ⟨kind, seq, pos, tags, blocks⟩ := m
  dsimp only at hk
  rcases hk with rfl | rfl | rfl | rfl
  · exact names_plain 1 seq pos a _ c a' _ c' w (.inl rfl)
  · exact names_tags seq pos a c a' _ c' tags w hS hn
  · exact names_list seq pos a _ c a' c' blocks w hW hm
  · exact names_plain 4 seq pos a _ c a' _ c' w (.inr rfl)

set_option maxHeartbeats 2000000 in
set_option maxRecDepth 100000 in
/-- stamp.Good: what is wrong with a mark. -/
theorem stampGood_any (v : Value) (m : Mk) (w : World) (h : IsMk w v m) :
    Calls Tryz.prog 108 #[v] w fun e w' => e = .returned (.int .i64 (goodM m)) ∧ Below w.heap.size w w' := by
  have HI := hide h
  obtain ⟨a, c, a', c', rfl, _, _, hn, hm⟩ := h
  go_enter Tryz.func108, Tryz.ntmps108
  go_wp2_with fail
  refine (sWithin_any m.kind 1 4 _).mono ?_
  rintro e w1 ⟨rfl, rfl⟩
  cases h1 : withinB m.kind 1 4 with
  | false =>
    have HE : Hid (goodM m = 3) := by rw [Hid, goodM, if_pos (by have := withinB_no h1; omega)]
    clear h1
    go_wp2
    go_ret
    exact ⟨by rw [HE.out]; rfl, below1 _ _⟩
  | true =>
    have hk := withinB_yes h1
    clear h1
    have n1 : ¬ (m.kind < 1 ∨ 4 < m.kind) := by omega
    go_wp2_with fail
    refine (sWithin_any m.seq 1 2147483647 _).mono ?_
    rintro e w1 ⟨rfl, rfl⟩
    cases h2 : withinB m.seq 1 2147483647 with
    | false =>
      have HE : Hid (goodM m = 2) := by rw [Hid, goodM, if_neg n1, if_pos (by have := withinB_no h2; omega)]
      clear h2 n1
      go_wp2
      go_ret
      exact ⟨by rw [HE.out]; rfl, below1 _ _⟩
    | true =>
      have hq := withinB_yes h2
      clear h2
      go_wp2_with fail
      refine (sWithin_any m.pos 0 23 _).mono ?_
      rintro e w1 ⟨rfl, rfl⟩
      cases h3 : withinB m.pos 0 23 with
      | false =>
        have HE : Hid (goodM m = 2) := by rw [Hid, goodM, if_neg n1, if_pos (by have := withinB_no h3; omega)]
        clear h3 n1
        go_wp2
        go_ret
        exact ⟨by rw [HE.out]; rfl, below1 _ _⟩
      | true =>
        have hp := withinB_yes h3
        clear h3
        have n2 : ¬ (m.seq < 1 ∨ 2147483647 < m.seq ∨ m.pos < 0 ∨ 23 < m.pos) := by omega
        have hk4 : m.kind = 1 ∨ m.kind = 2 ∨ m.kind = 3 ∨ m.kind = 4 := by omega
        have HK4 := hide hk4
        have HN1 := hide n1
        have HN2 := hide n2
        clear hk4 n1 n2 hk hq hp
        go_wp2_with fail
        refine (foreign_any m.kind m.pos a m.tags.length c a' m.blocks.length c' _ HK4.out m.seq hn hm).mono ?_
        rintro e w1 ⟨rfl, hb1⟩
        have hs1 : w.heap.size < w1.heap.size := by have := hb1.size; simp at this; omega
        obtain ⟨⟨x0, x1, x2, x3, x4⟩, _⟩ := box5 (one1 hb1)
        have HB := hide (bthen (below1 _ _) hb1)
        clear hb1
        cases h4 : foreignB m.kind m.pos m.tags.length m.blocks.length with
        | true =>
          have HE : Hid (goodM m = 1) := by
            rw [Hid, goodM, if_neg HN1.out, if_neg HN2.out, if_pos]
            simp only [foreignB, decide_eq_true_eq] at h4
            rcases h4 with h | h | h
            · exact .inl ⟨h.2, h.1⟩
            · exact .inr (.inl ⟨h.2, fun e => by rw [e] at h; simp at h⟩)
            · exact .inr (.inr ⟨h.2, fun e => by rw [e] at h; simp at h⟩)
          clear h4
          go_wp2
          go_ret
          exact ⟨by rw [HE.out]; rfl, HB.out⟩
        | false =>
          have H4 : Hid (¬ ((m.kind ≠ 1 ∧ m.pos ≠ 0) ∨ (m.kind ≠ 2 ∧ m.tags ≠ []) ∨ (m.kind ≠ 3 ∧ m.blocks ≠ []))) := by
            intro h
            have : foreignB m.kind m.pos m.tags.length m.blocks.length = true := by
              simp only [foreignB, decide_eq_true_eq]
              rcases h with h | h | h
              · exact .inl ⟨h.2, h.1⟩
              · exact .inr (.inl ⟨List.length_pos_iff.2 h.2, h.1⟩)
              · exact .inr (.inr ⟨List.length_pos_iff.2 h.2, h.1⟩)
            rw [h4] at this; cases this
          clear h4
          go_wp2_with fail
          refine (names_any _ m _ (HI.out.below HB.out) HK4.out).mono ?_
          rintro e w2 ⟨rfl, hb2⟩
          have HB2 := hide (bthen HB.out hb2)
          clear hb2 x0 x1 x2 x3 x4
          cases h5 : namesB m with
          | true =>
            have HE : Hid (goodM m = 0) := by
              rw [Hid, goodM, if_neg HN1.out, if_neg HN2.out, if_neg H4.out, if_neg]
              exact names_good H4.out h5
            clear h5
            go_wp2
            go_ret
            exact ⟨by rw [HE.out]; rfl, HB2.out⟩
          | false =>
            have HE : Hid (goodM m = 2) := by
              rw [Hid, goodM, if_neg HN1.out, if_neg HN2.out, if_neg H4.out, if_pos]
              exact names_bad h5
            clear h5
            go_wp2
            go_ret
            exact ⟨by rw [HE.out]; rfl, HB2.out⟩

end Go.Proofs.YtjnpndfpajjihabGreat
