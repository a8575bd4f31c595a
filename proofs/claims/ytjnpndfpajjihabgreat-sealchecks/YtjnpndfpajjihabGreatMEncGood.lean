/-
  The walk of the document's own GoodMark: marks whose form is right.
  The walk of the document's own GoodMark.
  The walk of the document's own GoodMark: marks whose form is right.
  The document's own GoodMark, whole.
  The walk of the document's own byteOf.
  The walk of the document's own FitText.
  The walk of the document's own EncodeMark.
  The walk of the document's own EncodeMark: commit blocks and lists.
  The walk of the document's own EncodeMark: descriptors; and EncodeMark, whole.
-/
import Derived.Test.YtjnpndfpajjihabGreatMCore
import Derived.Test.YtjnpndfpajjihabGreatIntRows
import Derived.Test.YtjnpndfpajjihabGreatRising
import Derived.Test.YtjnpndfpajjihabGreatByteOne
import Derived.Test.YtjnpndfpajjihabGreatFitPure
import Derived.Test.YtjnpndfpajjihabGreatMEncPure
import Derived.Deep.RegionHeld
namespace Go.Proofs.YtjnpndfpajjihabGreat
open Go.RowKit

/-- The numbers of the first tags. -/
def tagNums (l : List (Int × Bool)) (k : Nat) : List Int := (l.take k).map (·.1)

/-- What Good answers of a descriptor whose form is right. -/
def tagsE (l : List (Int × Bool)) : Int := if (l.length < 1 ∨ 10 < l.length) ∨ rises (l.map (·.1)) = false then 2 else 0

set_option maxHeartbeats 2000000 in
theorem goodMark_kind (k q p : Int) (a : Option Addr) (n c : Nat) (a' : Option Addr) (n' c' : Nat) (w : World) (h : k < 1 ∨ 4 < k) :
    Calls Tryz.prog 115 #[.agg #[.int .i64 k, .int .i64 q, .int .i64 p, .slice a n c, .slice a' n' c']] w fun e w' => e = .returned (.int .i64 3) ∧ Below w.heap.size w w' := by
  by_cases h1 : k < 1
  · go_enter Tryz.func115, Tryz.ntmps115
    go_wp2
    go_ret
    exact ⟨rfl, below1 _ _⟩
  · have h2 : 4 < k := by omega
    go_enter Tryz.func115, Tryz.ntmps115
    go_wp2
    go_ret
    exact ⟨rfl, below1 _ _⟩

set_option maxHeartbeats 2000000 in
theorem goodMark_range (k q p : Int) (a : Option Addr) (n c : Nat) (a' : Option Addr) (n' c' : Nat) (w : World) (hk1 : 1 ≤ k) (hk2 : k ≤ 4) (h : q < 1 ∨ 2147483647 < q ∨ p < 0 ∨ 23 < p) :
    Calls Tryz.prog 115 #[.agg #[.int .i64 k, .int .i64 q, .int .i64 p, .slice a n c, .slice a' n' c']] w fun e w' => e = .returned (.int .i64 2) ∧ Below w.heap.size w w' := by
  by_cases h1 : q < 1
  · go_enter Tryz.func115, Tryz.ntmps115
    go_wp2
    go_ret
    exact ⟨rfl, below1 _ _⟩
  · by_cases h2 : 2147483647 < q
    · go_enter Tryz.func115, Tryz.ntmps115
      go_wp2
      go_ret
      exact ⟨rfl, below1 _ _⟩
    · by_cases h3 : p < 0
      · go_enter Tryz.func115, Tryz.ntmps115
        go_wp2
        go_ret
        exact ⟨rfl, below1 _ _⟩
      · have h4 : 23 < p := by omega
        go_enter Tryz.func115, Tryz.ntmps115
        go_wp2
        go_ret
        exact ⟨rfl, below1 _ _⟩

set_option maxHeartbeats 4000000 in
theorem goodMark_form (k q p : Int) (a : Option Addr) (n c : Nat) (a' : Option Addr) (n' c' : Nat) (w : World) (hk1 : 1 ≤ k) (hk2 : k ≤ 4) (hq1 : 1 ≤ q) (hq2 : q ≤ 2147483647) (hp1 : 0 ≤ p) (hp2 : p ≤ 23) (hn : n ≤ maxLen) (hn' : n' ≤ maxLen)
    (h : (k ≠ 1 ∧ p ≠ 0) ∨ (k ≠ 2 ∧ n ≠ 0) ∨ (k ≠ 3 ∧ n' ≠ 0)) :
    Calls Tryz.prog 115 #[.agg #[.int .i64 k, .int .i64 q, .int .i64 p, .slice a n c, .slice a' n' c']] w fun e w' => e = .returned (.int .i64 1) ∧ Below w.heap.size w w' := by
  unfold maxLen at hn hn'
  have t1 : (k != 1) = decide (k ≠ 1) := by by_cases e : k = 1 <;> simp [e]
  by_cases h1 : k ≠ 1 ∧ p ≠ 0
  · have e1 : (k != 1) = true := by simpa using h1.1
    have e2 : (p != 0) = true := by simpa using h1.2
    clear h h1 t1
    go_enter Tryz.func115, Tryz.ntmps115
    go_wp2
    go_ret
    exact ⟨rfl, below1 _ _⟩
  · by_cases h2 : k ≠ 2 ∧ n ≠ 0
    · have e2 : (k != 2) = true := by simpa using h2.1
      have e3 : ((n : Int) != 0) = true := by simp; exact h2.2
      by_cases hk : k = 1
      · subst hk
        clear h h1 h2 t1 e2
        go_enter Tryz.func115, Tryz.ntmps115
        go_wp2
        go_ret
        exact ⟨rfl, below1 _ _⟩
      · have hp : p = 0 := by
          by_cases e : p = 0
          · exact e
          · exact absurd ⟨hk, e⟩ h1
        subst hp
        have e1 : (k != 1) = true := by simpa using hk
        clear h h1 h2 t1
        go_enter Tryz.func115, Tryz.ntmps115
        go_wp2
        go_ret
        exact ⟨rfl, below1 _ _⟩
    · have h3 : k ≠ 3 ∧ n' ≠ 0 := by
        rcases h with h | h | h
        · exact absurd h h1
        · exact absurd h h2
        · exact h
      have e3 : ((n' : Int) != 0) = true := by simp; exact h3.2
      have hk : k = 1 ∨ k = 2 ∨ k = 4 := by omega
      rcases hk with rfl | rfl | rfl
      · have hz : n = 0 := by omega
        subst hz
        clear h h1 h2 h3 t1
        go_enter Tryz.func115, Tryz.ntmps115
        go_wp2
        go_ret
        exact ⟨rfl, below1 _ _⟩
      · have hz : p = 0 := by omega
        subst hz
        clear h h1 h2 h3 t1
        go_enter Tryz.func115, Tryz.ntmps115
        go_wp2
        go_ret
        exact ⟨rfl, below1 _ _⟩
      · have hz : p = 0 := by omega
        have hz2 : n = 0 := by omega
        subst hz hz2
        clear h h1 h2 h3 t1
        go_enter Tryz.func115, Tryz.ntmps115
        go_wp2
        go_ret
        exact ⟨rfl, below1 _ _⟩


theorem rising_len (a : Option Addr) (c : Nat) (l : List Int) (n : Nat) (w : World) (h : SegI w a l) (hl : l.length = n) (hn : n ≤ maxLen) :
    Calls Tryz.prog 97 #[.slice a n c] w fun e w' => e = .returned (.bool (rises l)) ∧ w = w' := by
  subst hl
  exact rising_any a c l w h hn

theorem rising_nil (a : Option Addr) (c : Nat) (w : World) :
    Calls Tryz.prog 97 #[.slice a 0 c] w fun e w' => e = .returned (.bool true) ∧ w = w' := rising_any a c [] w (.inl rfl) (Nat.zero_le _)

set_option maxHeartbeats 4000000 in
set_option maxRecDepth 100000 in
theorem goodMark_plain (k q p : Int) (a : Option Addr) (c : Nat) (a' : Option Addr) (c' : Nat) (w : World) (hk : k = 1 ∨ (k = 4 ∧ p = 0)) (hq1 : 1 ≤ q) (hq2 : q ≤ 2147483647) (hp1 : 0 ≤ p) (hp2 : p ≤ 23) :
    Calls Tryz.prog 115 #[.agg #[.int .i64 k, .int .i64 q, .int .i64 p, .slice a 0 c, .slice a' 0 c']] w fun e w' => e = .returned (.int .i64 0) ∧ Below w.heap.size w w' := by
  rcases hk with rfl | ⟨rfl, rfl⟩
  all_goals
    go_enter Tryz.func115, Tryz.ntmps115
    go_wp2
    refine wp_loop_rounds 1 ?_
    rw [rounds_succ]
    go_wp2_with fail
    refine (rising_nil _ _ _).mono ?_
    rintro e w1 ⟨rfl, rfl⟩
    go_wp2_with fail
    refine (rising_nil _ _ _).mono ?_
    rintro e w1 ⟨rfl, rfl⟩
    go_wp2
    go_ret
    exact ⟨rfl, below1 _ _⟩

set_option maxHeartbeats 4000000 in
set_option maxRecDepth 100000 in
theorem goodMark_list (q : Int) (a : Option Addr) (c : Nat) (a' : Option Addr) (c' : Nat) (l : List Int) (w : World) (hl : SegI w a' l) (hn : l.length ≤ maxLen) (hq1 : 1 ≤ q) (hq2 : q ≤ 2147483647) :
    Calls Tryz.prog 115 #[.agg #[.int .i64 3, .int .i64 q, .int .i64 0, .slice a 0 c, .slice a' l.length c']] w fun e w' =>
      e = .returned (.int .i64 (if (l.length < 1 ∨ 20 < l.length) ∨ rises l = false then 2 else 0)) ∧ Below w.heap.size w w' := by
  have HL := hide hl
  have HN := hide hn
  unfold maxLen at hn
  clear hl
  by_cases h1 : l.length < 1
  · have h1' : (l.length : Int) < 1 := by omega
    rw [if_pos (.inl (.inl h1))]
    go_enter Tryz.func115, Tryz.ntmps115
    go_wp2
    refine wp_loop_rounds 1 ?_
    rw [rounds_succ]
    go_wp2
    go_ret
    exact ⟨rfl, below1 _ _⟩
  · have h1' : ¬ (l.length : Int) < 1 := by omega
    by_cases h2 : 20 < l.length
    · have h2' : 20 < (l.length : Int) := by omega
      rw [if_pos (.inl (.inr h2))]
      go_enter Tryz.func115, Tryz.ntmps115
      go_wp2
      refine wp_loop_rounds 1 ?_
      rw [rounds_succ]
      go_wp2
      go_ret
      exact ⟨rfl, below1 _ _⟩
    · have h2' : ¬ 20 < (l.length : Int) := by omega
      have hif : (if (l.length < 1 ∨ 20 < l.length) ∨ rises l = false then (2 : Int) else 0) = if rises l = false then 2 else 0 := by simp [h1, h2]
      rw [hif]
      clear hif h1 h2
      cases hr : rises l
      all_goals
        have HR := hide hr
        clear hr
        go_enter Tryz.func115, Tryz.ntmps115
        go_wp2
        refine wp_loop_rounds 1 ?_
        rw [rounds_succ]
        go_wp2_with fail
        refine (rising_nil _ _ _).mono ?_
        rintro e w1 ⟨rfl, rfl⟩
        go_wp2_with fail
        refine (rising_any _ _ l _ (HL.out.below (below1 _ _)) HN.out).mono ?_
        rintro e w1 ⟨rfl, rfl⟩
        rw [HR.out]
        go_wp2
        go_ret
        exact ⟨rfl, below1 _ _⟩

set_option maxHeartbeats 4000000 in
set_option maxRecDepth 100000 in
theorem goodMark_tags (q : Int) (a : Option Addr) (c : Nat) (a' : Option Addr) (c' : Nat) (l : List (Int × Bool)) (w : World) (hl : SegT w a l) (hn : l.length ≤ maxLen) (h8 : l.length * 8 ≤ 140737488355328) (hq1 : 1 ≤ q) (hq2 : q ≤ 2147483647) :
    Calls Tryz.prog 115 #[.agg #[.int .i64 2, .int .i64 q, .int .i64 0, .slice a l.length c, .slice a' 0 c']] w fun e w' =>
      e = .returned (.int .i64 (tagsE l)) ∧ Below w.heap.size w w' := by
  have HL := hide hl
  have HN := hide hn
  unfold maxLen at hn
  clear hl
  obtain ⟨i0, hi, hz0, hz1, hz2⟩ := info_parts infoI
  go_enter Tryz.func115, Tryz.ntmps115
  go_wp2
  go_loopw [3, 65] (fun v i wr => ∃ k : Nat, k ≤ l.length ∧ i = .int .i64 k ∧ Hid (wr.ownsRow (w.heap.size + 1) 3 1 v k (cellsI (tagNums l k))) ∧ Below (w.heap.size + 1) (w.alloc (Obj.cells #[.int .i64 2, .int .i64 q, .int .i64 0, .slice a l.length c, .slice a' 0 c'] 103)) wr) (fun _ i _ => l.length - (intOf i).toNat)
  case atStart => exact ⟨0, Nat.zero_le _, rfl, World.ownsRow_nil _ _ _ _, Below.refl _ _⟩
  case round =>
    obtain ⟨k, hk, rfl, hown, hbr⟩ := hrel
    have hsr : w.heap.size + 1 ≤ wr.heap.size := by have := hbr.size; simp at this; omega
    have hbw : Below w.heap.size w wr := (below1 _ _).trans (hbr.mono (by omega))
    by_cases hlt : k < l.length
    · obtain ⟨b, off, rfl, hb, hc⟩ := HL.out.resolve_left (by intro e; rw [e] at hlt; simp at hlt)
      obtain ⟨x, hx⟩ : ∃ x, x = l.getD k (0, false) := ⟨_, rfl⟩
      obtain ⟨hc1, hc2⟩ := hc k hlt
      rw [← hx] at hc1 hc2
      have HX : Hid (l[k]? = some x) := by rw [hx]; exact getD_at _ _ _ hlt
      have g1 := cellKeep hbw hb hc1
      have g2 := cellKeep hbw hb hc2
      clear hx hc hc1 hc2
      obtain ⟨n, f⟩ := x
      have hlt' : (k : Int) < (l.length : Int) := by omega
      have HT : Hid (cellsI (tagNums l (k + 1)) = cellsI (tagNums l k) ++ cellsI [n]) := by
        rw [Hid, tagNums, List.take_add_one, HX.out]; simp [cellsI, tagNums]
      go_wp2_with (at_builtin; refine wpList_append_own _ rfl _ _ 23 rfl (w.heap.size + 1) 3 i0 (.int .i64 0) 1 8 Tryz.underlying23 hi hz0 hz1 hz2 rfl (by decide) _ _ _ rfl ((hown.out.alloc _).alloc _) ⟨wr.heap.size + 1, 0, none⟩ 1 1 (cellsI [n]) rfl ?qc1 ?qc2 ?qc3 ?qc4 ?qc5 ?qc6 ?_)
      case qc1 => rfl
      case qc2 =>
        intro j u hj
        match j, hj with
        | 0, hj => simp [cellsI] at hj; subst hj; simp [go_sem]
      case qc3 => exact cellsI_one
      case qc4 => unfold maxLen; omega
      case qc5 => omega
      case qc6 => first | omega | (simp; omega)
      intro v4 w4 hown4 hgrow4 _
      have hb4 : Below (w.heap.size + 1) (w.alloc (Obj.cells #[.int .i64 2, .int .i64 q, .int .i64 0, .slice (some ⟨b, off, none⟩) l.length c, .slice a' 0 c'] 103)) w4 :=
        ((hbr.alloc hsr _).alloc (by simp; omega) _).grown hgrow4 (by simp; omega) (fun k hk => (hown.out.lt k hk).1)
      rw [← HT.out] at hown4
      have HO := hide hown4
      clear hown4 hgrow4 hown hbr
      go_wp2
      go_roundw
      case rel => exact ⟨k + 1, by omega, by go_num, HO, hb4⟩
      case measure => simp [intOf]; omega
    · have e : k = l.length := by omega
      subst e
      have hown' := hown.out
      rw [tagNums, List.take_length] at hown'
      obtain ⟨a2, c2, hv, hS, _⟩ := SegI.of_owns hown'
      have HS := hide hS
      rw [List.length_map] at hv
      subst hv
      have x0 : wr.cell? ⟨w.heap.size, 0, none⟩ = some (.int .i64 2) := (hbr.cell (p := ⟨w.heap.size, 0, none⟩) (by simp)).trans (by simp [go_sem])
      have x4 : wr.cell? ⟨w.heap.size, 4, none⟩ = some (.slice a' 0 c') := (hbr.cell (p := ⟨w.heap.size, 4, none⟩) (by simp)).trans (by simp [go_sem])
      have HB := hide hbw
      clear hown hown' hS hbr hbw hlt
      by_cases h1 : l.length < 1
      · have h1' : (l.length : Int) < 1 := by omega
        have HE : Hid (tagsE l = 2) := by rw [Hid, tagsE, if_pos (.inl (.inl h1))]
        go_wp2
        go_ret
        exact ⟨by rw [HE.out]; rfl, HB.out⟩
      · have h1' : ¬ (l.length : Int) < 1 := by omega
        by_cases h2 : 10 < l.length
        · have h2' : 10 < (l.length : Int) := by omega
          have HE : Hid (tagsE l = 2) := by rw [Hid, tagsE, if_pos (.inl (.inr h2))]
          go_wp2
          go_ret
          exact ⟨by rw [HE.out]; rfl, HB.out⟩
        · have h2' : ¬ 10 < (l.length : Int) := by omega
          have HE : Hid (tagsE l = if rises (l.map (·.1)) = false then 2 else 0) := by simp [Hid, tagsE, h1, h2]
          have hlm : (l.map (·.1)).length = l.length := List.length_map _
          have HLM := hide hlm
          clear h1 h2 hlm
          cases hr : rises (l.map (·.1))
          · have HR := hide hr
            clear hr
            go_wp2_with fail
            refine (rising_len _ _ (l.map (·.1)) l.length _ HS.out HLM.out HN.out).mono ?_
            rintro e w1 ⟨rfl, rfl⟩
            rw [HR.out]
            go_wp2
            go_ret
            exact ⟨by rw [HE.out, HR.out]; rfl, HB.out⟩
          · have HR := hide hr
            clear hr
            go_wp2_with fail
            refine (rising_len _ _ (l.map (·.1)) l.length _ HS.out HLM.out HN.out).mono ?_
            rintro e w1 ⟨rfl, rfl⟩
            rw [HR.out]
            go_wp2_with fail
            refine (rising_nil _ _ _).mono ?_
            rintro e w1 ⟨rfl, rfl⟩
            go_wp2
            go_ret
            exact ⟨by rw [HE.out, HR.out]; rfl, HB.out⟩


set_option maxHeartbeats 400000 in
/-- wastebookref.GoodMark: what is wrong with a mark. -/
theorem goodMark_any (v : Value) (m : Mk) (w : World) (h : IsMk w v m) (h8 : m.tags.length * 8 ≤ 140737488355328) :
    Calls Tryz.prog 115 #[v] w fun e w' => e = .returned (.int .i64 (goodM m)) ∧ Below w.heap.size w w' := by
  obtain ⟨a, c, a', c', rfl, hT, hI, hn, hn'⟩ := h
  by_cases h1 : m.kind < 1 ∨ 4 < m.kind
  · rw [goodM, if_pos h1]
    exact goodMark_kind _ _ _ _ _ _ _ _ _ w h1
  · by_cases h2 : m.seq < 1 ∨ 2147483647 < m.seq ∨ m.pos < 0 ∨ 23 < m.pos
    · rw [goodM, if_neg h1, if_pos h2]
      exact goodMark_range _ _ _ _ _ _ _ _ _ w (by omega) (by omega) h2
    · by_cases h3 : (m.kind ≠ 1 ∧ m.pos ≠ 0) ∨ (m.kind ≠ 2 ∧ m.tags ≠ []) ∨ (m.kind ≠ 3 ∧ m.blocks ≠ [])
      · rw [goodM, if_neg h1, if_neg h2, if_pos h3]
        refine goodMark_form _ _ _ _ _ _ _ _ _ w (by omega) (by omega) (by omega) (by omega) (by omega) (by omega) hn hn' ?_
        rcases h3 with h | ⟨h, h'⟩ | ⟨h, h'⟩
        · exact .inl h
        · exact .inr (.inl ⟨h, fun e => h' (List.eq_nil_of_length_eq_zero e)⟩)
        · exact .inr (.inr ⟨h, fun e => h' (List.eq_nil_of_length_eq_zero e)⟩)
      · have hg : goodM m = if (m.kind = 2 ∧ (m.tags.length < 1 ∨ 10 < m.tags.length)) ∨ (m.kind = 3 ∧ (m.blocks.length < 1 ∨ 20 < m.blocks.length)) ∨ rises (m.tags.map (·.1)) = false ∨ rises m.blocks = false then 2 else 0 := by
          rw [goodM, if_neg h1, if_neg h2, if_neg h3]
        have hk : m.kind = 1 ∨ m.kind = 2 ∨ m.kind = 3 ∨ m.kind = 4 := by omega
        have f1 : m.kind ≠ 1 → m.pos = 0 := fun e => by
          by_cases x : m.pos = 0
          · exact x
          · exact absurd (.inl ⟨e, x⟩) h3
        have f2 : m.kind ≠ 2 → m.tags = [] := fun e => by
          by_cases x : m.tags = []
          · exact x
          · exact absurd (.inr (.inl ⟨e, x⟩)) h3
        have f3 : m.kind ≠ 3 → m.blocks = [] := fun e => by
          by_cases x : m.blocks = []
          · exact x
          · exact absurd (.inr (.inr ⟨e, x⟩)) h3
        have hq1 : 1 ≤ m.seq := by omega
        have hq2 : m.seq ≤ 2147483647 := by omega
        have hp1 : 0 ≤ m.pos := by omega
        have hp2 : m.pos ≤ 23 := by omega
        clear h1 h2 h3
        obtain ⟨kind, seq, pos, tags, blocks⟩ := m
        dsimp only at *
        rw [hg]
        rcases hk with rfl | rfl | rfl | rfl
        · obtain rfl := f2 (by decide)
          obtain rfl := f3 (by decide)
          rw [if_neg (by simp [rises, risesFrom])]
          exact goodMark_plain 1 seq pos a c a' c' w (.inl rfl) hq1 hq2 hp1 hp2
        · obtain rfl := f1 (by decide)
          obtain rfl := f3 (by decide)
          rw [show (if ((2 : Int) = 2 ∧ (tags.length < 1 ∨ 10 < tags.length)) ∨ ((2 : Int) = 3 ∧ (([] : List Int).length < 1 ∨ 20 < ([] : List Int).length)) ∨ rises (tags.map (·.1)) = false ∨ rises [] = false then (2 : Int) else 0) = tagsE tags from by simp [tagsE, rises, risesFrom]]
          exact goodMark_tags seq a c a' c' tags w hT hn h8 hq1 hq2
        · obtain rfl := f1 (by decide)
          obtain rfl := f2 (by decide)
          rw [show (if ((3 : Int) = 2 ∧ (([] : List (Int × Bool)).length < 1 ∨ 10 < ([] : List (Int × Bool)).length)) ∨ ((3 : Int) = 3 ∧ (blocks.length < 1 ∨ 20 < blocks.length)) ∨ rises (([] : List (Int × Bool)).map (·.1)) = false ∨ rises blocks = false then (2 : Int) else 0) = if (blocks.length < 1 ∨ 20 < blocks.length) ∨ rises blocks = false then 2 else 0 from by simp [rises, risesFrom]]
          exact goodMark_list seq a c a' c' blocks w hI hn' hq1 hq2
        · obtain rfl := f1 (by decide)
          obtain rfl := f2 (by decide)
          obtain rfl := f3 (by decide)
          rw [if_neg (by simp [rises, risesFrom])]
          exact goodMark_plain 4 seq 0 a c a' c' w (.inr ⟨rfl, rfl⟩) hq1 hq2 hp1 hp2


set_option maxHeartbeats 1000000 in
theorem byteOf_any (n : Nat) (w : World) (hn : n < 256) :
    Calls Tryz.prog 116 #[.int .i64 n] w fun e w' => e = .returned (.string (oneB n)) ∧ Below w.heap.size w w' := by
  have hcv : (convert 155 9 (.slice (some ⟨w.heap.size, 0, none⟩) 1 1)).run Tryz.prog (w.alloc (Obj.cells #[.int .u8 (n : Int)] 5)) = .ok (.string (oneB n)) (w.alloc (Obj.cells #[.int .u8 (n : Int)] 5)) := by
    refine run_convert_bytes_back (P := Tryz.prog) _ 155 9 5 ⟨w.heap.size, 0, none⟩ 1 [UInt8.ofNat n] Tryz.underlying155 Tryz.underlying5 Tryz.underlying9 (fun j hj => ?_)
    have : j = 0 := by simp at hj; omega
    subst this
    have e : (UInt8.ofNat n).toNat = n := by simp; omega
    simp only [List.getElem_cons_zero, e]
    simp [Addr.add]
  have h0 : (0 : Int) ≤ (n : Int) := by omega
  have h1 : (n : Int) ≤ 255 := by omega
  go_enter Tryz.func116, Tryz.ntmps116
  go_wp2
  go_ret
  exact ⟨rfl, below1 _ _⟩


/-- The array of FitText behind k rounds. -/
def fitRow (s : ByteArray) (k : Nat) : List UInt8 := s.data.toList.take k ++ List.replicate (32 - k) 0

theorem fitRow_length (s : ByteArray) (k : Nat) (h : k ≤ s.size) (h32 : k ≤ 32) : (fitRow s k).length = 32 := by
  have : s.data.toList.length = s.size := rfl
  simp [fitRow]; omega
theorem fitRow_set (s : ByteArray) (k : Nat) (h : k < s.size) (h32 : k < 32) : (fitRow s k).set k s[k] = fitRow s (k + 1) := by
  have hl : s.data.toList.length = s.size := rfl
  have hk : (s.data.toList.take k).length = k := by rw [List.length_take]; omega
  rw [fitRow, List.set_append_right _ _ (by omega), hk, Nat.sub_self, show 32 - k = (31 - k) + 1 from by omega, List.replicate_succ, List.set_cons_zero, fitRow]
  rw [show s.data.toList.take (k + 1) = s.data.toList.take k ++ [s[k]] from by rw [List.take_succ_eq_append_getElem (by simpa using h)]; rfl]
  rw [show 32 - (k + 1) = 31 - k from by omega]
  simp
theorem fitRow_end (s : ByteArray) (k : Nat) (h : k ≤ s.size) (h32 : k ≤ 32) (he : k = s.size ∨ k = 32) : fitRow s k = fitL s := by
  have hl : s.data.toList.length = s.size := rfl
  rw [fitRow, fitL]
  rcases he with e | e
  · rw [e, List.take_of_length_le (by omega), List.take_of_length_le (by omega)]
  · subst e
    rw [show 32 - 32 = 32 - s.size from by omega]

theorem fit0 : (#[Value.int .u8 0, Value.int .u8 0, Value.int .u8 0, Value.int .u8 0, Value.int .u8 0, Value.int .u8 0, Value.int .u8 0, Value.int .u8 0, Value.int .u8 0, Value.int .u8 0, Value.int .u8 0, Value.int .u8 0, Value.int .u8 0, Value.int .u8 0, Value.int .u8 0, Value.int .u8 0, Value.int .u8 0, Value.int .u8 0, Value.int .u8 0, Value.int .u8 0, Value.int .u8 0, Value.int .u8 0, Value.int .u8 0, Value.int .u8 0, Value.int .u8 0, Value.int .u8 0, Value.int .u8 0, Value.int .u8 0, Value.int .u8 0, Value.int .u8 0, Value.int .u8 0, Value.int .u8 0] : Array Value) = ((fitRow ⟨#[]⟩ 0).map byteV).toArray := rfl
theorem fitRow_zero (s : ByteArray) : fitRow s 0 = fitRow ⟨#[]⟩ 0 := by simp [fitRow]

theorem fit_conv (s : ByteArray) (k : Nat) (wr : World) (B : Nat) (hks : k ≤ s.size) (hk : k ≤ 32) (he : k = s.size ∨ k = 32) (hbox : Hid (wr.heap[B]? = some (.cells ((fitRow s k).map byteV).toArray 201 (0, 0)))) :
    (convert 155 9 (.slice (some ⟨B, 0, none⟩) 32 32)).run Tryz.prog wr = .ok (.string (fitT s)) wr := by
  have hlen : (fitL s).length = 32 := by rw [← fitRow_end s k hks hk he]; exact fitRow_length s k hks hk
  have h := run_convert_bytes_back (P := Tryz.prog) wr 155 9 5 ⟨B, 0, none⟩ 32 (fitL s) Tryz.underlying155 Tryz.underlying5 Tryz.underlying9 (fun j hj => by
    rw [Addr.add_lit, Nat.zero_add, cell_of_row wr _ _ _ _ _ hbox.out, fitRow_end s k hks hk he]
    simp [hj, byteV])
  rw [hlen] at h
  exact h

set_option maxHeartbeats 2000000 in
set_option maxRecDepth 100000 in
theorem fitText_any (s : ByteArray) (w : World) :
    Calls Tryz.prog 117 #[.string s] w fun e w' => e = .returned (.string (fitT s)) ∧ Below w.heap.size w w' := by
  go_enter Tryz.func117, Tryz.ntmps117
  go_wp2
  rw [fit0, ← fitRow_zero s]
  go_loopw [4] (fun i wr => ∃ k : Nat, k ≤ 32 ∧ k ≤ s.size ∧ i = .int .i64 k ∧ Hid (wr.heap[w.heap.size]? = some (.cells ((fitRow s k).map byteV).toArray 201 (0, 0))) ∧ Below w.heap.size w wr) (fun i _ => 32 - (intOf i).toNat)
  case atStart => exact ⟨0, Nat.zero_le _, Nat.zero_le _, rfl, heap_alloc_new w _, below1 _ _⟩
  case round =>
    obtain ⟨k, hk, hks, rfl, hbox, hbr⟩ := hrel
    by_cases hlt : k < s.size
    · have hlt' : (k : Int) < (s.size : Int) := by omega
      by_cases h32 : k < 32
      · have h32' : (k : Int) < 32 := by omega
        have o0 : wr.cell? ⟨w.heap.size, k, none⟩ = some (byteV ((fitRow s k)[k]'(by rw [fitRow_length s k hks hk]; exact h32))) := by
          rw [cell_of_row wr _ _ _ _ _ hbox.out]
          have hlen : k < (fitRow s k).length := by rw [fitRow_length s k hks hk]; exact h32
          simp [hlen]
        have fz := frozen_of_row wr _ k _ _ hbox.out
        go_wp2
        go_roundw
        case rel =>
          refine ⟨k + 1, by omega, by omega, by go_num, ?_, hbr.setCell (by simp) _⟩
          show (wr.setCell ⟨w.heap.size, k, none⟩ (byteV s[k])).heap[w.heap.size]? = _
          rw [heap_setCell_same wr _ _ _ _ _ hbox.out, ← fitRow_set s k hlt h32, List.map_set]
          simp
        case measure => simp [intOf]; omega
      · have e : k = 32 := by omega
        have hcv := fit_conv s k wr w.heap.size hks hk (.inr e) hbox
        have H32 := hide e
        subst e
        clear hbox H32
        go_wp2
        go_ret
        exact ⟨rfl, hbr⟩
    · have e : k = s.size := by omega
      have hcv := fit_conv s k wr w.heap.size hks hk (.inl e) hbox
      clear hbox e
      go_wp2
      go_ret
      exact ⟨rfl, hbr⟩


theorem byteOf_int (x : Int) (w : World) (h0 : 0 ≤ x) (h1 : x < 256) :
    Calls Tryz.prog 116 #[.int .i64 x] w fun e w' => e = .returned (.string (oneB x.toNat)) ∧ Below w.heap.size w w' := by
  obtain ⟨n, rfl⟩ := Int.eq_ofNat_of_zero_le h0
  exact byteOf_any n w (by omega)


set_option maxHeartbeats 2000000 in
set_option maxRecDepth 100000 in
theorem encode_no (v : Value) (m : Mk) (w : World) (h : IsMk w v m) (h8 : m.tags.length * 8 ≤ 140737488355328) (hno : ¬ goodM m = 0) :
    Calls Tryz.prog 76 #[v] w fun e w' => e = .returned (.tuple #[.string (encT m), .int .i64 (goodM m)]) ∧ Below w.heap.size w w' := by
  have HI := hide h
  obtain ⟨a, c, a', c', rfl, _, _, _, _⟩ := h
  have HE : Hid (encT m = ByteArray.empty) := by rw [Hid, encT, if_neg hno]
  have hno' : (goodM m != 0) = true := by simpa using hno
  clear hno
  go_enter Tryz.func76, Tryz.ntmps76
  go_wp2_with fail
  refine (goodMark_any _ m _ (HI.out.below (below1 _ _)) h8).mono ?_
  rintro e w1 ⟨rfl, hb1⟩
  have HB := hide (bthen (below1 _ _) hb1)
  clear hb1
  go_wp2
  go_ret2
  exact ⟨by rw [HE.out]; rfl, HB.out⟩

set_option maxHeartbeats 3000000 in
set_option maxRecDepth 100000 in
theorem encode_super (q p : Int) (a : Option Addr) (n c : Nat) (a' : Option Addr) (n' c' : Nat) (w : World) (hq1 : 1 ≤ q) (hq2 : q ≤ 2147483647) (hp1 : 0 ≤ p) (hp2 : p ≤ 23) (hgood : ∀ w', Below w.heap.size w w' → Calls Tryz.prog 115 #[.agg #[.int .i64 1, .int .i64 q, .int .i64 p, .slice a n c, .slice a' n' c']] w' fun e w2 => e = .returned (.int .i64 0) ∧ Below w'.heap.size w' w2) :
    Calls Tryz.prog 76 #[.agg #[.int .i64 1, .int .i64 q, .int .i64 p, .slice a n c, .slice a' n' c']] w fun e w' => e = .returned (.tuple #[.string (fitT (headT 1 q ++ oneB p.toNat)), .int .i64 0]) ∧ Below w.heap.size w w' := by
  have HG := hide hgood
  clear hgood
  go_enter Tryz.func76, Tryz.ntmps76
  go_wp2_with fail
  refine (HG.out _ (below1 _ _)).mono ?_
  rintro e w1 ⟨rfl, hb1⟩
  have x0 := cellKeep hb1 (b := w.heap.size) (o := 0) (v := .int .i64 1) (by simp) (by simp [go_sem])
  have x1 := cellKeep hb1 (b := w.heap.size) (o := 1) (v := .int .i64 q) (by simp) (by simp [go_sem])
  have x2 := cellKeep hb1 (b := w.heap.size) (o := 2) (v := .int .i64 p) (by simp) (by simp [go_sem])
  have x3 := cellKeep hb1 (b := w.heap.size) (o := 3) (v := .slice a n c) (by simp) (by simp [go_sem])
  have x4 := cellKeep hb1 (b := w.heap.size) (o := 4) (v := .slice a' n' c') (by simp) (by simp [go_sem])
  have hs1 : w.heap.size < w1.heap.size := by have := hb1.size; simp at this; omega
  have HALL : Hid (∀ w', Below w1.heap.size w1 w' → Hid (Below w1.heap.size w1 w') ∧ w'.cell? ⟨w.heap.size, 0, none⟩ = some (.int .i64 1) ∧ w'.cell? ⟨w.heap.size, 1, none⟩ = some (.int .i64 q) ∧ w'.cell? ⟨w.heap.size, 2, none⟩ = some (.int .i64 p) ∧ w'.cell? ⟨w.heap.size, 3, none⟩ = some (.slice a n c) ∧ w'.cell? ⟨w.heap.size, 4, none⟩ = some (.slice a' n' c')) := by
    intro w' hb
    exact ⟨hb, cellKeep hb hs1 x0, cellKeep hb hs1 x1, cellKeep hb hs1 x2, cellKeep hb hs1 x3, cellKeep hb hs1 x4⟩
  have HBW := hide (bthen (below1 _ _) hb1)
  have hw1 : IntKind.i64.wrap (q.tdiv 16777216) = q / 16777216 := Go.IntWalk.i64_quo q 16777216 (by omega)
  have hw2 : IntKind.i64.wrap (q.tdiv 65536) = q / 65536 := Go.IntWalk.i64_quo q 65536 (by omega)
  have hw3 : IntKind.i64.wrap (q.tdiv 256) = q / 256 := Go.IntWalk.i64_quo q 256 (by omega)
  have hm2 : (q / 65536).tmod 256 = q / 65536 % 256 := Int.tmod_eq_emod_of_nonneg (by omega)
  have hm3 : (q / 256).tmod 256 = q / 256 % 256 := Int.tmod_eq_emod_of_nonneg (by omega)
  have hm4 : q.tmod 256 = q % 256 := Int.tmod_eq_emod_of_nonneg (by omega)
  have hsz : ∀ n, (oneB n).size = 1 := fun _ => rfl
  clear hb1 x0 x1 x2 x3 x4
  go_wp2
  go_region_held (fun w' => Hid (Below w1.heap.size w1 w') ∧ w'.cell? ⟨w.heap.size, 0, none⟩ = some (.int .i64 1) ∧ w'.cell? ⟨w.heap.size, 1, none⟩ = some (.int .i64 q) ∧ w'.cell? ⟨w.heap.size, 2, none⟩ = some (.int .i64 p) ∧ w'.cell? ⟨w.heap.size, 3, none⟩ = some (.slice a n c) ∧ w'.cell? ⟨w.heap.size, 4, none⟩ = some (.slice a' n' c'))
    (first | exact HALL.out _ ((Below.refl _ _).drew) | (refine HALL.out _ ?_; assumption))
    (first | (go_at_call 116; (have hnow := (‹Hid (Below w1.heap.size w1 _) ∧ _›).1); have HNOW := hide hnow.out; refine (byteOf_int _ _ ?_ ?_).mono ?_; omega; omega; clear hnow; rintro e w10 ⟨rfl, hb10⟩; have hbN := bthen HNOW.out hb10; clear hb10 HNOW))
  obtain ⟨hnow, y0, y1, y2, y3, y4⟩ := ‹Hid (Below w1.heap.size w1 _) ∧ _›
  clear hw1 hw2 hw3 hm2 hm3 hm4
  go_wp2_with fail
  refine (byteOf_int p _ hp1 (by omega)).mono ?_
  rintro e w2 ⟨rfl, hb2⟩
  have hb3 := bthen hnow.out hb2
  clear hb2 y0 y1 y2 y3 y4
  go_wp2_with fail
  refine (fitText_any _ _).mono ?_
  rintro e w3 ⟨rfl, hb4⟩
  have HB := hide (bthen HBW.out (bthen hb3 hb4))
  clear hb3 hb4
  go_wp2
  go_ret2
  exact ⟨rfl, HB.out⟩


set_option maxHeartbeats 3000000 in
set_option maxRecDepth 100000 in
theorem encode_commit (q : Int) (a : Option Addr) (n c : Nat) (a' : Option Addr) (n' c' : Nat) (w : World) (hq1 : 1 ≤ q) (hq2 : q ≤ 2147483647) (hgood : ∀ w', Below w.heap.size w w' → Calls Tryz.prog 115 #[.agg #[.int .i64 4, .int .i64 q, .int .i64 0, .slice a n c, .slice a' n' c']] w' fun e w2 => e = .returned (.int .i64 0) ∧ Below w'.heap.size w' w2) :
    Calls Tryz.prog 76 #[.agg #[.int .i64 4, .int .i64 q, .int .i64 0, .slice a n c, .slice a' n' c']] w fun e w' => e = .returned (.tuple #[.string (fitT (headT 4 q)), .int .i64 0]) ∧ Below w.heap.size w w' := by
  have HG := hide hgood
  clear hgood
  go_enter Tryz.func76, Tryz.ntmps76
  go_wp2_with fail
  refine (HG.out _ (below1 _ _)).mono ?_
  rintro e w1 ⟨rfl, hb1⟩
  have x0 := cellKeep hb1 (b := w.heap.size) (o := 0) (v := .int .i64 4) (by simp) (by simp [go_sem])
  have x1 := cellKeep hb1 (b := w.heap.size) (o := 1) (v := .int .i64 q) (by simp) (by simp [go_sem])
  have x2 := cellKeep hb1 (b := w.heap.size) (o := 2) (v := .int .i64 0) (by simp) (by simp [go_sem])
  have x3 := cellKeep hb1 (b := w.heap.size) (o := 3) (v := .slice a n c) (by simp) (by simp [go_sem])
  have x4 := cellKeep hb1 (b := w.heap.size) (o := 4) (v := .slice a' n' c') (by simp) (by simp [go_sem])
  have hs1 : w.heap.size < w1.heap.size := by have := hb1.size; simp at this; omega
  have HALL : Hid (∀ w', Below w1.heap.size w1 w' → Hid (Below w1.heap.size w1 w') ∧ w'.cell? ⟨w.heap.size, 0, none⟩ = some (.int .i64 4) ∧ w'.cell? ⟨w.heap.size, 1, none⟩ = some (.int .i64 q) ∧ w'.cell? ⟨w.heap.size, 2, none⟩ = some (.int .i64 0) ∧ w'.cell? ⟨w.heap.size, 3, none⟩ = some (.slice a n c) ∧ w'.cell? ⟨w.heap.size, 4, none⟩ = some (.slice a' n' c')) := by
    intro w' hb
    exact ⟨hb, cellKeep hb hs1 x0, cellKeep hb hs1 x1, cellKeep hb hs1 x2, cellKeep hb hs1 x3, cellKeep hb hs1 x4⟩
  have HBW := hide (bthen (below1 _ _) hb1)
  have hw1 : IntKind.i64.wrap (q.tdiv 16777216) = q / 16777216 := Go.IntWalk.i64_quo q 16777216 (by omega)
  have hw2 : IntKind.i64.wrap (q.tdiv 65536) = q / 65536 := Go.IntWalk.i64_quo q 65536 (by omega)
  have hw3 : IntKind.i64.wrap (q.tdiv 256) = q / 256 := Go.IntWalk.i64_quo q 256 (by omega)
  have hm2 : (q / 65536).tmod 256 = q / 65536 % 256 := Int.tmod_eq_emod_of_nonneg (by omega)
  have hm3 : (q / 256).tmod 256 = q / 256 % 256 := Int.tmod_eq_emod_of_nonneg (by omega)
  have hm4 : q.tmod 256 = q % 256 := Int.tmod_eq_emod_of_nonneg (by omega)
  have hsz : ∀ n, (oneB n).size = 1 := fun _ => rfl
  clear hb1 x0 x1 x2 x3 x4
  go_wp2
  go_region_held (fun w' => Hid (Below w1.heap.size w1 w') ∧ w'.cell? ⟨w.heap.size, 0, none⟩ = some (.int .i64 4) ∧ w'.cell? ⟨w.heap.size, 1, none⟩ = some (.int .i64 q) ∧ w'.cell? ⟨w.heap.size, 2, none⟩ = some (.int .i64 0) ∧ w'.cell? ⟨w.heap.size, 3, none⟩ = some (.slice a n c) ∧ w'.cell? ⟨w.heap.size, 4, none⟩ = some (.slice a' n' c'))
    (first | exact HALL.out _ ((Below.refl _ _).drew) | (refine HALL.out _ ?_; assumption))
    (first | (go_at_call 116; (have hnow := (‹Hid (Below w1.heap.size w1 _) ∧ _›).1); have HNOW := hide hnow.out; refine (byteOf_int _ _ ?_ ?_).mono ?_; omega; omega; clear hnow; rintro e w10 ⟨rfl, hb10⟩; have hbN := bthen HNOW.out hb10; clear hb10 HNOW))
  obtain ⟨hnow, y0, y1, y2, y3, y4⟩ := ‹Hid (Below w1.heap.size w1 _) ∧ _›
  clear hw1 hw2 hw3 hm2 hm3 hm4
  go_wp2_with fail
  refine (fitText_any _ _).mono ?_
  rintro e w3 ⟨rfl, hb4⟩
  have HB := hide (bthen HBW.out (bthen hnow.out hb4))
  clear hb4 y0 y1 y2 y3 y4
  go_wp2
  go_ret2
  exact ⟨rfl, HB.out⟩

set_option maxHeartbeats 4000000 in
set_option maxRecDepth 100000 in
theorem encode_list (q : Int) (a : Option Addr) (n c : Nat) (a' : Option Addr) (c' : Nat) (l : List Int) (w : World) (hl : SegI w a' l) (h20 : l.length ≤ 20) (hbd : ∀ x ∈ l, 0 ≤ x ∧ x ≤ 11) (hq1 : 1 ≤ q) (hq2 : q ≤ 2147483647) (hgood : ∀ w', Below w.heap.size w w' → Calls Tryz.prog 115 #[.agg #[.int .i64 3, .int .i64 q, .int .i64 0, .slice a n c, .slice a' l.length c']] w' fun e w2 => e = .returned (.int .i64 0) ∧ Below w'.heap.size w' w2) :
    Calls Tryz.prog 76 #[.agg #[.int .i64 3, .int .i64 q, .int .i64 0, .slice a n c, .slice a' l.length c']] w fun e w' => e = .returned (.tuple #[.string (fitT (numsT (headT 3 q ++ oneB l.length) l)), .int .i64 0]) ∧ Below w.heap.size w w' := by
  have HG := hide hgood
  have HL := hide hl
  have HBD := hide hbd
  clear hgood hl hbd
  go_enter Tryz.func76, Tryz.ntmps76
  go_wp2_with fail
  refine (HG.out _ (below1 _ _)).mono ?_
  rintro e w1 ⟨rfl, hb1⟩
  have x0 := cellKeep hb1 (b := w.heap.size) (o := 0) (v := .int .i64 3) (by simp) (by simp [go_sem])
  have x1 := cellKeep hb1 (b := w.heap.size) (o := 1) (v := .int .i64 q) (by simp) (by simp [go_sem])
  have x2 := cellKeep hb1 (b := w.heap.size) (o := 2) (v := .int .i64 0) (by simp) (by simp [go_sem])
  have x3 := cellKeep hb1 (b := w.heap.size) (o := 3) (v := .slice a n c) (by simp) (by simp [go_sem])
  have x4 := cellKeep hb1 (b := w.heap.size) (o := 4) (v := .slice a' l.length c') (by simp) (by simp [go_sem])
  have hs1 : w.heap.size < w1.heap.size := by have := hb1.size; simp at this; omega
  have HALL : Hid (∀ w', Below w1.heap.size w1 w' → Hid (Below w1.heap.size w1 w') ∧ w'.cell? ⟨w.heap.size, 0, none⟩ = some (.int .i64 3) ∧ w'.cell? ⟨w.heap.size, 1, none⟩ = some (.int .i64 q) ∧ w'.cell? ⟨w.heap.size, 2, none⟩ = some (.int .i64 0) ∧ w'.cell? ⟨w.heap.size, 3, none⟩ = some (.slice a n c) ∧ w'.cell? ⟨w.heap.size, 4, none⟩ = some (.slice a' l.length c')) := by
    intro w' hb
    exact ⟨hb, cellKeep hb hs1 x0, cellKeep hb hs1 x1, cellKeep hb hs1 x2, cellKeep hb hs1 x3, cellKeep hb hs1 x4⟩
  have HBW := hide (bthen (below1 _ _) hb1)
  have hw1 : IntKind.i64.wrap (q.tdiv 16777216) = q / 16777216 := Go.IntWalk.i64_quo q 16777216 (by omega)
  have hw2 : IntKind.i64.wrap (q.tdiv 65536) = q / 65536 := Go.IntWalk.i64_quo q 65536 (by omega)
  have hw3 : IntKind.i64.wrap (q.tdiv 256) = q / 256 := Go.IntWalk.i64_quo q 256 (by omega)
  have hm2 : (q / 65536).tmod 256 = q / 65536 % 256 := Int.tmod_eq_emod_of_nonneg (by omega)
  have hm3 : (q / 256).tmod 256 = q / 256 % 256 := Int.tmod_eq_emod_of_nonneg (by omega)
  have hm4 : q.tmod 256 = q % 256 := Int.tmod_eq_emod_of_nonneg (by omega)
  have hsz : ∀ n, (oneB n).size = 1 := fun _ => rfl
  clear hb1 x0 x1 x2 x3 x4
  go_wp2
  go_region_held (fun w' => Hid (Below w1.heap.size w1 w') ∧ w'.cell? ⟨w.heap.size, 0, none⟩ = some (.int .i64 3) ∧ w'.cell? ⟨w.heap.size, 1, none⟩ = some (.int .i64 q) ∧ w'.cell? ⟨w.heap.size, 2, none⟩ = some (.int .i64 0) ∧ w'.cell? ⟨w.heap.size, 3, none⟩ = some (.slice a n c) ∧ w'.cell? ⟨w.heap.size, 4, none⟩ = some (.slice a' l.length c'))
    (first | exact HALL.out _ ((Below.refl _ _).drew) | (refine HALL.out _ ?_; assumption))
    (first | (go_at_call 116; (have hnow := (‹Hid (Below w1.heap.size w1 _) ∧ _›).1); have HNOW := hide hnow.out; refine (byteOf_int _ _ ?_ ?_).mono ?_; omega; omega; clear hnow; rintro e w10 ⟨rfl, hb10⟩; have hbN := bthen HNOW.out hb10; clear hb10 HNOW))
  obtain ⟨hnow, y0, y1, y2, y3, y4⟩ := ‹Hid (Below w1.heap.size w1 _) ∧ _›
  clear hw1 hw2 hw3 hm2 hm3 hm4
  go_wp2_with fail
  refine (byteOf_int _ _ (by omega) (by omega)).mono ?_
  rintro e w2 ⟨rfl, hb2⟩
  have hb3 := bthen hnow.out hb2
  have hs2 : w.heap.size < w2.heap.size := by have := hb3.size; omega
  have z4 : w2.cell? ⟨w.heap.size, 4, none⟩ = some (.slice a' l.length c') := (HALL.out _ hb3).2.2.2.2.2
  have HLW := hide (HL.out.below (bthen HBW.out hb3))
  clear hb2 y0 y1 y2 y3 y4
  go_wp2
  obtain ⟨s0, hs0⟩ : ∃ s0, s0 = headT 3 q ++ oneB l.length := ⟨_, rfl⟩
  have hz0 : s0.size = 10 := by rw [hs0]; rfl
  have HS0 := hide hs0
  have HZ0 := hide hz0
  clear hz0
  go_loopw [5, 88] (fun v i wr => ∃ k : Nat, k ≤ l.length ∧ i = .int .i64 k ∧ v = .string (numsT s0 (l.take k)) ∧ Below w2.heap.size w2 wr) (fun _ i _ => l.length - (intOf i).toNat)
  case atStart => exact ⟨0, Nat.zero_le _, rfl, by rw [hs0]; rfl, Below.refl _ _⟩
  case round =>
    obtain ⟨k, hk, rfl, rfl, hbr⟩ := hrel
    clear hs0
    obtain ⟨t, ht⟩ : ∃ t, t = numsT s0 (l.take k) := ⟨_, rfl⟩
    have htz : t.size ≤ 30 := by rw [ht, numsT_size, HZ0.out, List.length_take]; omega
    rw [← ht]
    have HTT := hide ht
    clear ht
    by_cases hlt : k < l.length
    · obtain ⟨b, off, ha, hb, hc⟩ := HLW.out.resolve_left (by intro e; rw [e] at hlt; simp at hlt)
      obtain ⟨x, hx⟩ : ∃ x, x = l.getD k 0 := ⟨_, rfl⟩
      have hck := cellKeep hbr hb (hc k hlt)
      rw [← hx] at hck
      have HX : Hid (l[k]? = some x) := by rw [hx]; exact getD_at _ _ _ hlt
      have hbx := HBD.out x (List.mem_of_getElem? HX.out)
      have HN : Hid (numsT s0 (l.take (k + 1)) = t ++ oneB x.toNat) := by rw [Hid, HTT.out, List.take_add_one, HX.out]; exact numsT_snoc _ _ _
      have hlt' : (k : Int) < (l.length : Int) := by omega
      clear hx hc
      subst ha
      go_wp2_with fail
      refine (byteOf_int x _ hbx.1 (by omega)).mono ?_
      rintro e w4 ⟨rfl, hb4⟩
      have hb5 := bthen hbr hb4
      clear hb4 hbr hck
      go_wp2
      go_roundw
      case rel => exact ⟨k + 1, by omega, by go_num, by rw [HN.out], hb5⟩
      case measure => simp [intOf]; omega
    · have e : l.take k = l := List.take_of_length_le (by omega)
      have HF : Hid (numsT (headT 3 q ++ oneB l.length) l = t) := by rw [Hid, HTT.out, e, HS0.out]
      clear e
      go_wp2_with fail
      refine (fitText_any _ _).mono ?_
      rintro e w5 ⟨rfl, hb6⟩
      have HB := hide (bthen HBW.out (bthen hb3 (bthen hbr hb6)))
      clear hb6 hbr hb3
      go_wp2
      go_ret2
      exact ⟨by rw [HF.out]; rfl, HB.out⟩


set_option maxHeartbeats 4000000 in
set_option maxRecDepth 100000 in
theorem encode_tags (q : Int) (a : Option Addr) (c : Nat) (a' : Option Addr) (n' c' : Nat) (l : List (Int × Bool)) (w : World) (hl : SegT w a l) (h20 : l.length ≤ 10) (hbd : ∀ x ∈ l, 0 ≤ x.1 ∧ x.1 ≤ 11) (hq1 : 1 ≤ q) (hq2 : q ≤ 2147483647) (hgood : ∀ w', Below w.heap.size w w' → Calls Tryz.prog 115 #[.agg #[.int .i64 2, .int .i64 q, .int .i64 0, .slice a l.length c, .slice a' n' c']] w' fun e w2 => e = .returned (.int .i64 0) ∧ Below w'.heap.size w' w2) :
    Calls Tryz.prog 76 #[.agg #[.int .i64 2, .int .i64 q, .int .i64 0, .slice a l.length c, .slice a' n' c']] w fun e w' => e = .returned (.tuple #[.string (fitT (tagsT (headT 2 q ++ oneB l.length) l)), .int .i64 0]) ∧ Below w.heap.size w w' := by
  have HG := hide hgood
  have HL := hide hl
  have HBD := hide hbd
  clear hgood hl hbd
  go_enter Tryz.func76, Tryz.ntmps76
  go_wp2_with fail
  refine (HG.out _ (below1 _ _)).mono ?_
  rintro e w1 ⟨rfl, hb1⟩
  have x0 := cellKeep hb1 (b := w.heap.size) (o := 0) (v := .int .i64 2) (by simp) (by simp [go_sem])
  have x1 := cellKeep hb1 (b := w.heap.size) (o := 1) (v := .int .i64 q) (by simp) (by simp [go_sem])
  have x2 := cellKeep hb1 (b := w.heap.size) (o := 2) (v := .int .i64 0) (by simp) (by simp [go_sem])
  have x3 := cellKeep hb1 (b := w.heap.size) (o := 3) (v := .slice a l.length c) (by simp) (by simp [go_sem])
  have x4 := cellKeep hb1 (b := w.heap.size) (o := 4) (v := .slice a' n' c') (by simp) (by simp [go_sem])
  have hs1 : w.heap.size < w1.heap.size := by have := hb1.size; simp at this; omega
  have HALL : Hid (∀ w', Below w1.heap.size w1 w' → Hid (Below w1.heap.size w1 w') ∧ w'.cell? ⟨w.heap.size, 0, none⟩ = some (.int .i64 2) ∧ w'.cell? ⟨w.heap.size, 1, none⟩ = some (.int .i64 q) ∧ w'.cell? ⟨w.heap.size, 2, none⟩ = some (.int .i64 0) ∧ w'.cell? ⟨w.heap.size, 3, none⟩ = some (.slice a l.length c) ∧ w'.cell? ⟨w.heap.size, 4, none⟩ = some (.slice a' n' c')) := by
    intro w' hb
    exact ⟨hb, cellKeep hb hs1 x0, cellKeep hb hs1 x1, cellKeep hb hs1 x2, cellKeep hb hs1 x3, cellKeep hb hs1 x4⟩
  have HBW := hide (bthen (below1 _ _) hb1)
  have hw1 : IntKind.i64.wrap (q.tdiv 16777216) = q / 16777216 := Go.IntWalk.i64_quo q 16777216 (by omega)
  have hw2 : IntKind.i64.wrap (q.tdiv 65536) = q / 65536 := Go.IntWalk.i64_quo q 65536 (by omega)
  have hw3 : IntKind.i64.wrap (q.tdiv 256) = q / 256 := Go.IntWalk.i64_quo q 256 (by omega)
  have hm2 : (q / 65536).tmod 256 = q / 65536 % 256 := Int.tmod_eq_emod_of_nonneg (by omega)
  have hm3 : (q / 256).tmod 256 = q / 256 % 256 := Int.tmod_eq_emod_of_nonneg (by omega)
  have hm4 : q.tmod 256 = q % 256 := Int.tmod_eq_emod_of_nonneg (by omega)
  have hsz : ∀ n, (oneB n).size = 1 := fun _ => rfl
  clear hb1 x0 x1 x2 x3 x4
  go_wp2
  go_region_held (fun w' => Hid (Below w1.heap.size w1 w') ∧ w'.cell? ⟨w.heap.size, 0, none⟩ = some (.int .i64 2) ∧ w'.cell? ⟨w.heap.size, 1, none⟩ = some (.int .i64 q) ∧ w'.cell? ⟨w.heap.size, 2, none⟩ = some (.int .i64 0) ∧ w'.cell? ⟨w.heap.size, 3, none⟩ = some (.slice a l.length c) ∧ w'.cell? ⟨w.heap.size, 4, none⟩ = some (.slice a' n' c'))
    (first | exact HALL.out _ ((Below.refl _ _).drew) | (refine HALL.out _ ?_; assumption))
    (first | (go_at_call 116; (have hnow := (‹Hid (Below w1.heap.size w1 _) ∧ _›).1); have HNOW := hide hnow.out; refine (byteOf_int _ _ ?_ ?_).mono ?_; omega; omega; clear hnow; rintro e w10 ⟨rfl, hb10⟩; have hbN := bthen HNOW.out hb10; clear hb10 HNOW))
  obtain ⟨hnow, y0, y1, y2, y3, y4⟩ := ‹Hid (Below w1.heap.size w1 _) ∧ _›
  clear hw1 hw2 hw3 hm2 hm3 hm4
  go_wp2_with fail
  refine (byteOf_int _ _ (by omega) (by omega)).mono ?_
  rintro e w2 ⟨rfl, hb2⟩
  have hb3 := bthen hnow.out hb2
  have hs2 : w.heap.size < w2.heap.size := by have := hb3.size; omega
  have z4 : w2.cell? ⟨w.heap.size, 3, none⟩ = some (.slice a l.length c) := (HALL.out _ hb3).2.2.2.2.1
  have HLW := hide (HL.out.below (bthen HBW.out hb3))
  clear hb2 y0 y1 y2 y3 y4
  go_wp2
  obtain ⟨s0, hs0⟩ : ∃ s0, s0 = headT 2 q ++ oneB l.length := ⟨_, rfl⟩
  have hz0 : s0.size = 10 := by rw [hs0]; rfl
  have HS0 := hide hs0
  have HZ0 := hide hz0
  clear hz0
  go_loopw [5, 61] (fun v i wr => ∃ k : Nat, k ≤ l.length ∧ i = .int .i64 k ∧ v = .string (tagsT s0 (l.take k)) ∧ Below w2.heap.size w2 wr) (fun _ i _ => l.length - (intOf i).toNat)
  case atStart => exact ⟨0, Nat.zero_le _, rfl, by rw [hs0]; rfl, Below.refl _ _⟩
  case round =>
    obtain ⟨k, hk, rfl, rfl, hbr⟩ := hrel
    clear hs0
    obtain ⟨t, ht⟩ : ∃ t, t = tagsT s0 (l.take k) := ⟨_, rfl⟩
    have htz : t.size ≤ 30 := by rw [ht, tagsT_size, HZ0.out, List.length_take]; omega
    rw [← ht]
    have HTT := hide ht
    clear ht
    by_cases hlt : k < l.length
    · obtain ⟨b, off, ha, hb, hc⟩ := HLW.out.resolve_left (by intro e; rw [e] at hlt; simp at hlt)
      obtain ⟨x, hx⟩ : ∃ x, x = l.getD k (0, false) := ⟨_, rfl⟩
      have hck := cellKeep hbr hb (hc k hlt).1
      have hck2 := cellKeep hbr hb (hc k hlt).2
      rw [← hx] at hck hck2
      have HX : Hid (l[k]? = some x) := by rw [hx]; exact getD_at _ _ _ hlt
      have hbx := HBD.out x (List.mem_of_getElem? HX.out)
      have HN : Hid (tagsT s0 (l.take (k + 1)) = (t ++ oneB x.1.toNat) ++ (if x.2 then (⟨#[1]⟩ : ByteArray) else ⟨#[0]⟩)) := by rw [Hid, HTT.out, List.take_add_one, HX.out]; exact tagsT_snoc _ _ _
      have hlt' : (k : Int) < (l.length : Int) := by omega
      clear hx hc
      subst ha
      obtain ⟨xn, xf⟩ := x
      dsimp only at hbx hck hck2
      go_wp2_with fail
      refine (byteOf_int xn _ hbx.1 (by omega)).mono ?_
      rintro e w4 ⟨rfl, hb4⟩
      have g0 := cellKeep hb4 (b := wr.heap.size) (o := 0) (v := .int .i64 xn) (by simp) (by simp [go_sem])
      have g1 := cellKeep hb4 (b := wr.heap.size) (o := 1) (v := .bool xf) (by simp) (by simp [go_sem])
      have hb5 := bthen hbr (bthen (below1 _ _) hb4)
      clear hb4 hbr hck hck2
      cases xf with
      | true =>
        go_wp2
        go_roundw
        case rel => exact ⟨k + 1, by omega, by go_num, by rw [HN.out]; rfl, hb5⟩
        case measure => simp [intOf]; omega
      | false =>
        go_wp2
        go_roundw
        case rel => exact ⟨k + 1, by omega, by go_num, by rw [HN.out]; rfl, hb5⟩
        case measure => simp [intOf]; omega
    · have e : l.take k = l := List.take_of_length_le (by omega)
      have HF : Hid (tagsT (headT 2 q ++ oneB l.length) l = t) := by rw [Hid, HTT.out, e, HS0.out]
      clear e
      go_wp2_with fail
      refine (fitText_any _ _).mono ?_
      rintro e w5 ⟨rfl, hb6⟩
      have HB := hide (bthen HBW.out (bthen hb3 (bthen hbr hb6)))
      clear hb6 hbr hb3
      go_wp2
      go_ret2
      exact ⟨by rw [HF.out]; rfl, HB.out⟩


set_option maxHeartbeats 400000 in
/-- wastebookref.EncodeMark: a mark as a block, or what is wrong with it. -/
theorem encodeMark_any (v : Value) (m : Mk) (w : World) (h : IsMk w v m) (h8 : m.tags.length * 8 ≤ 140737488355328) :
    Calls Tryz.prog 76 #[v] w fun e w' => e = .returned (.tuple #[.string (encT m), .int .i64 (goodM m)]) ∧ Below w.heap.size w w' := by
  by_cases hg : goodM m = 0
  · have hgood : ∀ w', Below w.heap.size w w' → Calls Tryz.prog 115 #[v] w' fun e w2 => e = .returned (.int .i64 0) ∧ Below w'.heap.size w' w2 := by
      intro w' hb
      have := goodMark_any v m w' (h.below hb) h8
      rw [hg] at this
      exact this
    obtain ⟨⟨k1, k2⟩, ⟨q1, q2, p1, p2⟩, ⟨f1, f2, f3⟩, ht, hb, hr, hr'⟩ := goodM_parts hg
    have hE : encT m = fitT (bodyT m) := by rw [encT, if_pos hg]
    rw [hE, hg]
    clear hE hg
    obtain ⟨a, c, a', c', rfl, hT, hI, hn, hn'⟩ := h
    obtain ⟨kind, seq, pos, tags, blocks⟩ := m
    dsimp only at *
    have hk : kind = 1 ∨ kind = 2 ∨ kind = 3 ∨ kind = 4 := by omega
    rcases hk with rfl | rfl | rfl | rfl
    · rw [show bodyT ⟨1, seq, pos, tags, blocks⟩ = headT 1 seq ++ oneB pos.toNat from rfl]
      exact encode_super seq pos a _ c a' _ c' w q1 q2 p1 p2 hgood
    · obtain rfl := f1 (by decide)
      rw [show bodyT ⟨2, seq, 0, tags, blocks⟩ = tagsT (headT 2 seq ++ oneB tags.length) tags from rfl]
      exact encode_tags seq a c a' _ c' tags w hT (ht rfl).2 (fun x hx => rises_bd _ _ hr (by omega) x.1 (List.mem_map.2 ⟨x, hx, rfl⟩)) q1 q2 hgood
    · obtain rfl := f1 (by decide)
      rw [show bodyT ⟨3, seq, 0, tags, blocks⟩ = numsT (headT 3 seq ++ oneB blocks.length) blocks from rfl]
      exact encode_list seq a _ c a' c' blocks w hI (hb rfl).2 (rises_bd _ _ hr' (by omega)) q1 q2 hgood
    · obtain rfl := f1 (by decide)
      rw [show bodyT ⟨4, seq, 0, tags, blocks⟩ = headT 4 seq from rfl]
      exact encode_commit seq a _ c a' _ c' w q1 q2 hgood
  · exact encode_no v m w h h8 hg

end Go.Proofs.YtjnpndfpajjihabGreat
