/-
  The walk of the document's own GoodMark: marks whose form is right.
-/
import Derived.Test.YtjnpndfpajjihaaMGood20
import Derived.Test.YtjnpndfpajjihaaMGood
namespace Go.Proofs.Ytjnpndfpajjihaa
open Go.RowKit

theorem rising_len (a : Option Addr) (c : Nat) (l : List Int) (n : Nat) (w : World) (h : SegI w a l) (hl : l.length = n) (hn : n ≤ maxLen) :
    Calls Try.prog 78 #[.slice a n c] w fun e w' => e = .returned (.bool (rises l)) ∧ w = w' := by
  subst hl
  exact rising_any a c l w h hn

theorem rising_nil (a : Option Addr) (c : Nat) (w : World) :
    Calls Try.prog 78 #[.slice a 0 c] w fun e w' => e = .returned (.bool true) ∧ w = w' := rising_any a c [] w (.inl rfl) (Nat.zero_le _)

set_option maxHeartbeats 4000000 in
set_option maxRecDepth 100000 in
theorem goodMark_plain (k q p : Int) (a : Option Addr) (c : Nat) (a' : Option Addr) (c' : Nat) (w : World) (hk : k = 1 ∨ (k = 4 ∧ p = 0)) (hq1 : 1 ≤ q) (hq2 : q ≤ 2147483647) (hp1 : 0 ≤ p) (hp2 : p ≤ 23) :
    Calls Try.prog 38 #[.agg #[.int .i64 k, .int .i64 q, .int .i64 p, .slice a 0 c, .slice a' 0 c']] w fun e w' => e = .returned (.int .i64 0) ∧ Below w.heap.size w w' := by
  rcases hk with rfl | ⟨rfl, rfl⟩
  all_goals
    go_enter Try.func38, Try.ntmps38
    go_wp2
    refine wp_loop_rounds 1 ?_
    rw [rounds_succ]
    go_wp2_with fail
    refine (rising_nil _ _ _).mono ?_
    rintro e w1 ⟨rfl, rfl⟩
    go_wp2_with fail
    refine (rising_nil _ _ _).mono ?_
    rintro e w1 ⟨rfl, rfl⟩
    go_wp2
    go_ret
    exact ⟨rfl, below1 _ _⟩

set_option maxHeartbeats 4000000 in
set_option maxRecDepth 100000 in
theorem goodMark_list (q : Int) (a : Option Addr) (c : Nat) (a' : Option Addr) (c' : Nat) (l : List Int) (w : World) (hl : SegI w a' l) (hn : l.length ≤ maxLen) (hq1 : 1 ≤ q) (hq2 : q ≤ 2147483647) :
    Calls Try.prog 38 #[.agg #[.int .i64 3, .int .i64 q, .int .i64 0, .slice a 0 c, .slice a' l.length c']] w fun e w' =>
      e = .returned (.int .i64 (if (l.length < 1 ∨ 20 < l.length) ∨ rises l = false then 2 else 0)) ∧ Below w.heap.size w w' := by
  have HL := hide hl
  have HN := hide hn
  unfold maxLen at hn
  clear hl
  by_cases h1 : l.length < 1
  · have h1' : (l.length : Int) < 1 := by omega
    rw [if_pos (.inl (.inl h1))]
    go_enter Try.func38, Try.ntmps38
    go_wp2
    refine wp_loop_rounds 1 ?_
    rw [rounds_succ]
    go_wp2
    go_ret
    exact ⟨rfl, below1 _ _⟩
  · have h1' : ¬ (l.length : Int) < 1 := by omega
    by_cases h2 : 20 < l.length
    · have h2' : 20 < (l.length : Int) := by omega
      rw [if_pos (.inl (.inr h2))]
      go_enter Try.func38, Try.ntmps38
      go_wp2
      refine wp_loop_rounds 1 ?_
      rw [rounds_succ]
      go_wp2
      go_ret
      exact ⟨rfl, below1 _ _⟩
    · have h2' : ¬ 20 < (l.length : Int) := by omega
      have hif : (if (l.length < 1 ∨ 20 < l.length) ∨ rises l = false then (2 : Int) else 0) = if rises l = false then 2 else 0 := by simp [h1, h2]
      rw [hif]
      clear hif h1 h2
      cases hr : rises l
      all_goals
        have HR := hide hr
        clear hr
        go_enter Try.func38, Try.ntmps38
        go_wp2
        refine wp_loop_rounds 1 ?_
        rw [rounds_succ]
        go_wp2_with fail
        refine (rising_nil _ _ _).mono ?_
        rintro e w1 ⟨rfl, rfl⟩
        go_wp2_with fail
        refine (rising_any _ _ l _ (HL.out.below (below1 _ _)) HN.out).mono ?_
        rintro e w1 ⟨rfl, rfl⟩
        rw [HR.out]
        go_wp2
        go_ret
        exact ⟨rfl, below1 _ _⟩

set_option maxHeartbeats 4000000 in
set_option maxRecDepth 100000 in
theorem goodMark_tags (q : Int) (a : Option Addr) (c : Nat) (a' : Option Addr) (c' : Nat) (l : List (Int × Bool)) (w : World) (hl : SegT w a l) (hn : l.length ≤ maxLen) (h8 : l.length * 8 ≤ 140737488355328) (hq1 : 1 ≤ q) (hq2 : q ≤ 2147483647) :
    Calls Try.prog 38 #[.agg #[.int .i64 2, .int .i64 q, .int .i64 0, .slice a l.length c, .slice a' 0 c']] w fun e w' =>
      e = .returned (.int .i64 (tagsE l)) ∧ Below w.heap.size w w' := by
  have HL := hide hl
  have HN := hide hn
  unfold maxLen at hn
  clear hl
  obtain ⟨i0, hi, hz0, hz1, hz2⟩ := info_parts infoI
  go_enter Try.func38, Try.ntmps38
  go_wp2
  go_loopw [3, 65] (fun v i wr => ∃ k : Nat, k ≤ l.length ∧ i = .int .i64 k ∧ Hid (wr.ownsRow (w.heap.size + 1) 3 1 v k (cellsI (tagNums l k))) ∧ Below (w.heap.size + 1) (w.alloc (Obj.cells #[.int .i64 2, .int .i64 q, .int .i64 0, .slice a l.length c, .slice a' 0 c'] 47)) wr) (fun _ i _ => l.length - (intOf i).toNat)
  case atStart => exact ⟨0, Nat.zero_le _, rfl, World.ownsRow_nil _ _ _ _, Below.refl _ _⟩
  case round =>
    obtain ⟨k, hk, rfl, hown, hbr⟩ := hrel
    have hsr : w.heap.size + 1 ≤ wr.heap.size := by have := hbr.size; simp at this; omega
    have hbw : Below w.heap.size w wr := (below1 _ _).trans (hbr.mono (by omega))
    by_cases hlt : k < l.length
    · obtain ⟨b, off, rfl, hb, hc⟩ := HL.out.resolve_left (by intro e; rw [e] at hlt; simp at hlt)
      obtain ⟨x, hx⟩ : ∃ x, x = l.getD k (0, false) := ⟨_, rfl⟩
      obtain ⟨hc1, hc2⟩ := hc k hlt
      rw [← hx] at hc1 hc2
      have HX : Hid (l[k]? = some x) := by rw [hx]; exact getD_at _ _ _ hlt
      have g1 := cellKeep hbw hb hc1
      have g2 := cellKeep hbw hb hc2
      clear hx hc hc1 hc2
      obtain ⟨n, f⟩ := x
      have hlt' : (k : Int) < (l.length : Int) := by omega
      have HT : Hid (cellsI (tagNums l (k + 1)) = cellsI (tagNums l k) ++ cellsI [n]) := by
        rw [Hid, tagNums, List.take_add_one, HX.out]; simp [cellsI, tagNums]
      go_wp2_with (at_builtin; refine wpList_append_own _ rfl _ _ 45 rfl (w.heap.size + 1) 3 i0 (.int .i64 0) 1 8 Try.underlying45 hi hz0 hz1 hz2 rfl (by decide) _ _ _ rfl ((hown.out.alloc _).alloc _) ⟨wr.heap.size + 1, 0, none⟩ 1 1 (cellsI [n]) rfl ?qc1 ?qc2 ?qc3 ?qc4 ?qc5 ?qc6 ?_)
      case qc1 => rfl
      case qc2 =>
        intro j u hj
        match j, hj with
        | 0, hj => simp [cellsI] at hj; subst hj; simp [go_sem]
      case qc3 => exact cellsI_one
      case qc4 => unfold maxLen; omega
      case qc5 => omega
      case qc6 => first | omega | (simp; omega)
      intro v4 w4 hown4 hgrow4 _
      have hb4 : Below (w.heap.size + 1) (w.alloc (Obj.cells #[.int .i64 2, .int .i64 q, .int .i64 0, .slice (some ⟨b, off, none⟩) l.length c, .slice a' 0 c'] 47)) w4 :=
        ((hbr.alloc hsr _).alloc (by simp; omega) _).grown hgrow4 (by simp; omega) (fun k hk => (hown.out.lt k hk).1)
      rw [← HT.out] at hown4
      have HO := hide hown4
      clear hown4 hgrow4 hown hbr
      go_wp2
      go_roundw
      case rel => exact ⟨k + 1, by omega, by go_num, HO, hb4⟩
      case measure => simp [intOf]; omega
    · have e : k = l.length := by omega
      subst e
      have hown' := hown.out
      rw [tagNums, List.take_length] at hown'
      obtain ⟨a2, c2, hv, hS, _⟩ := SegI.of_owns hown'
      have HS := hide hS
      rw [List.length_map] at hv
      subst hv
      have x0 : wr.cell? ⟨w.heap.size, 0, none⟩ = some (.int .i64 2) := (hbr.cell (p := ⟨w.heap.size, 0, none⟩) (by simp)).trans (by simp [go_sem])
      have x4 : wr.cell? ⟨w.heap.size, 4, none⟩ = some (.slice a' 0 c') := (hbr.cell (p := ⟨w.heap.size, 4, none⟩) (by simp)).trans (by simp [go_sem])
      have HB := hide hbw
      clear hown hown' hS hbr hbw hlt
      by_cases h1 : l.length < 1
      · have h1' : (l.length : Int) < 1 := by omega
        have HE : Hid (tagsE l = 2) := by rw [Hid, tagsE, if_pos (.inl (.inl h1))]
        go_wp2
        go_ret
        exact ⟨by rw [HE.out]; rfl, HB.out⟩
      · have h1' : ¬ (l.length : Int) < 1 := by omega
        by_cases h2 : 10 < l.length
        · have h2' : 10 < (l.length : Int) := by omega
          have HE : Hid (tagsE l = 2) := by rw [Hid, tagsE, if_pos (.inl (.inr h2))]
          go_wp2
          go_ret
          exact ⟨by rw [HE.out]; rfl, HB.out⟩
        · have h2' : ¬ 10 < (l.length : Int) := by omega
          have HE : Hid (tagsE l = if rises (l.map (·.1)) = false then 2 else 0) := by simp [Hid, tagsE, h1, h2]
          have hlm : (l.map (·.1)).length = l.length := List.length_map _
          have HLM := hide hlm
          clear h1 h2 hlm
          cases hr : rises (l.map (·.1))
          · have HR := hide hr
            clear hr
            go_wp2_with fail
            refine (rising_len _ _ (l.map (·.1)) l.length _ HS.out HLM.out HN.out).mono ?_
            rintro e w1 ⟨rfl, rfl⟩
            rw [HR.out]
            go_wp2
            go_ret
            exact ⟨by rw [HE.out, HR.out]; rfl, HB.out⟩
          · have HR := hide hr
            clear hr
            go_wp2_with fail
            refine (rising_len _ _ (l.map (·.1)) l.length _ HS.out HLM.out HN.out).mono ?_
            rintro e w1 ⟨rfl, rfl⟩
            rw [HR.out]
            go_wp2_with fail
            refine (rising_nil _ _ _).mono ?_
            rintro e w1 ⟨rfl, rfl⟩
            go_wp2
            go_ret
            exact ⟨by rw [HE.out, HR.out]; rfl, HB.out⟩

end Go.Proofs.Ytjnpndfpajjihaa
