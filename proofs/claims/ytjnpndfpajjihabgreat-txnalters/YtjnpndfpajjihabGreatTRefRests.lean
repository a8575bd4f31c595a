/-
  The walks of the document's own among.
  The walks of the document's own TextOf.
  The walks of the document's own isBlock, rest and with.
  The walks of the document's own in.
-/
import Derived.Test.YtjnpndfpajjihabGreatTDefs
import Derived.Test.YtjnpndfpajjihabGreatTConcats
import Derived.Test.YtjnpndfpajjihabGreatTPure
namespace Go.Proofs.YtjnpndfpajjihabGreat
open Go.RowKit

set_option maxHeartbeats 1000000 in
theorem among_any (a : Option Addr) (c : Nat) (l : List Int) (b : Int) (w : World) (h : SegI w a l) (hn : l.length ≤ maxLen) :
    Calls Tryz.prog 47 #[.slice a l.length c, .int .i64 b] w fun e w' => e = .returned (.bool (amongB l b)) ∧ w = w' := by
  unfold maxLen at hn
  have HS := hide h
  clear h
  go_enter Tryz.func47, Tryz.ntmps47
  go_wp2
  go_loop [9] (fun i => ∃ k : Nat, k ≤ l.length ∧ i = .int .i64 k ∧ Hid ((l.take k).any (· == b) = false)) (fun i => l.length - (intOf i).toNat)
  case atStart => exact ⟨0, Nat.zero_le _, rfl, by simp [Hid]⟩
  case round =>
    obtain ⟨k, hk, rfl, hr⟩ := hrel
    by_cases hlt : k < l.length
    · obtain ⟨b2, off, rfl, hb, hc⟩ := HS.out.resolve_left (by intro e; rw [e] at hlt; simp at hlt)
      obtain ⟨x, hx⟩ : ∃ x, x = l.getD k 0 := ⟨_, rfl⟩
      have hck := hc k hlt
      rw [← hx] at hck
      have HX : Hid (l[k]? = some x) := by rw [hx]; exact getD_at _ _ _ hlt
      clear hx hc
      have hlt' : (k : Int) < (l.length : Int) := by omega
      by_cases he : x = b
      · have HA : Hid (amongB l b = true) := any_hit HX.out (by simpa using he)
        subst he
        go_wp2
        go_ret
        exact ⟨by rw [HA.out]; rfl, rfl⟩
      · have HR := hide (any_miss HX.out (show (x == b) = false by simpa using he) hr.out)
        have he' : (x == b) = false := by simpa using he
        clear hr
        go_wp2
        go_round
        case rel => exact ⟨k + 1, by omega, by go_num, HR⟩
        case measure => simp [intOf]; omega
    · have HA : Hid (amongB l b = false) := by have := hr.out; rw [List.take_of_length_le (by omega)] at this; exact this
      clear hr
      go_wp2
      go_ret
      exact ⟨by rw [HA.out]; rfl, rfl⟩


set_option maxHeartbeats 1000000 in
theorem textOf_any (a : Option Addr) (c : Nat) (l : List (Int × ByteArray)) (b : Int) (w : World) (h : SegW w a l) (hn : l.length ≤ maxLen) :
    Calls Tryz.prog 14 #[.slice a l.length c, .int .i64 b] w fun e w' => e = .returned (.tuple #[.string ((textIn b l).getD ⟨#[]⟩), .bool (textIn b l).isSome]) ∧ Below w.heap.size w w' := by
  unfold maxLen at hn
  have HS := hide h
  clear h
  go_enter Tryz.func14, Tryz.ntmps14
  go_wp2
  go_loopw [10] (fun i wr => ∃ k : Nat, k ≤ l.length ∧ i = .int .i64 k ∧ Hid (textIn b (l.take k) = none) ∧ Below w.heap.size w wr) (fun i _ => l.length - (intOf i).toNat)
  case atStart => exact ⟨0, Nat.zero_le _, rfl, rfl, Below.refl _ _⟩
  case round =>
    obtain ⟨k, hk, rfl, hr, hbr⟩ := hrel
    by_cases hlt : k < l.length
    · obtain ⟨b2, off, rfl, hb, hc⟩ := HS.out.resolve_left (by intro e; rw [e] at hlt; simp at hlt)
      obtain ⟨x, hx⟩ : ∃ x, x = l.getD k (0, ByteArray.empty) := ⟨_, rfl⟩
      obtain ⟨hc1, hc2⟩ := hc k hlt
      rw [← hx] at hc1 hc2
      have HX : Hid (l[k]? = some x) := by rw [hx]; exact getD_at _ _ _ hlt
      have g1 := cellKeep hbr hb hc1
      have g2 := cellKeep hbr hb hc2
      clear hx hc hc1 hc2
      obtain ⟨n, t⟩ := x
      have hlt' : (k : Int) < (l.length : Int) := by omega
      have hb4 := hbr.alloc hbr.size (Obj.cells #[.int .i64 n, .string t] 78)
      by_cases he : n = b
      · have HA : Hid (textIn b l = some t) := text_hit HX.out he hr.out
        subst he
        go_wp2
        go_ret2
        exact ⟨by rw [HA.out]; rfl, hb4⟩
      · have HR := hide (text_miss HX.out he hr.out)
        have he' : (n == b) = false := by simpa using he
        clear hr
        go_wp2
        go_roundw
        case rel => exact ⟨k + 1, by omega, by go_num, HR, hb4⟩
        case measure => simp [intOf]; omega
    · have HA : Hid (textIn b l = none) := by have := hr.out; rw [List.take_of_length_le (by omega)] at this; exact this
      clear hr
      go_wp2
      go_ret2
      exact ⟨by rw [HA.out]; rfl, hbr⟩


set_option maxHeartbeats 400000 in
theorem isBlock_any (b : Int) (w : World) :
    Calls Tryz.prog 45 #[.int .i64 b] w fun e w' => e = .returned (.bool (withinB b 0 11)) ∧ w = w' := by
  by_cases h0 : 0 ≤ b <;> by_cases h1 : b < 12
  all_goals
    have e1 : decide (b ≤ 11) = decide (b < 12) := by by_cases h : b < 12 <;> simp [h] <;> omega
    go_enter Tryz.func45, Tryz.ntmps45
    go_wp2
    go_ret
    exact ⟨by simp [withinB, e1, h0, h1], rfl⟩

theorem rest_take {l : List (Int × ByteArray)} {k : Nat} {x : Int × ByteArray} (h : l[k]? = some x) (b : Int) : (l.take (k + 1)).filter (fun y => decide (y.1 ≠ b)) = (l.take k).filter (fun y => decide (y.1 ≠ b)) ++ (if x.1 = b then [] else [x]) := by
  rw [List.take_add_one, h, List.filter_append]
  by_cases e : x.1 = b <;> simp [e]

set_option maxHeartbeats 2000000 in
set_option maxRecDepth 100000 in
theorem rest_any (a : Option Addr) (c : Nat) (l : List (Int × ByteArray)) (b : Int) (w : World) (h : SegW w a l) (hn : l.length ≤ 500) :
    Calls Tryz.prog 49 #[.slice a l.length c, .int .i64 b] w fun e w' => ∃ v', e = .returned v' ∧ w'.ownsRow w.heap.size 78 2 v' (l.filter (fun y => decide (y.1 ≠ b))).length (cellsC (l.filter (fun y => decide (y.1 ≠ b)))) ∧ Below w.heap.size w w' := by
  have HS := hide h
  clear h
  go_enter Tryz.func49, Tryz.ntmps49
  go_wp2
  go_loopw [5, 10] (fun s i wr => ∃ k : Nat, k ≤ l.length ∧ i = .int .i64 k ∧ Hid (wr.ownsRow w.heap.size 78 2 s ((l.take k).filter (fun y => decide (y.1 ≠ b))).length (cellsC ((l.take k).filter (fun y => decide (y.1 ≠ b))))) ∧ Hid (Below w.heap.size w wr)) (fun _ i _ => l.length - (intOf i).toNat)
  case atStart => exact ⟨0, Nat.zero_le _, rfl, World.ownsRow_nil _ _ _ _, Below.refl _ _⟩
  case round =>
    obtain ⟨k, hk, rfl, hown, hbr⟩ := hrel
    by_cases hlt : k < l.length
    · obtain ⟨b2, off, rfl, hb, hc⟩ := HS.out.resolve_left (by intro e; rw [e] at hlt; simp at hlt)
      obtain ⟨x, hx⟩ : ∃ x, x = l.getD k (0, ByteArray.empty) := ⟨_, rfl⟩
      obtain ⟨hc1, hc2⟩ := hc k hlt
      rw [← hx] at hc1 hc2
      have HX : Hid (l[k]? = some x) := by rw [hx]; exact getD_at _ _ _ hlt
      have g1 := cellKeep hbr.out hb hc1
      have g2 := cellKeep hbr.out hb hc2
      clear hx hc hc1 hc2
      obtain ⟨n, s⟩ := x
      have hlt' : (k : Int) < (l.length : Int) := by omega
      have HT := hide (rest_take HX.out b)
      have hq : ((l.take k).filter (fun y => decide (y.1 ≠ b))).length ≤ 500 := Nat.le_trans (List.length_filter_le _ _) (by rw [List.length_take]; omega)
      generalize (l.take k).filter (fun y => decide (y.1 ≠ b)) = q at *
      by_cases he : n = b
      · have HT2 : Hid ((l.take (k + 1)).filter (fun y => decide (y.1 ≠ b)) = q) := by rw [Hid, HT.out, if_pos he, List.append_nil]
        subst he
        have HO : Hid ((wr.alloc (.cells #[.int .i64 n, .string s] 78)).ownsRow w.heap.size 78 2 _ q.length (cellsC q)) := owns_keep hown.out (below1 _ _)
        have HB := hide (bthen hbr.out (below1 wr (.cells #[.int .i64 n, .string s] 78)))
        clear HT hown
        go_wp2
        go_roundw
        case rel => exact ⟨k + 1, by omega, by go_num, by rw [HT2.out]; exact HO, HB⟩
        case measure => simp [intOf]; omega
      · have he' : (n == b) = false := by simpa using he
        have HT2 : Hid ((l.take (k + 1)).filter (fun y => decide (y.1 ≠ b)) = q ++ [(n, s)]) := by rw [Hid, HT.out, if_neg he]
        clear HT
        go_wp2_with (at_builtin; refine wpList_appC _ w w.heap.size rfl _ _ rfl _ q.length (cellsC q) rfl (owns_keep hown.out (bthen (below1 _ _) (below1 _ _))) (some ⟨wr.heap.size + 1, 0, none⟩) 1 [(n, s)] rfl (.inr ⟨wr.heap.size + 1, 0, rfl, by simp, fun i hi => ?_⟩) (by simp; omega) (Nat.le_trans hbr.out.size (by simp; omega)) (bthen hbr.out (bthen (below1 _ _) (below1 _ _))) ?_)
        · have : i = 0 := by simpa using hi
          subst this
          exact ⟨by simp [go_sem], by simp [go_sem]⟩
        · intro v' w' hown' hB'
          clear hown hbr g1 g2
          go_wp2
          go_roundw
          case rel => exact ⟨k + 1, by omega, by go_num, by rw [HT2.out, List.length_append, cellsC_append]; exact hown', hB'⟩
          case measure => simp [intOf]; omega
    · have e : k = l.length := by omega
      subst e
      rw [List.take_length] at hown
      go_wp2
      go_ret
      exact ⟨_, rfl, hown.out, hbr.out⟩

theorem docW_le (l : List (Int × ByteArray)) (b : Int) (s : ByteArray) (j : Nat) : (docW l b s j).length ≤ 1 := by
  unfold docW
  split
  · simp
  · cases textIn j l <;> simp
theorem flat_le {α : Type} (f : Nat → List α) (h : ∀ j, (f j).length ≤ 1) (k : Nat) : ((List.range k).flatMap f).length ≤ k := by
  induction k with
  | zero => simp
  | succ k ih =>
    rw [List.range_succ, List.flatMap_append, List.length_append]
    have := h k
    simp at ih ⊢
    omega
theorem flat_succ {α : Type} (f : Nat → List α) (k : Nat) : (List.range (k + 1)).flatMap f = (List.range k).flatMap f ++ f k := by
  rw [List.range_succ, List.flatMap_append]; simp

set_option maxHeartbeats 2000000 in
set_option maxRecDepth 100000 in
theorem refWith_any (a : Option Addr) (c : Nat) (l : List (Int × ByteArray)) (b : Int) (s : ByteArray) (w : World) (h : SegW w a l) (hn : l.length ≤ maxLen) :
    Calls Tryz.prog 48 #[.slice a l.length c, .int .i64 b, .string s] w fun e w' => ∃ v', e = .returned v' ∧ w'.ownsRow w.heap.size 78 2 v' ((List.range 12).flatMap (docW l b s)).length (cellsC ((List.range 12).flatMap (docW l b s))) ∧ Below w.heap.size w w' := by
  have HS := hide h
  have HN := hide hn
  clear h hn
  go_enter Tryz.func48, Tryz.ntmps48
  go_wp2
  go_loopw [7, 11] (fun v i wr => ∃ k : Nat, k ≤ 12 ∧ i = .int .i64 k ∧ Hid (wr.ownsRow w.heap.size 78 2 v ((List.range k).flatMap (docW l b s)).length (cellsC ((List.range k).flatMap (docW l b s)))) ∧ Hid (Below w.heap.size w wr)) (fun _ i _ => 12 - (intOf i).toNat)
  case atStart => exact ⟨0, Nat.zero_le _, rfl, World.ownsRow_nil _ _ _ _, Below.refl _ _⟩
  case round =>
    obtain ⟨k, hk, rfl, hown, hbr⟩ := hrel
    by_cases hlt : k < 12
    · have hlt' : (k : Int) < 12 := by omega
      have hq := flat_le (docW l b s) (docW_le l b s) k
      have HF := hide (flat_succ (docW l b s) k)
      generalize (List.range k).flatMap (docW l b s) = q at *
      go_wp2_with fail
      refine (textOf_any a c l (k : Int) wr (HS.out.below hbr.out) HN.out).mono ?_
      rintro e w1 ⟨rfl, hb1⟩
      have HO1 := hide (owns_keep hown.out hb1)
      have HB1 := hide (bthen hbr.out hb1)
      clear hown hbr hb1
      by_cases he : (k : Int) = b
      · have he' : ((k : Int) == b) = true := by simpa using he
        have HF2 : Hid ((List.range (k + 1)).flatMap (docW l b s) = q ++ [(b, s)]) := by rw [Hid, HF.out, docW, if_pos he]
        clear HF
        go_wp2_with (at_builtin; refine wpList_appC _ w w.heap.size rfl _ _ rfl _ q.length (cellsC q) rfl (owns_keep HO1.out (below1 _ _)) (some ⟨w1.heap.size, 0, none⟩) 1 [(b, s)] rfl (.inr ⟨w1.heap.size, 0, rfl, by simp, fun i hi => ?_⟩) (by simp; omega) (Nat.le_trans HB1.out.size (by simp)) (bthen HB1.out (below1 _ _)) ?_)
        · have : i = 0 := by simpa using hi
          subst this
          exact ⟨by simp [go_sem], by simp [go_sem]⟩
        · intro v' w' hown' hB'
          clear HO1 HB1
          go_wp2
          go_roundw
          case rel => exact ⟨k + 1, by omega, by go_num, by rw [HF2.out, List.length_append, cellsC_append]; exact hown', hB'⟩
          case measure => simp [intOf]; omega
      · have he' : ((k : Int) == b) = false := by simpa using he
        cases ht : textIn (k : Int) l with
        | none =>
          have HF2 : Hid ((List.range (k + 1)).flatMap (docW l b s) = q) := by rw [Hid, HF.out, docW, if_neg he, ht]; simp
          clear HF
          go_wp2
          go_roundw
          case rel => exact ⟨k + 1, by omega, by go_num, by rw [HF2.out]; exact HO1, HB1⟩
          case measure => simp [intOf]; omega
        | some u =>
          have HF2 : Hid ((List.range (k + 1)).flatMap (docW l b s) = q ++ [((k : Int), u)]) := by rw [Hid, HF.out, docW, if_neg he, ht]; rfl
          clear HF
          go_wp2_with (at_builtin; refine wpList_appC _ w w.heap.size rfl _ _ rfl _ q.length (cellsC q) rfl (owns_keep HO1.out (below1 _ _)) (some ⟨w1.heap.size, 0, none⟩) 1 [((k : Int), u)] rfl (.inr ⟨w1.heap.size, 0, rfl, by simp, fun i hi => ?_⟩) (by simp; omega) (Nat.le_trans HB1.out.size (by simp)) (bthen HB1.out (below1 _ _)) ?_)
          · have : i = 0 := by simpa using hi
            subst this
            exact ⟨by simp [go_sem], by simp [go_sem]⟩
          · intro v' w' hown' hB'
            clear HO1 HB1
            go_wp2
            go_roundw
            case rel => exact ⟨k + 1, by omega, by go_num, by rw [HF2.out, List.length_append, cellsC_append]; exact hown', hB'⟩
            case measure => simp [intOf]; omega
    · have e : k = 12 := by omega
      subst e
      go_wp2
      go_ret
      exact ⟨_, rfl, hown.out, hbr.out⟩


set_option maxHeartbeats 1000000 in
theorem in_any (a : Option Addr) (c : Nat) (l : List (Int × ByteArray)) (b : Int) (w : World) (h : SegW w a l) (hn : l.length ≤ maxLen) :
    Calls Tryz.prog 46 #[.slice a l.length c, .int .i64 b] w fun e w' => e = .returned (.bool (textIn b l).isSome) ∧ Below w.heap.size w w' := by
  unfold maxLen at hn
  have HS := hide h
  clear h
  go_enter Tryz.func46, Tryz.ntmps46
  go_wp2
  go_loopw [9] (fun i wr => ∃ k : Nat, k ≤ l.length ∧ i = .int .i64 k ∧ Hid (textIn b (l.take k) = none) ∧ Below w.heap.size w wr) (fun i _ => l.length - (intOf i).toNat)
  case atStart => exact ⟨0, Nat.zero_le _, rfl, rfl, Below.refl _ _⟩
  case round =>
    obtain ⟨k, hk, rfl, hr, hbr⟩ := hrel
    by_cases hlt : k < l.length
    · obtain ⟨b2, off, rfl, hb, hc⟩ := HS.out.resolve_left (by intro e; rw [e] at hlt; simp at hlt)
      obtain ⟨x, hx⟩ : ∃ x, x = l.getD k (0, ByteArray.empty) := ⟨_, rfl⟩
      obtain ⟨hc1, hc2⟩ := hc k hlt
      rw [← hx] at hc1 hc2
      have HX : Hid (l[k]? = some x) := by rw [hx]; exact getD_at _ _ _ hlt
      have g1 := cellKeep hbr hb hc1
      have g2 := cellKeep hbr hb hc2
      clear hx hc hc1 hc2
      obtain ⟨n, t⟩ := x
      have hlt' : (k : Int) < (l.length : Int) := by omega
      have hb4 := hbr.alloc hbr.size (Obj.cells #[.int .i64 n, .string t] 78)
      by_cases he : n = b
      · have HA : Hid ((textIn b l).isSome = true) := by rw [Hid, text_hit HX.out he hr.out]; rfl
        subst he
        go_wp2
        go_ret
        exact ⟨by rw [HA.out]; rfl, hb4⟩
      · have HR := hide (text_miss HX.out he hr.out)
        have he' : (n == b) = false := by simpa using he
        clear hr
        go_wp2
        go_roundw
        case rel => exact ⟨k + 1, by omega, by go_num, HR, hb4⟩
        case measure => simp [intOf]; omega
    · have HA : Hid ((textIn b l).isSome = false) := by have := hr.out; rw [List.take_of_length_le (by omega)] at this; rw [Hid, this]; rfl
      clear hr
      go_wp2
      go_ret
      exact ⟨by rw [HA.out]; rfl, hbr⟩

end Go.Proofs.YtjnpndfpajjihabGreat
