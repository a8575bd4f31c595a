/-
  The walks of the document's own among.
  The walks of the document's own TextOf.
  The walks of the document's own isBlock, rest and with.
  The walk of the document's own NewestOf.
-/
import Derived.Test.YtjnpndfpajjihabTDefs
import Derived.Test.YtjnpndfpajjihabTConcats
import Derived.Test.YtjnpndfpajjihabTPure
import Derived.Test.YtjnpndfpajjihabXPure
import Derived.Test.YtjnpndfpajjihabXRowsA
namespace Go.Proofs.Ytjnpndfpajjihab
open Go.RowKit

set_option maxHeartbeats 1000000 in
theorem among_any (a : Option Addr) (c : Nat) (l : List Int) (b : Int) (w : World) (h : SegI w a l) (hn : l.length ≤ maxLen) :
    Calls Try.prog 105 #[.slice a l.length c, .int .i64 b] w fun e w' => e = .returned (.bool (amongB l b)) ∧ w = w' := by
  unfold maxLen at hn
  have HS := hide h
  clear h
  go_enter Try.func105, Try.ntmps105
  go_wp2
  go_loop [9] (fun i => ∃ k : Nat, k ≤ l.length ∧ i = .int .i64 k ∧ Hid ((l.take k).any (· == b) = false)) (fun i => l.length - (intOf i).toNat)
  case atStart => exact ⟨0, Nat.zero_le _, rfl, by simp [Hid]⟩
  case round =>
    obtain ⟨k, hk, rfl, hr⟩ := hrel
    by_cases hlt : k < l.length
    · obtain ⟨b2, off, rfl, hb, hc⟩ := HS.out.resolve_left (by intro e; rw [e] at hlt; simp at hlt)
      obtain ⟨x, hx⟩ : ∃ x, x = l.getD k 0 := ⟨_, rfl⟩
      have hck := hc k hlt
      rw [← hx] at hck
      have HX : Hid (l[k]? = some x) := by rw [hx]; exact getD_at _ _ _ hlt
      clear hx hc
      have hlt' : (k : Int) < (l.length : Int) := by omega
      by_cases he : x = b
      · have HA : Hid (amongB l b = true) := any_hit HX.out (by simpa using he)
        subst he
        go_wp2
        go_ret
        exact ⟨by rw [HA.out]; rfl, rfl⟩
      · have HR := hide (any_miss HX.out (show (x == b) = false by simpa using he) hr.out)
        have he' : (x == b) = false := by simpa using he
        clear hr
        go_wp2
        go_round
        case rel => exact ⟨k + 1, by omega, by go_num, HR⟩
        case measure => simp [intOf]; omega
    · have HA : Hid (amongB l b = false) := by have := hr.out; rw [List.take_of_length_le (by omega)] at this; exact this
      clear hr
      go_wp2
      go_ret
      exact ⟨by rw [HA.out]; rfl, rfl⟩

end Go.Proofs.Ytjnpndfpajjihab

namespace Go.Proofs.Ytjnpndfpajjihab
open Go.RowKit

set_option maxHeartbeats 1000000 in
theorem textOf_any (a : Option Addr) (c : Nat) (l : List (Int × ByteArray)) (b : Int) (w : World) (h : SegW w a l) (hn : l.length ≤ maxLen) :
    Calls Try.prog 158 #[.slice a l.length c, .int .i64 b] w fun e w' => e = .returned (.tuple #[.string ((textIn b l).getD ⟨#[]⟩), .bool (textIn b l).isSome]) ∧ Below w.heap.size w w' := by
  unfold maxLen at hn
  have HS := hide h
  clear h
  go_enter Try.func158, Try.ntmps158
  go_wp2
  go_loopw [10] (fun i wr => ∃ k : Nat, k ≤ l.length ∧ i = .int .i64 k ∧ Hid (textIn b (l.take k) = none) ∧ Below w.heap.size w wr) (fun i _ => l.length - (intOf i).toNat)
  case atStart => exact ⟨0, Nat.zero_le _, rfl, rfl, Below.refl _ _⟩
  case round =>
    obtain ⟨k, hk, rfl, hr, hbr⟩ := hrel
    by_cases hlt : k < l.length
    · obtain ⟨b2, off, rfl, hb, hc⟩ := HS.out.resolve_left (by intro e; rw [e] at hlt; simp at hlt)
      obtain ⟨x, hx⟩ : ∃ x, x = l.getD k (0, ByteArray.empty) := ⟨_, rfl⟩
      obtain ⟨hc1, hc2⟩ := hc k hlt
      rw [← hx] at hc1 hc2
      have HX : Hid (l[k]? = some x) := by rw [hx]; exact getD_at _ _ _ hlt
      have g1 := cellKeep hbr hb hc1
      have g2 := cellKeep hbr hb hc2
      clear hx hc hc1 hc2
      obtain ⟨n, t⟩ := x
      have hlt' : (k : Int) < (l.length : Int) := by omega
      have hb4 := hbr.alloc hbr.size (Obj.cells #[.int .i64 n, .string t] 91)
      by_cases he : n = b
      · have HA : Hid (textIn b l = some t) := text_hit HX.out he hr.out
        subst he
        go_wp2
        go_ret2
        exact ⟨by rw [HA.out]; rfl, hb4⟩
      · have HR := hide (text_miss HX.out he hr.out)
        have he' : (n == b) = false := by simpa using he
        clear hr
        go_wp2
        go_roundw
        case rel => exact ⟨k + 1, by omega, by go_num, HR, hb4⟩
        case measure => simp [intOf]; omega
    · have HA : Hid (textIn b l = none) := by have := hr.out; rw [List.take_of_length_le (by omega)] at this; exact this
      clear hr
      go_wp2
      go_ret2
      exact ⟨by rw [HA.out]; rfl, hbr⟩

end Go.Proofs.Ytjnpndfpajjihab

namespace Go.Proofs.Ytjnpndfpajjihab
open Go.RowKit

set_option maxHeartbeats 400000 in
theorem isBlock_any (b : Int) (w : World) :
    Calls Try.prog 104 #[.int .i64 b] w fun e w' => e = .returned (.bool (withinB b 0 11)) ∧ w = w' := by
  by_cases h0 : 0 ≤ b <;> by_cases h1 : b < 12
  all_goals
    have e1 : decide (b ≤ 11) = decide (b < 12) := by by_cases h : b < 12 <;> simp [h] <;> omega
    go_enter Try.func104, Try.ntmps104
    go_wp2
    go_ret
    exact ⟨by simp [withinB, e1, h0, h1], rfl⟩

theorem rest_take {l : List (Int × ByteArray)} {k : Nat} {x : Int × ByteArray} (h : l[k]? = some x) (b : Int) : (l.take (k + 1)).filter (fun y => decide (y.1 ≠ b)) = (l.take k).filter (fun y => decide (y.1 ≠ b)) ++ (if x.1 = b then [] else [x]) := by
  rw [List.take_add_one, h, List.filter_append]
  by_cases e : x.1 = b <;> simp [e]

set_option maxHeartbeats 2000000 in
set_option maxRecDepth 100000 in
theorem rest_any (a : Option Addr) (c : Nat) (l : List (Int × ByteArray)) (b : Int) (w : World) (h : SegW w a l) (hn : l.length ≤ 500) :
    Calls Try.prog 103 #[.slice a l.length c, .int .i64 b] w fun e w' => ∃ v', e = .returned v' ∧ w'.ownsRow w.heap.size 91 2 v' (l.filter (fun y => decide (y.1 ≠ b))).length (cellsC (l.filter (fun y => decide (y.1 ≠ b)))) ∧ Below w.heap.size w w' := by
  have HS := hide h
  clear h
  go_enter Try.func103, Try.ntmps103
  go_wp2
  go_loopw [5, 10] (fun s i wr => ∃ k : Nat, k ≤ l.length ∧ i = .int .i64 k ∧ Hid (wr.ownsRow w.heap.size 91 2 s ((l.take k).filter (fun y => decide (y.1 ≠ b))).length (cellsC ((l.take k).filter (fun y => decide (y.1 ≠ b))))) ∧ Hid (Below w.heap.size w wr)) (fun _ i _ => l.length - (intOf i).toNat)
  case atStart => exact ⟨0, Nat.zero_le _, rfl, World.ownsRow_nil _ _ _ _, Below.refl _ _⟩
  case round =>
    obtain ⟨k, hk, rfl, hown, hbr⟩ := hrel
    by_cases hlt : k < l.length
    · obtain ⟨b2, off, rfl, hb, hc⟩ := HS.out.resolve_left (by intro e; rw [e] at hlt; simp at hlt)
      obtain ⟨x, hx⟩ : ∃ x, x = l.getD k (0, ByteArray.empty) := ⟨_, rfl⟩
      obtain ⟨hc1, hc2⟩ := hc k hlt
      rw [← hx] at hc1 hc2
      have HX : Hid (l[k]? = some x) := by rw [hx]; exact getD_at _ _ _ hlt
      have g1 := cellKeep hbr.out hb hc1
      have g2 := cellKeep hbr.out hb hc2
      clear hx hc hc1 hc2
      obtain ⟨n, s⟩ := x
      have hlt' : (k : Int) < (l.length : Int) := by omega
      have HT := hide (rest_take HX.out b)
      have hq : ((l.take k).filter (fun y => decide (y.1 ≠ b))).length ≤ 500 := Nat.le_trans (List.length_filter_le _ _) (by rw [List.length_take]; omega)
      generalize (l.take k).filter (fun y => decide (y.1 ≠ b)) = q at *
      by_cases he : n = b
      · have HT2 : Hid ((l.take (k + 1)).filter (fun y => decide (y.1 ≠ b)) = q) := by rw [Hid, HT.out, if_pos he, List.append_nil]
        subst he
        have HO : Hid ((wr.alloc (.cells #[.int .i64 n, .string s] 91)).ownsRow w.heap.size 91 2 _ q.length (cellsC q)) := owns_keep hown.out (below1 _ _)
        have HB := hide (bthen hbr.out (below1 wr (.cells #[.int .i64 n, .string s] 91)))
        clear HT hown
        go_wp2
        go_roundw
        case rel => exact ⟨k + 1, by omega, by go_num, by rw [HT2.out]; exact HO, HB⟩
        case measure => simp [intOf]; omega
      · have he' : (n == b) = false := by simpa using he
        have HT2 : Hid ((l.take (k + 1)).filter (fun y => decide (y.1 ≠ b)) = q ++ [(n, s)]) := by rw [Hid, HT.out, if_neg he]
        clear HT
        go_wp2_with (at_builtin; refine wpList_appC _ w w.heap.size rfl _ _ rfl _ q.length (cellsC q) rfl (owns_keep hown.out (bthen (below1 _ _) (below1 _ _))) (some ⟨wr.heap.size + 1, 0, none⟩) 1 [(n, s)] rfl (.inr ⟨wr.heap.size + 1, 0, rfl, by simp, fun i hi => ?_⟩) (by simp; omega) (Nat.le_trans hbr.out.size (by simp; omega)) (bthen hbr.out (bthen (below1 _ _) (below1 _ _))) ?_)
        · have : i = 0 := by simpa using hi
          subst this
          exact ⟨by simp [go_sem], by simp [go_sem]⟩
        · intro v' w' hown' hB'
          clear hown hbr g1 g2
          go_wp2
          go_roundw
          case rel => exact ⟨k + 1, by omega, by go_num, by rw [HT2.out, List.length_append, cellsC_append]; exact hown', hB'⟩
          case measure => simp [intOf]; omega
    · have e : k = l.length := by omega
      subst e
      rw [List.take_length] at hown
      go_wp2
      go_ret
      exact ⟨_, rfl, hown.out, hbr.out⟩

theorem docW_le (l : List (Int × ByteArray)) (b : Int) (s : ByteArray) (j : Nat) : (docW l b s j).length ≤ 1 := by
  unfold docW
  split
  · simp
  · cases textIn j l <;> simp
theorem flat_le {α : Type} (f : Nat → List α) (h : ∀ j, (f j).length ≤ 1) (k : Nat) : ((List.range k).flatMap f).length ≤ k := by
  induction k with
  | zero => simp
  | succ k ih =>
    rw [List.range_succ, List.flatMap_append, List.length_append]
    have := h k
    simp at ih ⊢
    omega
theorem flat_succ {α : Type} (f : Nat → List α) (k : Nat) : (List.range (k + 1)).flatMap f = (List.range k).flatMap f ++ f k := by
  rw [List.range_succ, List.flatMap_append]; simp

set_option maxHeartbeats 2000000 in
set_option maxRecDepth 100000 in
theorem refWith_any (a : Option Addr) (c : Nat) (l : List (Int × ByteArray)) (b : Int) (s : ByteArray) (w : World) (h : SegW w a l) (hn : l.length ≤ maxLen) :
    Calls Try.prog 106 #[.slice a l.length c, .int .i64 b, .string s] w fun e w' => ∃ v', e = .returned v' ∧ w'.ownsRow w.heap.size 91 2 v' ((List.range 12).flatMap (docW l b s)).length (cellsC ((List.range 12).flatMap (docW l b s))) ∧ Below w.heap.size w w' := by
  have HS := hide h
  have HN := hide hn
  clear h hn
  go_enter Try.func106, Try.ntmps106
  go_wp2
  go_loopw [7, 11] (fun v i wr => ∃ k : Nat, k ≤ 12 ∧ i = .int .i64 k ∧ Hid (wr.ownsRow w.heap.size 91 2 v ((List.range k).flatMap (docW l b s)).length (cellsC ((List.range k).flatMap (docW l b s)))) ∧ Hid (Below w.heap.size w wr)) (fun _ i _ => 12 - (intOf i).toNat)
  case atStart => exact ⟨0, Nat.zero_le _, rfl, World.ownsRow_nil _ _ _ _, Below.refl _ _⟩
  case round =>
    obtain ⟨k, hk, rfl, hown, hbr⟩ := hrel
    by_cases hlt : k < 12
    · have hlt' : (k : Int) < 12 := by omega
      have hq := flat_le (docW l b s) (docW_le l b s) k
      have HF := hide (flat_succ (docW l b s) k)
      generalize (List.range k).flatMap (docW l b s) = q at *
      go_wp2_with fail
      refine (textOf_any a c l (k : Int) wr (HS.out.below hbr.out) HN.out).mono ?_
      rintro e w1 ⟨rfl, hb1⟩
      have HO1 := hide (owns_keep hown.out hb1)
      have HB1 := hide (bthen hbr.out hb1)
      clear hown hbr hb1
      by_cases he : (k : Int) = b
      · have he' : ((k : Int) == b) = true := by simpa using he
        have HF2 : Hid ((List.range (k + 1)).flatMap (docW l b s) = q ++ [(b, s)]) := by rw [Hid, HF.out, docW, if_pos he]
        clear HF
        go_wp2_with (at_builtin; refine wpList_appC _ w w.heap.size rfl _ _ rfl _ q.length (cellsC q) rfl (owns_keep HO1.out (below1 _ _)) (some ⟨w1.heap.size, 0, none⟩) 1 [(b, s)] rfl (.inr ⟨w1.heap.size, 0, rfl, by simp, fun i hi => ?_⟩) (by simp; omega) (Nat.le_trans HB1.out.size (by simp)) (bthen HB1.out (below1 _ _)) ?_)
        · have : i = 0 := by simpa using hi
          subst this
          exact ⟨by simp [go_sem], by simp [go_sem]⟩
        · intro v' w' hown' hB'
          clear HO1 HB1
          go_wp2
          go_roundw
          case rel => exact ⟨k + 1, by omega, by go_num, by rw [HF2.out, List.length_append, cellsC_append]; exact hown', hB'⟩
          case measure => simp [intOf]; omega
      · have he' : ((k : Int) == b) = false := by simpa using he
        cases ht : textIn (k : Int) l with
        | none =>
          have HF2 : Hid ((List.range (k + 1)).flatMap (docW l b s) = q) := by rw [Hid, HF.out, docW, if_neg he, ht]; simp
          clear HF
          go_wp2
          go_roundw
          case rel => exact ⟨k + 1, by omega, by go_num, by rw [HF2.out]; exact HO1, HB1⟩
          case measure => simp [intOf]; omega
        | some u =>
          have HF2 : Hid ((List.range (k + 1)).flatMap (docW l b s) = q ++ [((k : Int), u)]) := by rw [Hid, HF.out, docW, if_neg he, ht]; rfl
          clear HF
          go_wp2_with (at_builtin; refine wpList_appC _ w w.heap.size rfl _ _ rfl _ q.length (cellsC q) rfl (owns_keep HO1.out (below1 _ _)) (some ⟨w1.heap.size, 0, none⟩) 1 [((k : Int), u)] rfl (.inr ⟨w1.heap.size, 0, rfl, by simp, fun i hi => ?_⟩) (by simp; omega) (Nat.le_trans HB1.out.size (by simp)) (bthen HB1.out (below1 _ _)) ?_)
          · have : i = 0 := by simpa using hi
            subst this
            exact ⟨by simp [go_sem], by simp [go_sem]⟩
          · intro v' w' hown' hB'
            clear HO1 HB1
            go_wp2
            go_roundw
            case rel => exact ⟨k + 1, by omega, by go_num, by rw [HF2.out, List.length_append, cellsC_append]; exact hown', hB'⟩
            case measure => simp [intOf]; omega
    · have e : k = 12 := by omega
      subst e
      go_wp2
      go_ret
      exact ⟨_, rfl, hown.out, hbr.out⟩

end Go.Proofs.Ytjnpndfpajjihab

namespace Go.Proofs.Ytjnpndfpajjihab
open Go.RowKit

set_option maxHeartbeats 8000000 in
set_option maxRecDepth 100000 in
theorem newestOf_any (a : Option Addr) (c : Nat) (l : List Tx) (w : World) (h : SegTx w a l) (hn : l.length ≤ maxLen) :
    Calls Try.prog 50 #[.slice a l.length c] w fun e w' => ∃ v', e = .returned v' ∧ w'.ownsRow w.heap.size 91 2 v' (asN (docF l) 12).length (cellsC (asN (docF l) 12)) ∧ Below w.heap.size w w' := by
  unfold maxLen at hn
  have HS := hide h
  clear h
  go_enter Try.func50, Try.ntmps50
  go_wp2
  go_loopw [3, 12] (fun v i wr => ∃ k : Nat, k ≤ l.length ∧ i = .int .i64 k ∧ Hid (wr.ownsRow w.heap.size 91 2 v (asN (docF (l.take k)) 12).length (cellsC (asN (docF (l.take k)) 12))) ∧ Hid (Below w.heap.size w wr)) (fun _ i _ => l.length - (intOf i).toNat)
  case atStart => exact ⟨0, Nat.zero_le _, rfl, World.ownsRow_nil _ _ _ _, Below.refl _ _⟩
  case round =>
    obtain ⟨wo, hwo⟩ : ∃ wo, wo = wr := ⟨_, rfl⟩
    subst hwo
    obtain ⟨k, hk, rfl, hown, hbr⟩ := hrel
    by_cases hlt : k < l.length
    · obtain ⟨b2, off, rfl, hb, hc⟩ := HS.out.resolve_left (by intro e; rw [e] at hlt; simp at hlt)
      obtain ⟨t, ht⟩ : ∃ t, t = l.getD k txz := ⟨_, rfl⟩
      have HX : Hid (l[k]? = some t) := by rw [ht]; exact tx_at hlt
      have hcj := hc k hlt
      rw [← ht] at hcj
      obtain ⟨a0, c0, a1, c1, r, d, ⟨x0, x1, x2, x3, x4, x5, x6, x7, x8, x9⟩, hT⟩ := hcj
      obtain ⟨s1, _, s3, n1, _, n3⟩ := hT.rows
      replace x0 := cellKeep hbr.out hb x0
      replace x1 := cellKeep hbr.out hb x1
      replace x2 := cellKeep hbr.out hb x2
      replace x3 := cellKeep hbr.out hb x3
      replace x4 := cellKeep hbr.out hb x4
      replace x5 := cellKeep hbr.out hb x5
      replace x6 := cellKeep hbr.out hb x6
      replace x7 := cellKeep hbr.out hb x7
      replace x8 := cellKeep hbr.out hb x8
      replace x9 := cellKeep hbr.out hb x9
      unfold maxLen at n1 n3
      have HM := hide s1
      have HR := hide s3
      have HD := hide (docF_take HX.out)
      have hlt' : (k : Int) < (l.length : Int) := by omega
      clear ht hc hT s1 s3
      generalize docF (l.take k) = f at *
      go_wp2
      clear x0 x1 x2 x3 x4 x5 x6 x7 x8 x9
      go_loopw [3, 19] (fun v i wq => ∃ q : Nat, q ≤ t.rev.length ∧ i = .int .i64 q ∧ Hid (wq.ownsRow w.heap.size 91 2 v (asN (dropF (t.rev.take q) f) 12).length (cellsC (asN (dropF (t.rev.take q) f) 12))) ∧ Hid (wq.heap[wo.heap.size]? = some (.cells #[.int .i64 t.seq, .slice a0 t.info.length c0, .slice a1 t.data.length c1, .slice r t.rev.length d, .bool t.h0.on, .int .i64 t.h0.left, .bool t.h1.on, .int .i64 t.h1.left, .bool t.h2.on, .int .i64 t.h2.left] 40 (0, 0))) ∧ wo.heap.size < wq.heap.size ∧ Hid (Below w.heap.size w wq)) (fun _ i _ => t.rev.length - (intOf i).toNat)
      case atStart => exact ⟨0, Nat.zero_le _, rfl, by rw [List.take_zero, dropF_nil]; exact owns_keep hown.out (below1 _ _), heap_alloc_new wo _, by simp, bthen hbr.out (below1 _ _)⟩
      case round =>
        obtain ⟨wq, hwq⟩ : ∃ wq, wq = wr := ⟨_, rfl⟩
        subst hwq
        obtain ⟨q, hq, rfl, hO1, K1, hs1, hb1⟩ := hrel
        by_cases hq2 : q < t.rev.length
        · obtain ⟨b3, off3, rfl, hb3, hc3⟩ := HR.out.resolve_left (by intro e; rw [e] at hq2; simp at hq2)
          obtain ⟨x, hx⟩ : ∃ x, x = t.rev.getD q 0 := ⟨_, rfl⟩
          have g3 := cellKeep hb1.out hb3 (hc3 q hq2)
          rw [← hx] at g3
          have HX3 : Hid (t.rev[q]? = some x) := by rw [hx]; exact getD_at _ _ _ hq2
          have HF : Hid ((asN (dropF (t.rev.take q) f) 12).filter (fun y => decide (y.1 ≠ x)) = asN (dropF (t.rev.take (q + 1)) f) 12) := by rw [Hid, asN_filter, dropF_take HX3.out]
          have hl12 := asN_length (dropF (t.rev.take q) f) 12
          have hq' : (q : Int) < (t.rev.length : Int) := by omega
          clear hx hc3 HX3
          generalize asN (dropF (t.rev.take q) f) 12 = Q at *
          obtain ⟨va, vc, hv, hS, _⟩ := SegC.of_owns hO1.out
          have HQ := hide hS
          subst hv
          clear hS hO1
          go_wp2_with fail
          refine (rest_any va vc Q x wq HQ.out (by omega)).mono ?_
          rintro e w2 ⟨v2, rfl, hO2, hb2⟩
          rw [HF.out] at hO2
          have HO2 := hide (owns_base hO2 hb1.out.size)
          have HB2 := hide (bthen hb1.out hb2)
          have K2 := hide (boxKeep hb2 hs1 K1.out)
          have hs2 := Nat.lt_of_lt_of_le hs1 hb2.size
          clear hO2 hb2 g3 HF HQ K1 hb1
          go_wp2
          go_roundw
          case rel => exact ⟨q + 1, by omega, by go_num, HO2, K2, hs2, HB2⟩
          case measure => simp [intOf]; omega
        · have e : q = t.rev.length := by omega
          subst e
          rw [List.take_length] at hO1
          have hq' : ¬ ((t.rev.length : Int) < (t.rev.length : Int)) := by omega
          obtain ⟨⟨y0, y1, y2, y3, y4, y5, y6, y7, y8, y9⟩, _⟩ := box10 K1.out
          go_wp2
          clear y0 y1 y2 y3 y4 y5 y6 y7 y8 y9
          go_loopw [3, 30] (fun v i wp => ∃ p : Nat, p ≤ t.info.length ∧ i = .int .i64 p ∧ Hid (wp.ownsRow w.heap.size 91 2 v (asN ((t.info.take p).foldl (putF t.rev) (dropF t.rev f)) 12).length (cellsC (asN ((t.info.take p).foldl (putF t.rev) (dropF t.rev f)) 12))) ∧ Hid (wp.heap[wo.heap.size]? = some (.cells #[.int .i64 t.seq, .slice a0 t.info.length c0, .slice a1 t.data.length c1, .slice r t.rev.length d, .bool t.h0.on, .int .i64 t.h0.left, .bool t.h1.on, .int .i64 t.h1.left, .bool t.h2.on, .int .i64 t.h2.left] 40 (0, 0))) ∧ wo.heap.size < wp.heap.size ∧ Hid (Below w.heap.size w wp)) (fun _ i _ => t.info.length - (intOf i).toNat)
          case atStart => exact ⟨0, Nat.zero_le _, rfl, hO1, K1, hs1, hb1⟩
          case round =>
            clear hO1 K1 hs1 hb1
            obtain ⟨p, hp, rfl, hO1, K1, hs1, hb1⟩ := hrel
            by_cases hp2 : p < t.info.length
            · obtain ⟨b3, off3, rfl, hb3, hc3⟩ := HM.out.resolve_left (by intro e; rw [e] at hp2; simp at hp2)
              obtain ⟨x, hx⟩ : ∃ x, x = t.info.getD p (0, ByteArray.empty) := ⟨_, rfl⟩
              obtain ⟨g1, g2⟩ := hc3 p hp2
              replace g1 := cellKeep hb1.out hb3 g1
              replace g2 := cellKeep hb1.out hb3 g2
              rw [← hx] at g1 g2
              have HX3 : Hid (t.info[p]? = some x) := by rw [hx]; exact getD_at _ _ _ hp2
              have HF := hide (putF_take HX3.out t.rev (dropF t.rev f))
              have hp' : (p : Int) < (t.info.length : Int) := by omega
              clear hx hc3 HX3
              obtain ⟨n, s⟩ := x
              generalize (t.info.take p).foldl (putF t.rev) (dropF t.rev f) = F at *
              obtain ⟨⟨y0, y1, y2, y3, y4, y5, y6, y7, y8, y9⟩, _⟩ := box10 K1.out
              have K2 := hide (boxKeep (below1 wr (.cells #[.int .i64 n, .string s] 91 (0, 0))) hs1 K1.out)
              go_wp2_with fail
              refine (isBlock_any n _).mono ?_
              rintro e w2 ⟨rfl, rfl⟩
              by_cases hwb : withinB n 0 11 = true
              · rw [hwb]
                go_wp2_with fail
                refine (among_any r d t.rev n _ (HR.out.below (bthen hb1.out (below1 _ _))) n3).mono ?_
                rintro e w3 ⟨rfl, rfl⟩
                cases hr : amongB t.rev n with
                | true =>
                  have HE : Hid (putF t.rev F (n, s) = F) := by rw [Hid, putF, if_neg]; simp [hr]
                  clear HM HR
                  go_wp2
                  go_roundw
                  case rel => exact ⟨p + 1, by omega, by go_num, by rw [HF.out, HE.out]; exact owns_keep hO1.out (below1 _ _), K2, by simp; omega, bthen hb1.out (below1 _ _)⟩
                  case measure => simp [intOf]; omega
                | false =>
                  have HE : Hid ((List.range 12).flatMap (docW (asN F 12) n s) = asN (putF t.rev F (n, s)) 12) := by rw [Hid, asN_docW, putF, if_pos ⟨hwb, hr⟩]
                  have hl12 := asN_length F 12
                  obtain ⟨va, vc, hv, hS, _⟩ := SegC.of_owns hO1.out
                  have HQ := hide (hS.below (below1 wr (.cells #[.int .i64 n, .string s] 91 (0, 0))))
                  subst hv
                  clear hS hO1 HM
                  generalize asN F 12 = Q at *
                  go_wp2_with fail
                  refine (refWith_any va vc Q n s _ HQ.out (by unfold maxLen; omega)).mono ?_
                  rintro e w4 ⟨v4, rfl, hO4, hb4⟩
                  rw [HE.out] at hO4
                  have HO4 := hide (owns_base hO4 (Nat.le_trans hb1.out.size (by simp)))
                  have HB4 := hide (bthen (bthen hb1.out (below1 _ _)) hb4)
                  have K4 := hide (boxKeep hb4 (Nat.lt_of_lt_of_le hs1 (by simp)) K2.out)
                  have hs4 : wo.heap.size < w4.heap.size := Nat.lt_of_lt_of_le (Nat.lt_of_lt_of_le hs1 (by simp)) hb4.size
                  clear hO4 hb4 HQ HE
                  go_wp2
                  go_roundw
                  case rel => exact ⟨p + 1, by omega, by go_num, by rw [HF.out]; exact HO4, K4, hs4, HB4⟩
                  case measure => simp [intOf]; omega
              · have hwb' : withinB n 0 11 = false := by simpa using hwb
                have HE : Hid (putF t.rev F (n, s) = F) := by rw [Hid, putF, if_neg]; simp [hwb']
                rw [hwb']
                go_wp2
                go_roundw
                case rel => exact ⟨p + 1, by omega, by go_num, by rw [HF.out, HE.out]; exact owns_keep hO1.out (below1 _ _), K2, by simp; omega, bthen hb1.out (below1 _ _)⟩
                case measure => simp [intOf]; omega
            · have e : p = t.info.length := by omega
              subst e
              rw [List.take_length] at hO1
              have hp' : ¬ ((t.info.length : Int) < (t.info.length : Int)) := by omega
              go_wp2
              go_roundw
              case rel => exact ⟨k + 1, by omega, by go_num, by rw [HD.out]; exact hO1, hb1⟩
              case measure => simp [intOf]; omega
    · have e : k = l.length := by omega
      subst e
      rw [List.take_length] at hown
      go_wp2
      go_ret
      exact ⟨_, rfl, hown.out, hbr.out⟩

end Go.Proofs.Ytjnpndfpajjihab
