/-
  The walks of package seal's newest and Newest.
  The walk of the statement SealNewest: it says true at every list of transactions and every block.
-/
import Derived.Test.YtleflaeebgjnnabXPure
import Derived.Test.YtleflaeebgjnnabXRows
import Derived.Test.YtleflaeebgjnnabTFind
import Derived.Test.YtleflaeebgjnnabTConcatC
import Derived.Test.YtleflaeebgjnnabTGood
import Derived.Test.YtleflaeebgjnnabECommitAll
namespace Go.Proofs.Ytleflaeebgjnnab
open Go.RowKit

set_option maxHeartbeats 2000000 in
set_option maxRecDepth 100000 in
theorem newest_any (a : Option Addr) (c : Nat) (l : List Tx) (b : Int) (w : World) (h : SegTx w a l) (hn : l.length ≤ maxLen) :
    Calls Try.prog 94 #[.slice a l.length c, .int .i64 b] w fun e w' => e = .returned (.tuple #[.string ((newestF l b).getD ⟨#[]⟩), .bool (newestF l b).isSome]) ∧ Below w.heap.size w w' := by
  unfold maxLen at hn
  have HS := hide h
  clear h
  go_enter Try.func94, Try.ntmps94
  go_wp2
  go_loopw [6] (fun i wr => ∃ k : Nat, k ≤ l.length ∧ i = .int .i64 ((k : Int) - 1) ∧ Hid (newestF (l.take k) b = newestF l b) ∧ Hid (Below w.heap.size w wr)) (fun i _ => (intOf i + 1).toNat)
  case atStart => exact ⟨l.length, Nat.le_refl _, by go_num, by rw [List.take_length]; rfl, Below.refl _ _⟩
  case round =>
    obtain ⟨k, hk, rfl, hF, hbr⟩ := hrel
    cases k with
    | zero =>
      have HF : Hid (newestF l b = none) := hF.out.symm
      clear hF
      go_wp2
      exact bodyPost_ret (v := .tuple #[.string ⟨#[]⟩, .bool false]) (by simp [results, Try.results94, go_sem]) rfl ⟨by rw [HF.out]; rfl, hbr.out⟩
    | succ j =>
      have ej : (((j + 1 : Nat) : Int) - 1) = (j : Int) := by omega
      rw [ej]
      have hj : j < l.length := by omega
      obtain ⟨b2, off, rfl, hb, hc⟩ := HS.out.resolve_left (by intro e; rw [e] at hj; simp at hj)
      obtain ⟨t, ht⟩ : ∃ t, t = l.getD j txz := ⟨_, rfl⟩
      have HX : Hid (l[j]? = some t) := by rw [ht]; exact tx_at hj
      have hcj := (hc j hj).below hbr.out hb
      rw [← ht] at hcj
      obtain ⟨a0, c0, a1, c1, r, d, ⟨x0, x1, x2, x3, x4, x5, x6, x7, x8, x9⟩, hT⟩ := hcj
      obtain ⟨s1, _, s3, n1, _, n3⟩ := hT.rows
      have HM := hide s1
      have HR := hide s3
      have N1 := hide n1
      have N3 := hide n3
      have HF : Hid (newestF l b = nwStep b (newestF (l.take j) b) t) := by rw [Hid, ← hF.out, newestF_take HX.out]
      have hlt' : (j : Int) < (l.length : Int) := by omega
      have hge : (0 : Int) ≤ (j : Int) := by omega
      clear ht hc hT s1 s3 n1 n3 hF x0 x2 x4 x5 x6 x7 x8 x9
      go_wp2_with fail
      refine (tGet_any a0 c0 t.info b _ HM.out N1.out).mono ?_
      rintro e w1 ⟨rfl, hb1⟩
      have k3 := cellKeep hb1 (Nat.lt_of_lt_of_le hb hbr.out.size) x3
      have HB1 := hide (bthen hbr.out hb1)
      replace HR := hide (HR.out.below hb1)
      clear hb1 x1 x3 HM N1
      cases hi : textIn b t.info with
      | some s =>
        have HE : Hid (newestF l b = some s) := by rw [Hid, HF.out, nwStep, hi]; rfl
        clear HF HR N3
        go_wp2
        exact bodyPost_ret (v := .tuple #[.string s, .bool true]) (by simp [results, Try.results94, go_sem]) rfl ⟨by rw [HE.out]; rfl, HB1.out⟩
      | none =>
        go_wp2_with fail
        refine (containsI_any r d t.rev b _ HR.out N3.out).mono ?_
        rintro e w2 ⟨rfl, rfl⟩
        by_cases hr : amongB t.rev b = true
        · have HE : Hid (newestF l b = none) := by rw [Hid, HF.out, nwStep, hi]; simp [hr]
          clear HF HR N3
          rw [hr]
          go_wp2
          exact bodyPost_ret (v := .tuple #[.string ⟨#[]⟩, .bool false]) (by simp [results, Try.results94, go_sem]) rfl ⟨by rw [HE.out]; rfl, HB1.out⟩
        · have hr' : amongB t.rev b = false := by simpa using hr
          have HE : Hid (newestF (l.take j) b = newestF l b) := by rw [Hid, HF.out, nwStep, hi]; simp [hr']
          clear HF HR N3 hr
          rw [hr']
          go_wp2
          go_roundw
          case rel => exact ⟨j, by omega, by go_num, HE, HB1⟩
          case measure => simp [intOf]

set_option maxHeartbeats 2000000 in
set_option maxRecDepth 100000 in
theorem sNewest_any (a : Option Addr) (c : Nat) (l : List Tx) (w : World) (h : SegTx w a l) (hn : l.length ≤ maxLen) :
    Calls Try.prog 39 #[.slice a l.length c] w fun e w' => ∃ v', e = .returned v' ∧ w'.ownsRow w.heap.size 91 2 v' (newestL l).length (cellsC (newestL l)) ∧ Below w.heap.size w w' := by
  have HS := hide h
  have HN := hide hn
  clear h hn
  go_enter Try.func39, Try.ntmps39
  go_wp2
  go_loopw [3, 7] (fun v i wr => ∃ k : Nat, k ≤ 12 ∧ i = .int .i64 k ∧ Hid (wr.ownsRow w.heap.size 91 2 v (asN (newestF l) k).length (cellsC (asN (newestF l) k))) ∧ Hid (Below w.heap.size w wr)) (fun _ i _ => 12 - (intOf i).toNat)
  case atStart => exact ⟨0, Nat.zero_le _, rfl, World.ownsRow_nil _ _ _ _, Below.refl _ _⟩
  case round =>
    obtain ⟨k, hk, rfl, hown, hbr⟩ := hrel
    by_cases hlt : k < 12
    · have hlt' : (k : Int) < 12 := by omega
      have hq := asN_length (newestF l) k
      have HF := hide (asN_snoc (newestF l) k)
      generalize asN (newestF l) k = q at *
      go_wp2_with fail
      refine (newest_any a c l (k : Int) wr (HS.out.below hbr.out) HN.out).mono ?_
      rintro e w1 ⟨rfl, hb1⟩
      have HO1 := hide (owns_keep hown.out hb1)
      have HB1 := hide (bthen hbr.out hb1)
      clear hown hbr hb1
      cases ht : newestF l (k : Int) with
      | none =>
        have HF2 : Hid (asN (newestF l) (k + 1) = q) := by rw [Hid, HF.out, oneC, ht]; simp
        clear HF
        go_wp2
        go_roundw
        case rel => exact ⟨k + 1, by omega, by go_num, by rw [HF2.out]; exact HO1, HB1⟩
        case measure => simp [intOf]; omega
      | some u =>
        have HF2 : Hid (asN (newestF l) (k + 1) = q ++ [((k : Int), u)]) := by rw [Hid, HF.out, oneC, ht]; rfl
        clear HF
        go_wp2_with (at_builtin; refine wpList_appC _ w w.heap.size rfl _ _ rfl _ q.length (cellsC q) rfl (owns_keep HO1.out (below1 _ _)) (some ⟨w1.heap.size, 0, none⟩) 1 [((k : Int), u)] rfl (.inr ⟨w1.heap.size, 0, rfl, by simp, fun i hi => ?_⟩) (by simp; omega) (Nat.le_trans HB1.out.size (by simp)) (bthen HB1.out (below1 _ _)) ?_)
        · have : i = 0 := by simpa using hi
          subst this
          exact ⟨by simp [go_sem], by simp [go_sem]⟩
        · intro v' w' hown' hB'
          clear HO1 HB1
          go_wp2
          go_roundw
          case rel => exact ⟨k + 1, by omega, by go_num, by rw [HF2.out, List.length_append, cellsC_append]; exact hown', hB'⟩
          case measure => simp [intOf]; omega
    · have e : k = 12 := by omega
      subst e
      go_wp2
      go_ret
      exact ⟨_, rfl, hown.out, hbr.out⟩

end Go.Proofs.Ytleflaeebgjnnab

namespace Go.Proofs.Ytleflaeebgjnnab
open Go.RowKit

theorem textIn_newest (l : List Tx) (h : ∀ t ∈ l, goodX t = true) (b : Int) : textIn b (newestL l) = newestF l b := by
  rw [newestL, textIn_asN]
  by_cases hb : 0 ≤ b ∧ b < (12 : Nat)
  · rw [if_pos hb]
  · rw [if_neg hb]
    have key : ∀ (l : List Tx) (o : Option ByteArray), (∀ t ∈ l, goodX t = true) → o = none → l.foldl (nwStep b) o = none := by
      intro l
      induction l with
      | nil => intro o _ e; exact e
      | cons t l ih =>
        intro o hg e
        rw [List.foldl_cons]
        refine ih _ (fun x hx => hg x (by simp [hx])) ?_
        obtain ⟨_, _, ⟨h1, _, _⟩, _⟩ := (goodX_iff t).1 (hg t (by simp))
        have h3 := ((rises_iff _).1 h1).1
        have hn : textIn b t.info = none := by
          have : ∀ m : List (Int × ByteArray), (∀ x ∈ m, x.1 ≠ b) → textIn b m = none := by
            intro m
            induction m with
            | nil => intro _; rfl
            | cons y m ih2 => intro hm; rw [textIn, if_neg (hm y (by simp))]; exact ih2 fun x hx => hm x (by simp [hx])
          refine this _ fun x hx e => hb ?_
          have := h3 x.1 (List.mem_map.2 ⟨x, hx, rfl⟩)
          omega
        rw [nwStep, hn, e]
        simp
    exact (key l none h rfl).symm

set_option maxHeartbeats 4000000 in
set_option maxRecDepth 100000 in
theorem sealNewest_walk (a : Option Addr) (c : Nat) (l : List Tx) (b : Int) (w : World) (h : SegTx w a l) (hn : l.length ≤ maxLen) (hr : ∀ t ∈ l, Reached t) :
    Calls Try.prog 7 #[.slice a l.length c, .int .i64 b] w fun e w' => e = .returned (.bool true) ∧ Below w.heap.size w w' := by
  have HN := hide hn
  unfold maxLen at hn
  have HS := hide h
  have HR := hide hr
  clear h hr
  go_enter Try.func7, Try.ntmps7
  go_wp2
  go_loopw [16] (fun i wr => ∃ k : Nat, k ≤ l.length ∧ i = .int .i64 k ∧ Hid ((l.take k).all goodX = true) ∧ Hid (Below w.heap.size w wr)) (fun i _ => l.length - (intOf i).toNat)
  case atStart => exact ⟨0, Nat.zero_le _, rfl, rfl, Below.refl _ _⟩
  case round =>
    obtain ⟨k, hk, rfl, hF, hbr⟩ := hrel
    by_cases hlt : k < l.length
    · obtain ⟨b2, off, rfl, hb, hc⟩ := HS.out.resolve_left (by intro e; rw [e] at hlt; simp at hlt)
      obtain ⟨t, ht⟩ : ∃ t, t = l.getD k txz := ⟨_, rfl⟩
      have HX : Hid (l[k]? = some t) := by rw [ht]; exact tx_at hlt
      have hcj := (hc k hlt).below hbr.out hb
      rw [← ht] at hcj
      obtain ⟨a0, c0, a1, c1, r, d, ⟨x0, x1, x2, x3, x4, x5, x6, x7, x8, x9⟩, hT⟩ := hcj
      have HT := hide hT
      have HQ := hide (HR.out t (List.mem_of_getElem? HX.out))
      have hlt' : (k : Int) < (l.length : Int) := by omega
      clear ht hc hT
      go_wp2_with fail
      refine (tGood_any _ t _ (HT.out.below (below1 _ _)) HQ.out.1 HQ.out.2.1).mono ?_
      rintro e w1 ⟨rfl, hb1⟩
      have HB1 := hide (bthen (bthen hbr.out (below1 _ _)) hb1)
      clear hb1 hbr HT HQ x0 x1 x2 x3 x4 x5 x6 x7 x8 x9
      cases hg : goodX t with
      | false =>
        go_wp2_with fail
        refine (sealsK_any _).mono ?_
        rintro e w2 ⟨rfl, hb2⟩
        have HB2 := hide (bthen HB1.out hb2)
        clear hb2
        go_wp2
        go_ret
        exact ⟨rfl, HB2.out⟩
      | true =>
        have HE : Hid ((l.take (k + 1)).all goodX = true) := by
          rw [Hid, List.take_add_one, HX.out, List.all_append, hF.out]; simp [hg]
        go_wp2
        go_roundw
        case rel => exact ⟨k + 1, by omega, by go_num, HE, HB1⟩
        case measure => simp [intOf]; omega
    · have e : k = l.length := by omega
      subst e
      have HE : Hid (∀ b, textIn b (newestL l) = newestF l b) := by
        have := hF.out
        rw [List.take_length, List.all_eq_true] at this
        exact textIn_newest l this
      clear hF
      have hlt' : ¬ ((l.length : Int) < (l.length : Int)) := by omega
      go_wp2_with fail
      refine (sNewest_any a c l _ (HS.out.below hbr.out) HN.out).mono ?_
      rintro e w1 ⟨v1, rfl, hO1, hb1⟩
      obtain ⟨va, vc, rfl, hS1, _⟩ := SegC.of_owns hO1
      have HS1 := hide hS1
      have HB1 := hide (bthen hbr.out hb1)
      have hl12 : (newestL l).length ≤ 12 := asN_length _ 12
      clear hS1 hO1 hb1 hbr
      go_wp2_with fail
      refine (tGet_any va vc (newestL l) b _ HS1.out (by unfold maxLen; omega)).mono ?_
      rintro e w2 ⟨rfl, hb2⟩
      rw [HE.out b]
      have HB2 := hide (bthen HB1.out hb2)
      clear hb2 HB1 HS1 HE hl12
      obtain ⟨N, hNe⟩ : ∃ N, N = newestF l b := ⟨_, rfl⟩
      have HNE := hide hNe
      rw [← hNe]
      clear hNe
      go_wp2
      go_loopw [9] (fun i wr => ∃ k : Nat, k ≤ l.length ∧ i = .int .i64 ((k : Int) - 1) ∧ Hid (newestF (l.take k) b = N) ∧ Hid (Below w.heap.size w wr)) (fun i _ => (intOf i + 1).toNat)
      case atStart => exact ⟨l.length, Nat.le_refl _, by go_num, by rw [List.take_length]; exact HNE.out.symm, HB2⟩
      case round =>
        clear HB2
        obtain ⟨wo, hwo⟩ : ∃ wo, wo = wr := ⟨_, rfl⟩
        subst hwo
        obtain ⟨k, hk, rfl, hF, hbr⟩ := hrel
        cases k with
        | zero =>
          have HF : Hid (N = none) := hF.out.symm
          clear hF
          have e0 := HF.out
          subst e0
          go_wp2_with fail
          refine (sealsK_any _).mono ?_
          rintro e w3 ⟨rfl, hb3⟩
          have HB3 := hide (bthen hbr.out hb3)
          clear hb3
          go_wp2
          go_ret
          exact ⟨rfl, HB3.out⟩
        | succ j =>
          have ej : (((j + 1 : Nat) : Int) - 1) = (j : Int) := by omega
          rw [ej]
          have hj : j < l.length := by omega
          obtain ⟨b2, off, rfl, hb, hc⟩ := HS.out.resolve_left (by intro e; rw [e] at hj; simp at hj)
          obtain ⟨t, ht⟩ : ∃ t, t = l.getD j txz := ⟨_, rfl⟩
          have HX : Hid (l[j]? = some t) := by rw [ht]; exact tx_at hj
          have hcj := hc j hj
          rw [← ht] at hcj
          obtain ⟨a0, c0, a1, c1, r, d, ⟨x0, x1, x2, x3, x4, x5, x6, x7, x8, x9⟩, hT⟩ := hcj
          obtain ⟨s1, _, s3, n1, _, n3⟩ := hT.rows
          have HM := hide (s1.below hbr.out)
          have HQ := hide s3
          have N1 := hide n1
          unfold maxLen at n3
          have HF : Hid (N = nwStep b (newestF (l.take j) b) t) := by rw [Hid, ← hF.out, newestF_take HX.out]
          have hlt2 : (j : Int) < (l.length : Int) := by omega
          have hge : (0 : Int) ≤ (j : Int) := by omega
          have y1 := cellKeep hbr.out hb x1
          have y3 := cellKeep hbr.out hb x3
          clear ht hc hT s1 s3 n1 hF x0 x1 x2 x3 x4 x5 x6 x7 x8 x9
          go_wp2_with fail
          refine (tGet_any a0 c0 t.info b _ HM.out N1.out).mono ?_
          rintro e w3 ⟨rfl, hb3⟩
          have k3 := cellKeep hb3 (Nat.lt_of_lt_of_le hb hbr.out.size) y3
          have HB3 := hide (bthen hbr.out hb3)
          clear hb3 y1 y3 HM N1 hbr
          cases hi : textIn b t.info with
          | some s =>
            have e0 : N = some s := by rw [HF.out, nwStep, hi]; rfl
            clear HF
            subst e0
            go_wp2_with fail
            refine (sealsK_any _).mono ?_
            rintro e w4 ⟨rfl, hb4⟩
            have HB4 := hide (bthen HB3.out hb4)
            clear hb4
            go_wp2
            go_ret
            exact ⟨rfl, HB4.out⟩
          | none =>
            go_wp2
            clear k3
            go_loopw [65] (fun i wr => ∃ q : Nat, q ≤ t.rev.length ∧ i = .int .i64 q ∧ Hid ((t.rev.take q).any (· == b) = false) ∧ wr = w3) (fun i _ => t.rev.length - (intOf i).toNat)
            case atStart => exact ⟨0, Nat.zero_le _, rfl, rfl, rfl⟩
            case round =>
              obtain ⟨q, hq, rfl, hA, rfl⟩ := hrel
              by_cases hq2 : q < t.rev.length
              · obtain ⟨b3, off3, rfl, hb3, hc3⟩ := HQ.out.resolve_left (by intro e; rw [e] at hq2; simp at hq2)
                obtain ⟨x, hx⟩ : ∃ x, x = t.rev.getD q 0 := ⟨_, rfl⟩
                have g3 := cellKeep HB3.out hb3 (hc3 q hq2)
                rw [← hx] at g3
                have HX3 : Hid (t.rev[q]? = some x) := by rw [hx]; exact getD_at _ _ _ hq2
                have hq' : (q : Int) < (t.rev.length : Int) := by omega
                clear hx hc3
                by_cases he : x = b
                · have hm : amongB t.rev b = true := any_hit HX3.out (by simpa using he)
                  have e0 : N = none := by rw [HF.out, nwStep, hi]; simp [hm]
                  clear HF hA HX3
                  subst e0
                  subst he
                  go_wp2_with fail
                  refine (sealsK_any _).mono ?_
                  rintro e w4 ⟨rfl, hb4⟩
                  have HB4 := hide (bthen HB3.out hb4)
                  clear hb4
                  go_wp2
                  go_ret
                  exact ⟨rfl, HB4.out⟩
                · have HA2 := hide (any_miss HX3.out (show (x == b) = false by simpa using he) hA.out)
                  have he' : (x == b) = false := by simpa using he
                  clear hA
                  go_wp2
                  go_roundw
                  case rel => exact ⟨q + 1, by omega, by go_num, HA2, trivial⟩
                  case measure => simp [intOf]; omega
              · have hm : amongB t.rev b = false := by have := hA.out; rw [List.take_of_length_le (by omega)] at this; exact this
                have HE2 : Hid (newestF (l.take j) b = N) := by rw [Hid, HF.out, nwStep, hi]; simp [hm]
                have hq' : ¬ ((q : Int) < (t.rev.length : Int)) := by omega
                clear hA HF
                go_wp2
                go_roundw
                case rel => exact ⟨j, by omega, by go_num, HE2, HB3⟩
                case measure => simp [intOf]

end Go.Proofs.Ytleflaeebgjnnab
