/-
  The walk of package txn's reach; what a good transaction is bounded by.
-/
import Derived.Test.YtjnpndfpajjihabTOwn
import Derived.Test.YtjnpndfpajjihabTGood
import Derived.Test.YtjnpndfpajjihabTSmallX
import Derived.Test.YtjnpndfpajjihabTNamed
import Derived.Test.YtjnpndfpajjihabTBox
namespace Go.Proofs.Ytjnpndfpajjihab
open Go.RowKit

theorem wrapId (n : Int) (h : -9223372036854775808 ≤ n ∧ n ≤ 9223372036854775807) : wrap64 n = n := by unfold wrap64; omega

theorem good_hd {t : Tx} (h : goodX t = true) (k : Int) : hdB (hdAt t k) = true := by
  have := ((goodX_iff t).1 h).2.2.2.2
  unfold hdAt
  split
  · exact this.1
  · split
    · exact this.2.1
    · exact this.2.2
theorem good_asked {t : Tx} (h : goodX t = true) : askedN t = (t.info.length : Int) + (t.rev.length : Int) + t.h0.left + t.h1.left + t.h2.left ∧ 0 ≤ askedN t ∧ askedN t ≤ 96 := by
  have hs := good_small h
  have hh := ((goodX_iff t).1 h).2.2.2.2
  have a0 := (hdB_iff _).1 hh.1
  have a1 := (hdB_iff _).1 hh.2.1
  have a2 := (hdB_iff _).1 hh.2.2
  have e : askedN t = (t.info.length : Int) + (t.rev.length : Int) + t.h0.left + t.h1.left + t.h2.left := by
    unfold askedN
    rw [wrapId ((t.info.length : Int) + (t.rev.length : Int)) (by omega), wrapId ((t.info.length : Int) + (t.rev.length : Int) + t.h0.left) (by omega), wrapId ((t.info.length : Int) + (t.rev.length : Int) + t.h0.left + t.h1.left) (by omega), wrapId _ (by omega)]
  rw [e]
  omega

set_option maxHeartbeats 1000000 in
theorem reach_any (v : Value) (t : Tx) (h b : Int) (w : World) (hT : IsTx w v t) (r1 : t.info.length * 24 ≤ 140737488355328) (r2 : t.data.length * 24 ≤ 140737488355328) :
    Calls Try.prog 79 #[v, .int .i64 h, .int .i64 b] w fun e w' => e = .returned (.int .i64 (reachE t h b)) ∧ Below w.heap.size w w' := by
  have HT := hide hT
  obtain ⟨a, c, a', c', r, d, rfl, hM, hD, hR, n1, n2, n3⟩ := hT
  clear hM hD hR n1 n2 n3
  go_enter Try.func79, Try.ntmps79
  go_wp2_with fail
  refine (tGood_any _ t _ (HT.out.below (below1 _ _)) r1 r2).mono ?_
  rintro e w1 ⟨rfl, hb1⟩
  have hs1 : w.heap.size < w1.heap.size := by have := hb1.size; simp at this; omega
  obtain ⟨⟨x0, x1, x2, x3, x4, x5, x6, x7, x8, x9⟩, _⟩ := box10 (one1 hb1)
  have HB := hide (bthen (below1 _ _) hb1)
  clear hb1
  cases hg : goodX t with
  | false =>
    have HE : Hid (reachE t h b = 2) := by rw [Hid, reachE, if_pos hg]
    go_wp2
    go_ret
    exact ⟨by rw [HE.out]; rfl, HB.out⟩
  | true =>
    have HG := hide hg
    go_wp2_with fail
    refine (isOn_any _ t h _ (HT.out.below HB.out)).mono ?_
    rintro e w2 ⟨rfl, hb2⟩
    have HB2 := hide (bthen HB.out hb2)
    clear hb2 x0 x1 x2 x3 x4 x5 x6 x7 x8 x9 hg
    cases ho : onB t h with
    | false =>
      have HE : Hid (reachE t h b = 4) := by
        rw [Hid, reachE, if_neg (by rw [HG.out]; simp), if_pos]
        rw [onB] at ho
        by_cases hw : 0 ≤ h ∧ h ≤ 2
        · rw [withinB_iff.2 hw, Bool.true_and] at ho
          exact .inr (.inr (.inl ho))
        · omega
      go_wp2
      go_ret
      exact ⟨by rw [HE.out]; rfl, HB2.out⟩
    | true =>
      have ho' : withinB h 0 2 = true ∧ (hdAt t h).on = true := by rw [onB] at ho; simpa using ho
      have hw := withinB_iff.1 ho'.1
      cases hq : withinB b 0 11 with
      | false =>
        have HE : Hid (reachE t h b = 4) := by
          rw [Hid, reachE, if_neg (by rw [HG.out]; simp), if_pos]
          by_cases hb : 0 ≤ b ∧ b ≤ 11
          · rw [withinB_iff.2 hb] at hq; cases hq
          · omega
        clear ho' hw
        go_wp2_with (go_at_call 64; refine (tWithin_any _ _ _ _).mono ?_; rintro e w' ⟨rfl, rfl⟩)
        go_ret
        exact ⟨by rw [HE.out]; rfl, HB2.out⟩
      | true =>
        have hb := withinB_iff.1 hq
        have HE : Hid (reachE t h b = 0) := by
          rw [Hid, reachE, if_neg (by rw [HG.out]; simp), if_neg]
          rw [ho'.2]
          simp
          omega
        clear ho' hw hb
        go_wp2_with (go_at_call 64; refine (tWithin_any _ _ _ _).mono ?_; rintro e w' ⟨rfl, rfl⟩)
        go_ret
        exact ⟨by rw [HE.out]; rfl, HB2.out⟩

/-- What a reached transaction, handle and block are. -/
theorem reach_ok {t : Tx} {h b : Int} (e : reachE t h b = 0) : goodX t = true ∧ (h = 0 ∨ h = 1 ∨ h = 2) ∧ (hdAt t h).on = true ∧ 0 ≤ b ∧ b ≤ 11 := by
  unfold reachE at e
  cases hg : goodX t with
  | false => rw [if_pos hg] at e; cases e
  | true =>
    rw [if_neg (by rw [hg]; simp)] at e
    by_cases hc : h < 0 ∨ 2 < h ∨ (hdAt t h).on = false ∨ b < 0 ∨ 11 < b
    · rw [if_pos hc] at e; cases e
    · have ho : (hdAt t h).on = true := by cases hh : (hdAt t h).on; exact absurd (.inr (.inr (.inl hh))) hc; rfl
      refine ⟨rfl, by omega, ho, by omega, by omega⟩

end Go.Proofs.Ytjnpndfpajjihab
