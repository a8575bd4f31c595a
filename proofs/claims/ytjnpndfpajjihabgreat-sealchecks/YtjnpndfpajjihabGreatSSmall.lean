/-
  The walks of stamp's own within, rise and hasForeignPart.
-/
import Derived.Test.YtjnpndfpajjihabGreatMCore
import Derived.Test.YtjnpndfpajjihabGreatIntRows
import Derived.Test.YtjnpndfpajjihabGreatWithin
import Derived.Laws.OwnMore
namespace Go.Proofs.YtjnpndfpajjihabGreat
open Go.RowKit

theorem withinB_yes {n a b : Int} (h : withinB n a b = true) : a ≤ n ∧ n ≤ b := by simpa [withinB] using h
theorem withinB_no {n a b : Int} (h : withinB n a b = false) : n < a ∨ b < n := by
  by_cases h1 : a ≤ n
  · by_cases h2 : n ≤ b
    · simp [withinB, h1, h2] at h
    · omega
  · omega

set_option maxHeartbeats 1000000 in
theorem sWithin_any (n a b : Int) (w : World) :
    Calls Tryz.prog 147 #[.int .i64 n, .int .i64 a, .int .i64 b] w fun e w' => e = .returned (.bool (withinB n a b)) ∧ w = w' := by
  by_cases h1 : a ≤ n
  · by_cases h2 : n ≤ b
    · have HE : Hid (withinB n a b = true) := by simp [Hid, withinB, h1, h2]
      go_enter Tryz.func147, Tryz.ntmps147
      go_wp2
      go_ret
      exact ⟨by rw [HE.out]; rfl, rfl⟩
    · have HE : Hid (withinB n a b = false) := by simp [Hid, withinB, h1, h2]
      go_enter Tryz.func147, Tryz.ntmps147
      go_wp2
      go_ret
      exact ⟨by rw [HE.out]; rfl, rfl⟩
  · have HE : Hid (withinB n a b = false) := by simp [Hid, withinB, h1]
    go_enter Tryz.func147, Tryz.ntmps147
    go_wp2
    go_ret
    exact ⟨by rw [HE.out]; rfl, rfl⟩

theorem lastNum_in (q : Int) (l : List Int) (h : risesFrom q l = true) (hq : -1 ≤ q ∧ q ≤ 11) : -1 ≤ lastNum q l ∧ lastNum q l ≤ 11 := by
  induction l generalizing q with
  | nil => exact hq
  | cons x r ih =>
    by_cases e : x ≤ q ∨ 11 < x
    · simp [risesFrom, e] at h
    · simp only [risesFrom, if_neg e] at h
      exact ih x h (by omega)

set_option maxHeartbeats 1000000 in
theorem sRise_any (a : Option Addr) (c : Nat) (l : List Int) (w : World) (h : SegI w a l) (hn : l.length ≤ maxLen) :
    Calls Tryz.prog 163 #[.slice a l.length c] w fun e w' => e = .returned (.bool (rises l)) ∧ w = w' := by
  unfold maxLen at hn
  have HS := hide h
  clear h
  go_enter Tryz.func163, Tryz.ntmps163
  go_wp2
  go_loop [3, 8] (fun q i => ∃ k : Nat, k ≤ l.length ∧ i = .int .i64 k ∧ q = .int .i64 (lastNum (-1) (l.take k) + 1) ∧ Hid (risesFrom (-1) (l.take k) = true)) (fun _ i => l.length - (intOf i).toNat)
  case atStart => exact ⟨0, Nat.zero_le _, rfl, rfl, by simp [Hid, risesFrom]⟩
  case round =>
    obtain ⟨k, hk, rfl, rfl, hr⟩ := hrel
    by_cases hlt : k < l.length
    · obtain ⟨b, off, rfl, hb, hc⟩ := HS.out.resolve_left (by intro e; rw [e] at hlt; simp at hlt)
      obtain ⟨x, hx⟩ : ∃ x, x = l.getD k 0 := ⟨_, rfl⟩
      have hck := hc k hlt
      rw [← hx] at hck
      have HX : Hid (l[k]? = some x) := by rw [hx]; exact getD_at _ _ _ hlt
      have HT : Hid (l.take (k + 1) = l.take k ++ [x]) := by rw [Hid, List.take_add_one, HX.out]; rfl
      clear hx hc
      obtain ⟨q, hq⟩ : ∃ q, q = lastNum (-1) (l.take k) := ⟨_, rfl⟩
      have hqi := lastNum_in _ _ hr.out (by omega)
      rw [← hq] at hqi ⊢
      have HQ := hide hq
      clear hq
      have hlt' : (k : Int) < (l.length : Int) := by omega
      go_wp2_with fail
      refine (sWithin_any x (q + 1) 11 _).mono ?_
      rintro e w1 ⟨rfl, rfl⟩
      cases hw : withinB x (q + 1) 11 with
      | false =>
        have hx := withinB_no hw
        have hx2 : x ≤ q ∨ 11 < x := by omega
        have HR : Hid (rises l = false) := rises_no (-1) l (k + 1) (by rw [HT.out, rises_snoc, ← HQ.out]; simp [hx2])
        clear hx2
        clear hw hx
        go_wp2
        go_ret
        exact ⟨by rw [HR.out]; rfl, rfl⟩
      | true =>
        have hx := withinB_yes hw
        have HR : Hid (risesFrom (-1) (l.take (k + 1)) = true) := by
          have h1 : ¬ x ≤ q := by omega
          have h2 : ¬ 11 < x := by omega
          rw [Hid, HT.out, rises_snoc, hr.out, ← HQ.out]; simp [h1, h2]
        clear hw
        go_wp2
        go_round
        case rel => exact ⟨k + 1, by omega, by go_num, by rw [HT.out, lastNum_snoc], HR⟩
        case measure => simp [intOf]; omega
    · have e : k = l.length := by omega
      have hr' : rises l = true := by have := hr.out; rw [e, List.take_length] at this; exact this
      have HR := hide hr'
      clear hr hr'
      go_wp2
      go_ret
      exact ⟨by rw [HR.out]; rfl, rfl⟩

/-- Has a mark a part that is none of its kind's? -/
def foreignB (k p : Int) (n n' : Nat) : Bool := decide ((p ≠ 0 ∧ k ≠ 1) ∨ (0 < n ∧ k ≠ 2) ∨ (0 < n' ∧ k ≠ 3))

set_option maxHeartbeats 4000000 in
theorem foreign_any (k p : Int) (a : Option Addr) (n c : Nat) (a' : Option Addr) (n' c' : Nat) (w : World) (hk : k = 1 ∨ k = 2 ∨ k = 3 ∨ k = 4) (q : Int) (hn : n ≤ maxLen) (hn' : n' ≤ maxLen) :
    Calls Tryz.prog 148 #[.agg #[.int .i64 k, .int .i64 q, .int .i64 p, .slice a n c, .slice a' n' c']] w fun e w' => e = .returned (.bool (foreignB k p n n')) ∧ Below w.heap.size w w' := by
  unfold maxLen at hn hn'
  have hp : p = 0 ∨ (¬ p = 0 ∧ (p != 0) = true) := by by_cases e : p = 0 <;> simp [e]
  have h1 : n = 0 ∨ 0 < (n : Int) := by omega
  have h2 : n' = 0 ∨ 0 < (n' : Int) := by omega
  rcases hk with rfl | rfl | rfl | rfl
  all_goals
    rcases hp with rfl | ⟨hp', hp⟩
    all_goals
      rcases h1 with rfl | h1
      all_goals
        rcases h2 with rfl | h2
        all_goals
          go_enter Tryz.func148, Tryz.ntmps148
          go_wp2
          go_ret
          refine ⟨?_, below1 _ _⟩
          first | rfl | (simp [foreignB] <;> omega)

end Go.Proofs.YtjnpndfpajjihabGreat
