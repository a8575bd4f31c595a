/-
  The walk of the document's own rising.
-/
import Derived.Test.YtjnpndfpajjihabGreatMCore
namespace Go.Proofs.YtjnpndfpajjihabGreat
open Go.RowKit

set_option maxHeartbeats 1000000 in
theorem rising_any (a : Option Addr) (c : Nat) (l : List Int) (w : World) (h : SegI w a l) (hn : l.length ≤ maxLen) :
    Calls Tryz.prog 97 #[.slice a l.length c] w fun e w' => e = .returned (.bool (rises l)) ∧ w = w' := by
  unfold maxLen at hn
  have HS := hide h
  clear h
  go_enter Tryz.func97, Tryz.ntmps97
  go_wp2
  go_loop [3, 8] (fun q i => ∃ k : Nat, k ≤ l.length ∧ i = .int .i64 k ∧ q = .int .i64 (lastNum (-1) (l.take k)) ∧ Hid (risesFrom (-1) (l.take k) = true)) (fun _ i => l.length - (intOf i).toNat)
  case atStart => exact ⟨0, Nat.zero_le _, rfl, rfl, by simp [Hid, risesFrom]⟩
  case round =>
    obtain ⟨k, hk, rfl, rfl, hr⟩ := hrel
    by_cases hlt : k < l.length
    · obtain ⟨b, off, rfl, hb, hc⟩ := HS.out.resolve_left (by intro e; rw [e] at hlt; simp at hlt)
      obtain ⟨x, hx⟩ : ∃ x, x = l.getD k 0 := ⟨_, rfl⟩
      have hck := hc k hlt
      rw [← hx] at hck
      have HX : Hid (l[k]? = some x) := by rw [hx]; exact getD_at _ _ _ hlt
      have HT : Hid (l.take (k + 1) = l.take k ++ [x]) := by rw [Hid, List.take_add_one, HX.out]; rfl
      clear hx hc
      obtain ⟨q, hq⟩ : ∃ q, q = lastNum (-1) (l.take k) := ⟨_, rfl⟩
      have HQ := hide hq
      rw [← hq]
      clear hq
      have hlt' : (k : Int) < (l.length : Int) := by omega
      by_cases h1 : x ≤ q
      · go_wp2
        go_ret
        refine ⟨?_, rfl⟩
        have : rises l = false := rises_no (-1) l (k + 1) (by rw [HT.out, rises_snoc, ← HQ.out]; simp [h1])
        rw [this]; rfl
      · by_cases h2 : 11 < x
        · go_wp2
          go_ret
          refine ⟨?_, rfl⟩
          have : rises l = false := rises_no (-1) l (k + 1) (by rw [HT.out, rises_snoc, ← HQ.out]; simp [h2])
          rw [this]; rfl
        · go_wp2
          go_round
          case rel => exact ⟨k + 1, by omega, by go_num, by rw [HT.out, lastNum_snoc], by rw [Hid, HT.out, rises_snoc, hr.out, ← HQ.out]; simp [h1, h2]⟩
          case measure => simp [intOf]; omega
    · have e : k = l.length := by omega
      have hr' : rises l = true := by have := hr.out; rw [e, List.take_length] at this; exact this
      have HR := hide hr'
      clear hr hr'
      go_wp2
      go_ret
      exact ⟨by rw [HR.out]; rfl, rfl⟩

end Go.Proofs.YtjnpndfpajjihabGreat
