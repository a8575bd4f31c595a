/-
  The walks of slices.IndexFunc and ContainsFunc at []api.Copy and []api.Handle, of slices.Contains at []int; of package txn's fit, Get, holds, named and Open.
-/
import Derived.Test.YtjnpndfpajjihabTFind0
import Derived.Test.YtjnpndfpajjihabTRise
import Derived.Shelf.Abstract
namespace Go.Proofs.Ytjnpndfpajjihab
open Go.RowKit

set_option maxHeartbeats 400000 in
theorem holds_any (a : Option Addr) (c : Nat) (l : List (Int × ByteArray)) (b : Int) (w : World) (h : SegW w a l) (hn : l.length ≤ maxLen) :
    Calls Try.prog 80 #[.slice a l.length c, .int .i64 b] w fun e w' => e = .returned (.bool (textIn b l).isSome) ∧ Below w.heap.size w w' := by
  go_enter Try.func80, Try.ntmps80
  go_wp2_with fail
  refine (tGet_any a c l b w h hn).mono ?_
  rintro e w1 ⟨rfl, hb1⟩
  go_wp2
  go_ret
  exact ⟨rfl, hb1⟩

set_option maxHeartbeats 1000000 in
theorem indexI_any (a : Option Addr) (c : Nat) (l : List Int) (b : Int) (w : World) (h : SegI w a l) (hn : l.length ≤ maxLen) :
    Calls Try.prog 135 #[.slice a l.length c, .int .i64 b] w fun e w' => ∃ i : Int, e = .returned (.int .i64 i) ∧ Found (· == b) l i ∧ w = w' := by
  unfold maxLen at hn
  have HS := hide h
  clear h
  go_enter Try.func135, Try.ntmps135
  go_wp2
  go_loop [8] (fun i => ∃ k : Nat, k ≤ l.length ∧ i = .int .i64 k ∧ Hid ((l.take k).any (· == b) = false)) (fun i => l.length - (intOf i).toNat)
  case atStart => exact ⟨0, Nat.zero_le _, rfl, by simp [Hid]⟩
  case round =>
    obtain ⟨k, hk, rfl, hr⟩ := hrel
    by_cases hlt : k < l.length
    · obtain ⟨b2, off, rfl, hb, hc⟩ := HS.out.resolve_left (by intro e; rw [e] at hlt; simp at hlt)
      obtain ⟨x, hx⟩ : ∃ x, x = l.getD k 0 := ⟨_, rfl⟩
      have hck := hc k hlt
      rw [← hx] at hck
      have HX : Hid (l[k]? = some x) := by rw [hx]; exact getD_at _ _ _ hlt
      clear hx hc
      have hlt' : (k : Int) < (l.length : Int) := by omega
      by_cases he : x = b
      · have HF : Hid (Found (· == b) l (k : Int)) := .inr ⟨k, x, rfl, HX.out, by simpa using he, hr.out⟩
        subst he
        clear hr
        go_wp2
        go_ret
        exact ⟨_, rfl, HF.out, rfl⟩
      · have HR := hide (any_miss HX.out (show (x == b) = false by simpa using he) hr.out)
        have he' : ¬ b = x := fun e => he e.symm
        clear hr
        go_wp2
        go_round
        case rel => exact ⟨k + 1, by omega, by go_num, HR⟩
        case measure => simp [intOf]; omega
    · have HF : Hid (Found (· == b) l (-1)) := .inl ⟨rfl, by have := hr.out; rw [List.take_of_length_le (by omega)] at this; exact this⟩
      clear hr
      go_wp2
      go_ret
      exact ⟨_, rfl, HF.out, rfl⟩

set_option maxHeartbeats 400000 in
theorem containsI_any (a : Option Addr) (c : Nat) (l : List Int) (b : Int) (w : World) (h : SegI w a l) (hn : l.length ≤ maxLen) :
    Calls Try.prog 90 #[.slice a l.length c, .int .i64 b] w fun e w' => e = .returned (.bool (amongB l b)) ∧ w = w' := by
  go_enter Try.func90, Try.ntmps90
  go_wp2_with fail
  refine (indexI_any a c l b w h hn).mono ?_
  rintro e w1 ⟨i, rfl, hf, rfl⟩
  have HF : Hid (amongB l b = decide (0 ≤ i)) := found_any hf
  clear hf
  go_wp2
  go_ret
  exact ⟨by rw [HF.out]; rfl, rfl⟩

end Go.Proofs.Ytjnpndfpajjihab
