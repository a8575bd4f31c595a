/-
  The walks of the document's own among, in and TextOf.
-/
import Derived.Test.YtlknhfpgpdlbnabGreatTDefs
namespace Go.Proofs.YtlknhfpgpdlbnabGreat
open Go.RowKit

set_option maxHeartbeats 1000000 in
theorem among_any (a : Option Addr) (c : Nat) (l : List Int) (b : Int) (w : World) (h : SegI w a l) (hn : l.length ≤ maxLen) :
    Calls Tryz.prog 24 #[.slice a l.length c, .int .i64 b] w fun e w' => e = .returned (.bool (amongB l b)) ∧ w = w' := by
  unfold maxLen at hn
  have HS := hide h
  clear h
  go_enter Tryz.func24, Tryz.ntmps24
  go_wp2
  go_loop [9] (fun i => ∃ k : Nat, k ≤ l.length ∧ i = .int .i64 k ∧ Hid ((l.take k).any (· == b) = false)) (fun i => l.length - (intOf i).toNat)
  case atStart => exact ⟨0, Nat.zero_le _, rfl, by simp [Hid]⟩
  case round =>
    obtain ⟨k, hk, rfl, hr⟩ := hrel
    by_cases hlt : k < l.length
    · obtain ⟨b2, off, rfl, hb, hc⟩ := HS.out.resolve_left (by intro e; rw [e] at hlt; simp at hlt)
      obtain ⟨x, hx⟩ : ∃ x, x = l.getD k 0 := ⟨_, rfl⟩
      have hck := hc k hlt
      rw [← hx] at hck
      have HX : Hid (l[k]? = some x) := by rw [hx]; exact getD_at _ _ _ hlt
      clear hx hc
      have hlt' : (k : Int) < (l.length : Int) := by omega
      by_cases he : x = b
      · have HA : Hid (amongB l b = true) := any_hit HX.out (by simpa using he)
        subst he
        go_wp2
        go_ret
        exact ⟨by rw [HA.out]; rfl, rfl⟩
      · have HR := hide (any_miss HX.out (show (x == b) = false by simpa using he) hr.out)
        have he' : (x == b) = false := by simpa using he
        clear hr
        go_wp2
        go_round
        case rel => exact ⟨k + 1, by omega, by go_num, HR⟩
        case measure => simp [intOf]; omega
    · have HA : Hid (amongB l b = false) := by have := hr.out; rw [List.take_of_length_le (by omega)] at this; exact this
      clear hr
      go_wp2
      go_ret
      exact ⟨by rw [HA.out]; rfl, rfl⟩

set_option maxHeartbeats 1000000 in
theorem in_any (a : Option Addr) (c : Nat) (l : List (Int × ByteArray)) (b : Int) (w : World) (h : SegW w a l) (hn : l.length ≤ maxLen) :
    Calls Tryz.prog 23 #[.slice a l.length c, .int .i64 b] w fun e w' => e = .returned (.bool (textIn b l).isSome) ∧ Below w.heap.size w w' := by
  unfold maxLen at hn
  have HS := hide h
  clear h
  go_enter Tryz.func23, Tryz.ntmps23
  go_wp2
  go_loopw [9] (fun i wr => ∃ k : Nat, k ≤ l.length ∧ i = .int .i64 k ∧ Hid (textIn b (l.take k) = none) ∧ Below w.heap.size w wr) (fun i _ => l.length - (intOf i).toNat)
  case atStart => exact ⟨0, Nat.zero_le _, rfl, rfl, Below.refl _ _⟩
  case round =>
    obtain ⟨k, hk, rfl, hr, hbr⟩ := hrel
    by_cases hlt : k < l.length
    · obtain ⟨b2, off, rfl, hb, hc⟩ := HS.out.resolve_left (by intro e; rw [e] at hlt; simp at hlt)
      obtain ⟨x, hx⟩ : ∃ x, x = l.getD k (0, ByteArray.empty) := ⟨_, rfl⟩
      obtain ⟨hc1, hc2⟩ := hc k hlt
      rw [← hx] at hc1 hc2
      have HX : Hid (l[k]? = some x) := by rw [hx]; exact getD_at _ _ _ hlt
      have g1 := cellKeep hbr hb hc1
      have g2 := cellKeep hbr hb hc2
      clear hx hc hc1 hc2
      obtain ⟨n, t⟩ := x
      have hlt' : (k : Int) < (l.length : Int) := by omega
      have hb4 := hbr.alloc hbr.size (Obj.cells #[.int .i64 n, .string t] 47)
      by_cases he : n = b
      · have HA : Hid ((textIn b l).isSome = true) := by rw [Hid, text_hit HX.out he hr.out]; rfl
        subst he
        go_wp2
        go_ret
        exact ⟨by rw [HA.out]; rfl, hb4⟩
      · have HR := hide (text_miss HX.out he hr.out)
        have he' : (n == b) = false := by simpa using he
        clear hr
        go_wp2
        go_roundw
        case rel => exact ⟨k + 1, by omega, by go_num, HR, hb4⟩
        case measure => simp [intOf]; omega
    · have HA : Hid ((textIn b l).isSome = false) := by have := hr.out; rw [List.take_of_length_le (by omega)] at this; rw [Hid, this]; rfl
      clear hr
      go_wp2
      go_ret
      exact ⟨by rw [HA.out]; rfl, hbr⟩

set_option maxHeartbeats 1000000 in
theorem textOf_any (a : Option Addr) (c : Nat) (l : List (Int × ByteArray)) (b : Int) (w : World) (h : SegW w a l) (hn : l.length ≤ maxLen) :
    Calls Tryz.prog 11 #[.slice a l.length c, .int .i64 b] w fun e w' => e = .returned (.tuple #[.string ((textIn b l).getD ⟨#[]⟩), .bool (textIn b l).isSome]) ∧ Below w.heap.size w w' := by
  unfold maxLen at hn
  have HS := hide h
  clear h
  go_enter Tryz.func11, Tryz.ntmps11
  go_wp2
  go_loopw [10] (fun i wr => ∃ k : Nat, k ≤ l.length ∧ i = .int .i64 k ∧ Hid (textIn b (l.take k) = none) ∧ Below w.heap.size w wr) (fun i _ => l.length - (intOf i).toNat)
  case atStart => exact ⟨0, Nat.zero_le _, rfl, rfl, Below.refl _ _⟩
  case round =>
    obtain ⟨k, hk, rfl, hr, hbr⟩ := hrel
    by_cases hlt : k < l.length
    · obtain ⟨b2, off, rfl, hb, hc⟩ := HS.out.resolve_left (by intro e; rw [e] at hlt; simp at hlt)
      obtain ⟨x, hx⟩ : ∃ x, x = l.getD k (0, ByteArray.empty) := ⟨_, rfl⟩
      obtain ⟨hc1, hc2⟩ := hc k hlt
      rw [← hx] at hc1 hc2
      have HX : Hid (l[k]? = some x) := by rw [hx]; exact getD_at _ _ _ hlt
      have g1 := cellKeep hbr hb hc1
      have g2 := cellKeep hbr hb hc2
      clear hx hc hc1 hc2
      obtain ⟨n, t⟩ := x
      have hlt' : (k : Int) < (l.length : Int) := by omega
      have hb4 := hbr.alloc hbr.size (Obj.cells #[.int .i64 n, .string t] 47)
      by_cases he : n = b
      · have HA : Hid (textIn b l = some t) := text_hit HX.out he hr.out
        subst he
        go_wp2
        go_ret2
        exact ⟨by rw [HA.out]; rfl, hb4⟩
      · have HR := hide (text_miss HX.out he hr.out)
        have he' : (n == b) = false := by simpa using he
        clear hr
        go_wp2
        go_roundw
        case rel => exact ⟨k + 1, by omega, by go_num, HR, hb4⟩
        case measure => simp [intOf]; omega
    · have HA : Hid (textIn b l = none) := by have := hr.out; rw [List.take_of_length_le (by omega)] at this; exact this
      clear hr
      go_wp2
      go_ret2
      exact ⟨by rw [HA.out]; rfl, hbr⟩

end Go.Proofs.YtlknhfpgpdlbnabGreat
