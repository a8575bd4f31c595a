/-
  The walks of package txn's within, isHandle, isOn, bounded, room, Asked, rise and blocks.
-/
import Derived.Test.YtjnpndfpajjihabGreatTOwn0
import Derived.Test.YtjnpndfpajjihabGreatTPure
import Derived.Test.YtjnpndfpajjihabGreatFillI
import Derived.Test.YtjnpndfpajjihabGreatRMostOwn
namespace Go.Proofs.YtjnpndfpajjihabGreat
open Go.RowKit

set_option maxHeartbeats 400000 in
theorem isHandle_any (h : Int) (w : World) :
    Calls Tryz.prog 99 #[.int .i64 h] w fun e w' => e = .returned (.bool (withinB h 0 2)) ∧ w = w' := by
  go_enter Tryz.func99, Tryz.ntmps99
  go_wp2_with (go_at_call 89; refine (tWithin_any _ _ _ _).mono ?_; rintro e w' ⟨rfl, rfl⟩)
  go_ret
  exact ⟨rfl, rfl⟩

set_option maxHeartbeats 1000000 in
theorem isOn_any (v : Value) (t : Tx) (h : Int) (w : World) (hT : IsTx w v t) :
    Calls Tryz.prog 88 #[v, .int .i64 h] w fun e w' => e = .returned (.bool (onB t h)) ∧ Below w.heap.size w w' := by
  obtain ⟨a, c, a', c', b, d, rfl, _, _, _, _, _, _⟩ := hT
  cases hw : withinB h 0 2 with
  | false =>
    go_enter Tryz.func88, Tryz.ntmps88
    go_wp2_with (go_at_call 99; refine (isHandle_any _ _).mono ?_; rintro e w' ⟨rfl, rfl⟩)
    go_ret
    exact ⟨by rw [onB, hw]; rfl, below1 _ _⟩
  | true =>
    have hr := withinB_iff.1 hw
    have hc : h = 0 ∨ h = 1 ∨ h = 2 := by omega
    clear hr
    rcases hc with rfl | rfl | rfl
    · have HO : Hid (onB t 0 = t.h0.on) := by rw [Hid, onB, hw]; rfl
      generalize t.h0.on = o at HO
      cases o
      all_goals
        go_enter Tryz.func88, Tryz.ntmps88
        go_wp2_with (go_at_call 99; refine (isHandle_any _ _).mono ?_; rintro e w' ⟨rfl, rfl⟩)
        go_ret
        exact ⟨by rw [HO.out]; rfl, below1 _ _⟩
    · have HO : Hid (onB t 1 = t.h1.on) := by rw [Hid, onB, hw]; rfl
      generalize t.h1.on = o at HO
      cases o
      all_goals
        go_enter Tryz.func88, Tryz.ntmps88
        go_wp2_with (go_at_call 99; refine (isHandle_any _ _).mono ?_; rintro e w' ⟨rfl, rfl⟩)
        go_ret
        exact ⟨by rw [HO.out]; rfl, below1 _ _⟩
    · have HO : Hid (onB t 2 = t.h2.on) := by rw [Hid, onB, hw]; rfl
      generalize t.h2.on = o at HO
      cases o
      all_goals
        go_enter Tryz.func88, Tryz.ntmps88
        go_wp2_with (go_at_call 99; refine (isHandle_any _ _).mono ?_; rintro e w' ⟨rfl, rfl⟩)
        go_ret
        exact ⟨by rw [HO.out]; rfl, below1 _ _⟩

set_option maxHeartbeats 400000 in
theorem room_any (n free : Int) (w : World) :
    Calls Tryz.prog 100 #[.int .i64 n, .int .i64 free] w fun e w' => e = .returned (.bool (decide (n ≤ 24) && decide (mostN n ≤ free))) ∧ w = w' := by
  by_cases h : n ≤ 24
  · obtain ⟨k, hk⟩ : ∃ k, k = mostN n := ⟨_, rfl⟩
    have HK := hide hk
    by_cases h2 : k ≤ free
    all_goals
      rw [← hk]
      clear hk
      go_enter Tryz.func100, Tryz.ntmps100
      go_wp2_with (go_at_call 134; refine (ringMost_any _ _).mono ?_; rw [← HK.out]; rintro e w' ⟨rfl, rfl⟩)
      go_ret
      exact ⟨by simp [h, h2], rfl⟩
  · go_enter Tryz.func100, Tryz.ntmps100
    go_wp2
    go_ret
    exact ⟨by rw [show decide (n ≤ 24) = false from by simpa using h]; rfl, rfl⟩

set_option maxHeartbeats 1000000 in
set_option maxRecDepth 100000 in
theorem tAsked_any (v : Value) (t : Tx) (w : World) (h : IsTx w v t) :
    Calls Tryz.prog 101 #[v] w fun e w' => e = .returned (.int .i64 (askedN t)) ∧ Below w.heap.size w w' := by
  obtain ⟨a, c, a', c', b, d, rfl, _, _, _, h1, h2, h3⟩ := h
  clear h1 h2 h3
  have i0 := idxH0 t.h0.on t.h1.on t.h2.on t.h0.left t.h1.left t.h2.left
  have i1 := idxH1 t.h0.on t.h1.on t.h2.on t.h0.left t.h1.left t.h2.left
  have i2 := idxH2 t.h0.on t.h1.on t.h2.on t.h0.left t.h1.left t.h2.left
  go_enter Tryz.func101, Tryz.ntmps101
  go_wp2
  refine wp_loop_rounds 4 ?_
  rw [rounds_succ]
  go_wp2
  rw [rounds_succ]
  go_wp2
  rw [rounds_succ]
  go_wp2
  rw [rounds_succ]
  go_wp2
  go_ret
  refine ⟨rfl, ?_⟩
  repeat refine Below.alloc ?_ (by first | (simp; done) | (simp; omega)) _
  exact Below.refl _ _
end Go.Proofs.YtjnpndfpajjihabGreat
