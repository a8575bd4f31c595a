/-
  The walks of package txn's within, isHandle, isOn, bounded, room, Asked, rise and blocks.
-/
import Derived.Test.YtjnpndfpajjihabGreatTPure
import Derived.Test.YtjnpndfpajjihabGreatFillI
import Derived.Test.YtjnpndfpajjihabGreatRMostOwn0
namespace Go.Proofs.YtjnpndfpajjihabGreat
open Go.RowKit

set_option maxHeartbeats 400000 in
theorem tWithin_any (n l m : Int) (w : World) :
    Calls Tryz.prog 89 #[.int .i64 n, .int .i64 l, .int .i64 m] w fun e w' => e = .returned (.bool (withinB n l m)) ∧ w = w' := by
  by_cases h0 : l ≤ n <;> by_cases h1 : n ≤ m
  all_goals
    go_enter Tryz.func89, Tryz.ntmps89
    go_wp2
    go_ret
    exact ⟨by simp [withinB, h0, h1], rfl⟩

/-- Is a handle there, and on? -/
def onB (t : Tx) (h : Int) : Bool := withinB h 0 2 && (hdAt t h).on

/-- A handle out of three. -/
theorem idxH0 (o0 o1 o2 : Bool) (l0 l1 l2 : Int) (w : World) : (Instr.index 26 (.agg #[.bool o0, .int .i64 l0, .bool o1, .int .i64 l1, .bool o2, .int .i64 l2]) (.int .i64 0)).run Tryz.prog w = .ok (.agg #[.bool o0, .int .i64 l0]) w := by kernel_rfl
theorem idxH1 (o0 o1 o2 : Bool) (l0 l1 l2 : Int) (w : World) : (Instr.index 26 (.agg #[.bool o0, .int .i64 l0, .bool o1, .int .i64 l1, .bool o2, .int .i64 l2]) (.int .i64 1)).run Tryz.prog w = .ok (.agg #[.bool o1, .int .i64 l1]) w := by kernel_rfl
theorem idxH2 (o0 o1 o2 : Bool) (l0 l1 l2 : Int) (w : World) : (Instr.index 26 (.agg #[.bool o0, .int .i64 l0, .bool o1, .int .i64 l1, .bool o2, .int .i64 l2]) (.int .i64 2)).run Tryz.prog w = .ok (.agg #[.bool o2, .int .i64 l2]) w := by kernel_rfl

theorem hdB_within (h : Hd) : hdB h = withinB h.left 0 (if h.on then 24 else 0) := by
  rw [Bool.eq_iff_iff, hdB_iff, withinB_iff]
  cases h.on
  · simp; omega
  · simp

set_option maxHeartbeats 1000000 in
set_option maxRecDepth 100000 in
theorem bounded_any (x0 x1 x2 : Hd) (w : World) :
    Calls Tryz.prog 129 #[.agg #[.bool x0.on, .int .i64 x0.left, .bool x1.on, .int .i64 x1.left, .bool x2.on, .int .i64 x2.left]] w fun e w' => e = .returned (.bool (hdB x0 && hdB x1 && hdB x2)) ∧ Below w.heap.size w w' := by
  obtain ⟨o0, l0⟩ := x0
  obtain ⟨o1, l1⟩ := x1
  obtain ⟨o2, l2⟩ := x2
  go_enter Tryz.func129, Tryz.ntmps129
  go_wp2
  go_loopw [7] (fun i wr => ∃ k : Nat, k ≤ 3 ∧ i = .int .i64 k ∧ Hid ((1 ≤ k → hdB ⟨o0, l0⟩ = true) ∧ (2 ≤ k → hdB ⟨o1, l1⟩ = true) ∧ (3 ≤ k → hdB ⟨o2, l2⟩ = true)) ∧ Below w.heap.size w wr) (fun i _ => 3 - (intOf i).toNat)
  case atStart => exact ⟨0, by omega, rfl, ⟨fun h => by omega, fun h => by omega, fun h => by omega⟩, below1 _ _⟩
  case round =>
    obtain ⟨k, hk, rfl, hr, hbr⟩ := hrel
    have hc : k = 0 ∨ k = 1 ∨ k = 2 ∨ k = 3 := by omega
    have hal := fun o => hbr.alloc hbr.size o
    clear hk
    rcases hc with rfl | rfl | rfl | rfl
    · have ik := idxH0 o0 o1 o2 l0 l1 l2
      cases o0
      · cases hw : withinB l0 0 0 with
        | false =>
          have HF : Hid (hdB ⟨false, l0⟩ = false) := by rw [Hid, hdB_within ⟨false, l0⟩]; exact hw
          go_wp2_with (go_at_call 89; refine (tWithin_any _ _ _ _).mono ?_; rintro e w' ⟨rfl, rfl⟩)
          go_ret
          exact ⟨by rw [HF.out]; simp, hal _⟩
        | true =>
          have HF : Hid (hdB ⟨false, l0⟩ = true) := by rw [Hid, hdB_within ⟨false, l0⟩]; exact hw
          go_wp2_with (go_at_call 89; refine (tWithin_any _ _ _ _).mono ?_; rintro e w' ⟨rfl, rfl⟩)
          go_roundw
          case rel => exact ⟨1, by omega, by go_num, ⟨fun _ => HF.out, fun h => by omega, fun h => by omega⟩, hal _⟩
          case measure => simp [intOf]
      · cases hw : withinB l0 0 24 with
        | false =>
          have HF : Hid (hdB ⟨true, l0⟩ = false) := by rw [Hid, hdB_within ⟨true, l0⟩]; exact hw
          go_wp2_with (go_at_call 89; refine (tWithin_any _ _ _ _).mono ?_; rintro e w' ⟨rfl, rfl⟩)
          go_ret
          exact ⟨by rw [HF.out]; simp, hal _⟩
        | true =>
          have HF : Hid (hdB ⟨true, l0⟩ = true) := by rw [Hid, hdB_within ⟨true, l0⟩]; exact hw
          go_wp2_with (go_at_call 89; refine (tWithin_any _ _ _ _).mono ?_; rintro e w' ⟨rfl, rfl⟩)
          go_roundw
          case rel => exact ⟨1, by omega, by go_num, ⟨fun _ => HF.out, fun h => by omega, fun h => by omega⟩, hal _⟩
          case measure => simp [intOf]
    · have ik := idxH1 o0 o1 o2 l0 l1 l2
      cases o1
      · cases hw : withinB l1 0 0 with
        | false =>
          have HF : Hid (hdB ⟨false, l1⟩ = false) := by rw [Hid, hdB_within ⟨false, l1⟩]; exact hw
          go_wp2_with (go_at_call 89; refine (tWithin_any _ _ _ _).mono ?_; rintro e w' ⟨rfl, rfl⟩)
          go_ret
          exact ⟨by rw [HF.out]; simp, hal _⟩
        | true =>
          have HF : Hid (hdB ⟨false, l1⟩ = true) := by rw [Hid, hdB_within ⟨false, l1⟩]; exact hw
          go_wp2_with (go_at_call 89; refine (tWithin_any _ _ _ _).mono ?_; rintro e w' ⟨rfl, rfl⟩)
          go_roundw
          case rel => exact ⟨2, by omega, by go_num, ⟨fun _ => hr.out.1 (by omega), fun _ => HF.out, fun h => by omega⟩, hal _⟩
          case measure => simp [intOf]
      · cases hw : withinB l1 0 24 with
        | false =>
          have HF : Hid (hdB ⟨true, l1⟩ = false) := by rw [Hid, hdB_within ⟨true, l1⟩]; exact hw
          go_wp2_with (go_at_call 89; refine (tWithin_any _ _ _ _).mono ?_; rintro e w' ⟨rfl, rfl⟩)
          go_ret
          exact ⟨by rw [HF.out]; simp, hal _⟩
        | true =>
          have HF : Hid (hdB ⟨true, l1⟩ = true) := by rw [Hid, hdB_within ⟨true, l1⟩]; exact hw
          go_wp2_with (go_at_call 89; refine (tWithin_any _ _ _ _).mono ?_; rintro e w' ⟨rfl, rfl⟩)
          go_roundw
          case rel => exact ⟨2, by omega, by go_num, ⟨fun _ => hr.out.1 (by omega), fun _ => HF.out, fun h => by omega⟩, hal _⟩
          case measure => simp [intOf]
    · have ik := idxH2 o0 o1 o2 l0 l1 l2
      cases o2
      · cases hw : withinB l2 0 0 with
        | false =>
          have HF : Hid (hdB ⟨false, l2⟩ = false) := by rw [Hid, hdB_within ⟨false, l2⟩]; exact hw
          go_wp2_with (go_at_call 89; refine (tWithin_any _ _ _ _).mono ?_; rintro e w' ⟨rfl, rfl⟩)
          go_ret
          exact ⟨by rw [HF.out]; simp, hal _⟩
        | true =>
          have HF : Hid (hdB ⟨false, l2⟩ = true) := by rw [Hid, hdB_within ⟨false, l2⟩]; exact hw
          go_wp2_with (go_at_call 89; refine (tWithin_any _ _ _ _).mono ?_; rintro e w' ⟨rfl, rfl⟩)
          go_roundw
          case rel => exact ⟨3, by omega, by go_num, ⟨fun _ => hr.out.1 (by omega), fun _ => hr.out.2.1 (by omega), fun _ => HF.out⟩, hal _⟩
          case measure => simp [intOf]
      · cases hw : withinB l2 0 24 with
        | false =>
          have HF : Hid (hdB ⟨true, l2⟩ = false) := by rw [Hid, hdB_within ⟨true, l2⟩]; exact hw
          go_wp2_with (go_at_call 89; refine (tWithin_any _ _ _ _).mono ?_; rintro e w' ⟨rfl, rfl⟩)
          go_ret
          exact ⟨by rw [HF.out]; simp, hal _⟩
        | true =>
          have HF : Hid (hdB ⟨true, l2⟩ = true) := by rw [Hid, hdB_within ⟨true, l2⟩]; exact hw
          go_wp2_with (go_at_call 89; refine (tWithin_any _ _ _ _).mono ?_; rintro e w' ⟨rfl, rfl⟩)
          go_roundw
          case rel => exact ⟨3, by omega, by go_num, ⟨fun _ => hr.out.1 (by omega), fun _ => hr.out.2.1 (by omega), fun _ => HF.out⟩, hal _⟩
          case measure => simp [intOf]
    · have HT : Hid ((hdB ⟨o0, l0⟩ && hdB ⟨o1, l1⟩ && hdB ⟨o2, l2⟩) = true) := by rw [Hid, hr.out.1 (by omega), hr.out.2.1 (by omega), hr.out.2.2 (by omega)]; rfl
      go_wp2
      go_ret
      exact ⟨by rw [HT.out]; rfl, hbr⟩

end Go.Proofs.YtjnpndfpajjihabGreat
