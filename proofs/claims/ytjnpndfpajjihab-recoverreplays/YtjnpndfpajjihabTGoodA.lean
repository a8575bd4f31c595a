/-
  A row of numbers that is filled one by one. Nothing of the program is proved here.
  The walk of package ring's Most, and of what it calls.
  The walks of package txn's within, isHandle, isOn, bounded, room, Asked, rise and blocks.
  The walks of package txn's rise and blocks.
-/
import Derived.Test.YtjnpndfpajjihabIntRows
import Derived.Laws.OwnMore
import Derived.Test.YtjnpndfpajjihabRNeedPure
import Derived.Test.YtjnpndfpajjihabTPure
namespace Go.Proofs.Ytjnpndfpajjihab
open Go.RowKit

/-- A row of numbers of which the first are filled. -/
def fillI (l : List Int) (m : Nat) : List Value := cellsI l ++ List.replicate m (.int .i64 0)
theorem fillI_set (l : List Int) (m : Nat) (x : Int) : (fillI l (m + 1)).set l.length (.int .i64 x) = fillI (l ++ [x]) m := by
  have hl : (cellsI l).length = l.length := by simp [cellsI]
  rw [fillI, List.set_append_right _ _ (by omega), hl, Nat.sub_self, List.replicate_succ, List.set_cons_zero, fillI, cellsI_append, List.append_assoc]
  rfl
theorem fillI_full (l : List Int) : fillI l 0 = cellsI l := by simp [fillI]
theorem fillI_none (m : Nat) : fillI [] m = List.replicate m (.int .i64 0) := rfl
theorem fillI_at (l : List Int) (m k : Nat) (h : k < l.length + m) : ∃ u, (fillI l m)[k]? = some u := by
  have : k < (fillI l m).length := by simp [fillI, cellsI]; omega
  exact ⟨_, List.getElem?_eq_getElem this⟩
theorem fillI_step {w : World} {base g n : Nat} {l : List Int} {m : Nat} (h : w.ownsRow base 3 1 (.slice (some ⟨g, 0, none⟩) n n) n (fillI l (m + 1))) (x : Int) :
    (w.setCell ⟨g, l.length, none⟩ (.int .i64 x)).ownsRow base 3 1 (.slice (some ⟨g, 0, none⟩) n n) n (fillI (l ++ [x]) m) := by
  have := (h.stored l.length (.int .i64 x)).1
  rwa [fillI_set] at this
theorem fillI_cell {w : World} {base g n : Nat} {l : List Int} {m : Nat} (h : w.ownsRow base 3 1 (.slice (some ⟨g, 0, none⟩) n n) n (fillI l (m + 1))) :
    (∃ u, w.cell? ⟨g, l.length, none⟩ = some u) ∧ w.frozen? ⟨g, l.length, none⟩ = false ∧ base ≤ g ∧ g < w.heap.size ∧ l.length + (m + 1) = n := by
  have hlen : l.length + (m + 1) = n := by have := h.1; simp [fillI, cellsI] at this; omega
  obtain ⟨u, hu⟩ := fillI_at l (m + 1) l.length (by omega)
  have hlt := h.lt g rfl
  exact ⟨⟨u, by rw [h.cellAt _ (by omega)]; exact hu⟩, h.frozenAt _, hlt.1, hlt.2, hlen⟩

theorem madeI (n : Nat) (h : n ≤ 17592186044416) (w : World) : (Instr.makeSlice 25 (.int .i64 n) (.int .i64 n)).run Try.prog w = .ok (.slice (some ⟨w.heap.size, 0, none⟩) n n) (w.alloc (.cells (fillI [] n).toArray 3)) := by
  obtain ⟨i0, hi, hz0, hz1, hz2⟩ := info_parts infoI
  have hr := run_make (P := Try.prog) w 25 3 i0 (.int .i64 0) Try.underlying25 hi hz0 .i64 .i64 n n (by omega) (by omega) (by rw [hz2]; omega) (by omega)
  have e : madeCells (Value.cells (.int .i64 0)) n = (fillI [] n).toArray := by
    apply Array.toList_inj.1
    rw [show Value.cells (.int .i64 0) = #[.int .i64 0] from rfl, toList_madeCells_one, fillI_none]
  rw [hr, hz1, Int.toNat_natCast, Nat.mul_one, e]

theorem madeI_owns (n : Nat) (h : n ≤ 17592186044416) (w : World) (base : Nat) (hb : base ≤ w.heap.size) : (w.alloc (.cells (fillI [] n).toArray 3)).ownsRow base 3 1 (.slice (some ⟨w.heap.size, 0, none⟩) n n) n (fillI [] n) := by
  have := World.ownsRow_lit (e := 3) (size := 1) w (fillI [] n).toArray n hb (by unfold maxLen; omega) (by simp [fillI, cellsI])
  simpa using this

end Go.Proofs.Ytjnpndfpajjihab

namespace Go.Proofs.Ytjnpndfpajjihab
open Go.RowKit

set_option maxHeartbeats 400000 in
theorem parts_any (n s : Int) (w : World) (h : 0 ≤ n) (h2 : n ≤ 1000) (hs : 1 ≤ s) (hs2 : s ≤ 1000) :
    Calls Try.prog 124 #[.int .i64 n, .int .i64 s] w fun e w' => e = .returned (.int .i64 ((n + s - 1) / s)) ∧ w = w' := by
  have r : (n + s - 1).tdiv s = (n + s - 1) / s := Int.tdiv_eq_ediv_of_nonneg (by omega)
  have hlo : 0 ≤ (n + s - 1) / s := Int.ediv_nonneg (by omega) (by omega)
  have hhi : (n + s - 1) / s ≤ n + s - 1 := Int.ediv_le_self _ (by omega)
  have hs0 : ¬ s = 0 := by omega
  have hsm : ¬ s = -1 := by omega
  go_enter Try.func124, Try.ntmps124
  go_wp2
  go_ret
  exact ⟨by first | rfl | rw [r], rfl⟩

set_option maxHeartbeats 400000 in
theorem descriptors_any (n : Int) (w : World) (h : 0 ≤ n) (h2 : n ≤ 1000) :
    Calls Try.prog 78 #[.int .i64 n] w fun e w' => e = .returned (.int .i64 ((n + 9) / 10)) ∧ w = w' := by
  go_enter Try.func78, Try.ntmps78
  go_wp2_with fail
  refine (parts_any n 10 _ h h2 (by omega) (by omega)).mono ?_
  rintro e w1 ⟨rfl, rfl⟩
  go_wp2
  go_ret
  exact ⟨by first | rfl | (rw [show n + 10 - 1 = n + 9 from by omega]; rfl), rfl⟩

set_option maxHeartbeats 400000 in
theorem lists_any (n : Int) (w : World) (h : 0 ≤ n) (h2 : n ≤ 1000) :
    Calls Try.prog 77 #[.int .i64 n] w fun e w' => e = .returned (.int .i64 ((n + 19) / 20)) ∧ w = w' := by
  go_enter Try.func77, Try.ntmps77
  go_wp2_with fail
  refine (parts_any n 20 _ h h2 (by omega) (by omega)).mono ?_
  rintro e w1 ⟨rfl, rfl⟩
  go_wp2
  go_ret
  exact ⟨by first | rfl | (rw [show n + 20 - 1 = n + 19 from by omega]; rfl), rfl⟩

theorem mostN_eq (n : Int) : mostN n = clampN n + (clampN n + 9) / 10 + (clampN n + 19) / 20 + 1 := by
  have : 0 ≤ clampN n ∧ clampN n ≤ 24 := by unfold clampN; split <;> (try split) <;> omega
  unfold mostN
  split <;> split <;> split <;> omega

set_option maxHeartbeats 2000000 in
theorem ringMost_any (n : Int) (w : World) :
    Calls Try.prog 32 #[.int .i64 n] w fun e w' => e = .returned (.int .i64 (mostN n)) ∧ w = w' := by
  have HM : Hid (mostN n = clampN n + (clampN n + 9) / 10 + (clampN n + 19) / 20 + 1) := mostN_eq n
  by_cases h0 : n < 0
  · have e0 : clampN n = 0 := by unfold clampN; rw [if_pos h0]
    rw [e0] at HM
    have h1 : ¬ 0 ≤ n := by omega
    have h2 : n ≤ 24 := by omega
    go_enter Try.func32, Try.ntmps32
    go_wp2_with (first
        | (go_at_call 77; refine (lists_any 0 _ (by omega) (by omega)).mono ?_; rintro e w' ⟨rfl, rfl⟩)
        | (go_at_call 78; refine (descriptors_any 0 _ (by omega) (by omega)).mono ?_; rintro e w' ⟨rfl, rfl⟩))
    go_ret
    exact ⟨by rw [HM.out]; rfl, rfl⟩
  · by_cases h24 : 24 < n
    · have e0 : clampN n = 24 := by unfold clampN; rw [if_neg h0, if_pos h24]
      rw [e0] at HM
      have h1 : 0 ≤ n := by omega
      have h2 : ¬ n ≤ 24 := by omega
      have h3 : ¬ n < 24 := by omega
      have h4 : 0 < n := by omega
      go_enter Try.func32, Try.ntmps32
      go_wp2_with (first
          | (go_at_call 77; refine (lists_any 24 _ (by omega) (by omega)).mono ?_; rintro e w' ⟨rfl, rfl⟩)
          | (go_at_call 78; refine (descriptors_any 24 _ (by omega) (by omega)).mono ?_; rintro e w' ⟨rfl, rfl⟩))
      go_ret
      exact ⟨by rw [HM.out]; rfl, rfl⟩
    · have e0 : clampN n = n := by unfold clampN; rw [if_neg h0, if_neg h24]
      rw [e0] at HM
      have h1 : 0 ≤ n := by omega
      have h2 : n ≤ 24 := by omega
      have b1 : 0 ≤ (n + 19) / 20 ∧ (n + 19) / 20 ≤ 10 := by omega
      have b2 : 0 ≤ (n + 9) / 10 ∧ (n + 9) / 10 ≤ 10 := by omega
      go_enter Try.func32, Try.ntmps32
      go_wp2_with (first
          | (go_at_call 77; refine (lists_any n _ (by omega) (by omega)).mono ?_; rintro e w' ⟨rfl, rfl⟩)
          | (go_at_call 78; refine (descriptors_any n _ (by omega) (by omega)).mono ?_; rintro e w' ⟨rfl, rfl⟩))
      go_ret
      exact ⟨by rw [HM.out]; rfl, rfl⟩

end Go.Proofs.Ytjnpndfpajjihab

namespace Go.Proofs.Ytjnpndfpajjihab
open Go.RowKit

set_option maxHeartbeats 400000 in
theorem tWithin_any (n l m : Int) (w : World) :
    Calls Try.prog 64 #[.int .i64 n, .int .i64 l, .int .i64 m] w fun e w' => e = .returned (.bool (withinB n l m)) ∧ w = w' := by
  by_cases h0 : l ≤ n <;> by_cases h1 : n ≤ m
  all_goals
    go_enter Try.func64, Try.ntmps64
    go_wp2
    go_ret
    exact ⟨by simp [withinB, h0, h1], rfl⟩

set_option maxHeartbeats 400000 in
theorem isHandle_any (h : Int) (w : World) :
    Calls Try.prog 63 #[.int .i64 h] w fun e w' => e = .returned (.bool (withinB h 0 2)) ∧ w = w' := by
  go_enter Try.func63, Try.ntmps63
  go_wp2_with (go_at_call 64; refine (tWithin_any _ _ _ _).mono ?_; rintro e w' ⟨rfl, rfl⟩)
  go_ret
  exact ⟨rfl, rfl⟩

/-- Is a handle there, and on? -/
def onB (t : Tx) (h : Int) : Bool := withinB h 0 2 && (hdAt t h).on

set_option maxHeartbeats 1000000 in
theorem isOn_any (v : Value) (t : Tx) (h : Int) (w : World) (hT : IsTx w v t) :
    Calls Try.prog 68 #[v, .int .i64 h] w fun e w' => e = .returned (.bool (onB t h)) ∧ Below w.heap.size w w' := by
  obtain ⟨a, c, a', c', b, d, rfl, _, _, _, _, _, _⟩ := hT
  cases hw : withinB h 0 2 with
  | false =>
    go_enter Try.func68, Try.ntmps68
    go_wp2_with (go_at_call 63; refine (isHandle_any _ _).mono ?_; rintro e w' ⟨rfl, rfl⟩)
    go_ret
    exact ⟨by rw [onB, hw]; rfl, below1 _ _⟩
  | true =>
    have hr := withinB_iff.1 hw
    have hc : h = 0 ∨ h = 1 ∨ h = 2 := by omega
    clear hr
    rcases hc with rfl | rfl | rfl
    · have HO : Hid (onB t 0 = t.h0.on) := by rw [Hid, onB, hw]; rfl
      generalize t.h0.on = o at HO
      cases o
      all_goals
        go_enter Try.func68, Try.ntmps68
        go_wp2_with (go_at_call 63; refine (isHandle_any _ _).mono ?_; rintro e w' ⟨rfl, rfl⟩)
        go_ret
        exact ⟨by rw [HO.out]; rfl, below1 _ _⟩
    · have HO : Hid (onB t 1 = t.h1.on) := by rw [Hid, onB, hw]; rfl
      generalize t.h1.on = o at HO
      cases o
      all_goals
        go_enter Try.func68, Try.ntmps68
        go_wp2_with (go_at_call 63; refine (isHandle_any _ _).mono ?_; rintro e w' ⟨rfl, rfl⟩)
        go_ret
        exact ⟨by rw [HO.out]; rfl, below1 _ _⟩
    · have HO : Hid (onB t 2 = t.h2.on) := by rw [Hid, onB, hw]; rfl
      generalize t.h2.on = o at HO
      cases o
      all_goals
        go_enter Try.func68, Try.ntmps68
        go_wp2_with (go_at_call 63; refine (isHandle_any _ _).mono ?_; rintro e w' ⟨rfl, rfl⟩)
        go_ret
        exact ⟨by rw [HO.out]; rfl, below1 _ _⟩

set_option maxHeartbeats 400000 in
theorem room_any (n free : Int) (w : World) :
    Calls Try.prog 65 #[.int .i64 n, .int .i64 free] w fun e w' => e = .returned (.bool (decide (n ≤ 24) && decide (mostN n ≤ free))) ∧ w = w' := by
  by_cases h : n ≤ 24
  · obtain ⟨k, hk⟩ : ∃ k, k = mostN n := ⟨_, rfl⟩
    have HK := hide hk
    by_cases h2 : k ≤ free
    all_goals
      rw [← hk]
      clear hk
      go_enter Try.func65, Try.ntmps65
      go_wp2_with (go_at_call 32; refine (ringMost_any _ _).mono ?_; rw [← HK.out]; rintro e w' ⟨rfl, rfl⟩)
      go_ret
      exact ⟨by simp [h, h2], rfl⟩
  · go_enter Try.func65, Try.ntmps65
    go_wp2
    go_ret
    exact ⟨by rw [show decide (n ≤ 24) = false from by simpa using h]; rfl, rfl⟩

/-- A handle out of three. -/
theorem idxH0 (o0 o1 o2 : Bool) (l0 l1 l2 : Int) (w : World) : (Instr.index 38 (.agg #[.bool o0, .int .i64 l0, .bool o1, .int .i64 l1, .bool o2, .int .i64 l2]) (.int .i64 0)).run Try.prog w = .ok (.agg #[.bool o0, .int .i64 l0]) w := by kernel_rfl
theorem idxH1 (o0 o1 o2 : Bool) (l0 l1 l2 : Int) (w : World) : (Instr.index 38 (.agg #[.bool o0, .int .i64 l0, .bool o1, .int .i64 l1, .bool o2, .int .i64 l2]) (.int .i64 1)).run Try.prog w = .ok (.agg #[.bool o1, .int .i64 l1]) w := by kernel_rfl
theorem idxH2 (o0 o1 o2 : Bool) (l0 l1 l2 : Int) (w : World) : (Instr.index 38 (.agg #[.bool o0, .int .i64 l0, .bool o1, .int .i64 l1, .bool o2, .int .i64 l2]) (.int .i64 2)).run Try.prog w = .ok (.agg #[.bool o2, .int .i64 l2]) w := by kernel_rfl

set_option maxHeartbeats 1000000 in
set_option maxRecDepth 100000 in
theorem tAsked_any (v : Value) (t : Tx) (w : World) (h : IsTx w v t) :
    Calls Try.prog 24 #[v] w fun e w' => e = .returned (.int .i64 (askedN t)) ∧ Below w.heap.size w w' := by
  obtain ⟨a, c, a', c', b, d, rfl, _, _, _, h1, h2, h3⟩ := h
  clear h1 h2 h3
  have i0 := idxH0 t.h0.on t.h1.on t.h2.on t.h0.left t.h1.left t.h2.left
  have i1 := idxH1 t.h0.on t.h1.on t.h2.on t.h0.left t.h1.left t.h2.left
  have i2 := idxH2 t.h0.on t.h1.on t.h2.on t.h0.left t.h1.left t.h2.left
  go_enter Try.func24, Try.ntmps24
  go_wp2
  refine wp_loop_rounds 4 ?_
  rw [rounds_succ]
  go_wp2
  rw [rounds_succ]
  go_wp2
  rw [rounds_succ]
  go_wp2
  rw [rounds_succ]
  go_wp2
  go_ret
  refine ⟨rfl, ?_⟩
  repeat refine Below.alloc ?_ (by first | (simp; done) | (simp; omega)) _
  exact Below.refl _ _

theorem hdB_within (h : Hd) : hdB h = withinB h.left 0 (if h.on then 24 else 0) := by
  rw [Bool.eq_iff_iff, hdB_iff, withinB_iff]
  cases h.on
  · simp; omega
  · simp

set_option maxHeartbeats 1000000 in
set_option maxRecDepth 100000 in
theorem bounded_any (x0 x1 x2 : Hd) (w : World) :
    Calls Try.prog 73 #[.agg #[.bool x0.on, .int .i64 x0.left, .bool x1.on, .int .i64 x1.left, .bool x2.on, .int .i64 x2.left]] w fun e w' => e = .returned (.bool (hdB x0 && hdB x1 && hdB x2)) ∧ Below w.heap.size w w' := by
  obtain ⟨o0, l0⟩ := x0
  obtain ⟨o1, l1⟩ := x1
  obtain ⟨o2, l2⟩ := x2
  go_enter Try.func73, Try.ntmps73
  go_wp2
  go_loopw [7] (fun i wr => ∃ k : Nat, k ≤ 3 ∧ i = .int .i64 k ∧ Hid ((1 ≤ k → hdB ⟨o0, l0⟩ = true) ∧ (2 ≤ k → hdB ⟨o1, l1⟩ = true) ∧ (3 ≤ k → hdB ⟨o2, l2⟩ = true)) ∧ Below w.heap.size w wr) (fun i _ => 3 - (intOf i).toNat)
  case atStart => exact ⟨0, by omega, rfl, ⟨fun h => by omega, fun h => by omega, fun h => by omega⟩, below1 _ _⟩
  case round =>
    obtain ⟨k, hk, rfl, hr, hbr⟩ := hrel
    have hc : k = 0 ∨ k = 1 ∨ k = 2 ∨ k = 3 := by omega
    have hal := fun o => hbr.alloc hbr.size o
    clear hk
    rcases hc with rfl | rfl | rfl | rfl
    · have ik := idxH0 o0 o1 o2 l0 l1 l2
      cases o0
      · cases hw : withinB l0 0 0 with
        | false =>
          have HF : Hid (hdB ⟨false, l0⟩ = false) := by rw [Hid, hdB_within ⟨false, l0⟩]; exact hw
          go_wp2_with (go_at_call 64; refine (tWithin_any _ _ _ _).mono ?_; rintro e w' ⟨rfl, rfl⟩)
          go_ret
          exact ⟨by rw [HF.out]; simp, hal _⟩
        | true =>
          have HF : Hid (hdB ⟨false, l0⟩ = true) := by rw [Hid, hdB_within ⟨false, l0⟩]; exact hw
          go_wp2_with (go_at_call 64; refine (tWithin_any _ _ _ _).mono ?_; rintro e w' ⟨rfl, rfl⟩)
          go_roundw
          case rel => exact ⟨1, by omega, by go_num, ⟨fun _ => HF.out, fun h => by omega, fun h => by omega⟩, hal _⟩
          case measure => simp [intOf]
      · cases hw : withinB l0 0 24 with
        | false =>
          have HF : Hid (hdB ⟨true, l0⟩ = false) := by rw [Hid, hdB_within ⟨true, l0⟩]; exact hw
          go_wp2_with (go_at_call 64; refine (tWithin_any _ _ _ _).mono ?_; rintro e w' ⟨rfl, rfl⟩)
          go_ret
          exact ⟨by rw [HF.out]; simp, hal _⟩
        | true =>
          have HF : Hid (hdB ⟨true, l0⟩ = true) := by rw [Hid, hdB_within ⟨true, l0⟩]; exact hw
          go_wp2_with (go_at_call 64; refine (tWithin_any _ _ _ _).mono ?_; rintro e w' ⟨rfl, rfl⟩)
          go_roundw
          case rel => exact ⟨1, by omega, by go_num, ⟨fun _ => HF.out, fun h => by omega, fun h => by omega⟩, hal _⟩
          case measure => simp [intOf]
    · have ik := idxH1 o0 o1 o2 l0 l1 l2
      cases o1
      · cases hw : withinB l1 0 0 with
        | false =>
          have HF : Hid (hdB ⟨false, l1⟩ = false) := by rw [Hid, hdB_within ⟨false, l1⟩]; exact hw
          go_wp2_with (go_at_call 64; refine (tWithin_any _ _ _ _).mono ?_; rintro e w' ⟨rfl, rfl⟩)
          go_ret
          exact ⟨by rw [HF.out]; simp, hal _⟩
        | true =>
          have HF : Hid (hdB ⟨false, l1⟩ = true) := by rw [Hid, hdB_within ⟨false, l1⟩]; exact hw
          go_wp2_with (go_at_call 64; refine (tWithin_any _ _ _ _).mono ?_; rintro e w' ⟨rfl, rfl⟩)
          go_roundw
          case rel => exact ⟨2, by omega, by go_num, ⟨fun _ => hr.out.1 (by omega), fun _ => HF.out, fun h => by omega⟩, hal _⟩
          case measure => simp [intOf]
      · cases hw : withinB l1 0 24 with
        | false =>
          have HF : Hid (hdB ⟨true, l1⟩ = false) := by rw [Hid, hdB_within ⟨true, l1⟩]; exact hw
          go_wp2_with (go_at_call 64; refine (tWithin_any _ _ _ _).mono ?_; rintro e w' ⟨rfl, rfl⟩)
          go_ret
          exact ⟨by rw [HF.out]; simp, hal _⟩
        | true =>
          have HF : Hid (hdB ⟨true, l1⟩ = true) := by rw [Hid, hdB_within ⟨true, l1⟩]; exact hw
          go_wp2_with (go_at_call 64; refine (tWithin_any _ _ _ _).mono ?_; rintro e w' ⟨rfl, rfl⟩)
          go_roundw
          case rel => exact ⟨2, by omega, by go_num, ⟨fun _ => hr.out.1 (by omega), fun _ => HF.out, fun h => by omega⟩, hal _⟩
          case measure => simp [intOf]
    · have ik := idxH2 o0 o1 o2 l0 l1 l2
      cases o2
      · cases hw : withinB l2 0 0 with
        | false =>
          have HF : Hid (hdB ⟨false, l2⟩ = false) := by rw [Hid, hdB_within ⟨false, l2⟩]; exact hw
          go_wp2_with (go_at_call 64; refine (tWithin_any _ _ _ _).mono ?_; rintro e w' ⟨rfl, rfl⟩)
          go_ret
          exact ⟨by rw [HF.out]; simp, hal _⟩
        | true =>
          have HF : Hid (hdB ⟨false, l2⟩ = true) := by rw [Hid, hdB_within ⟨false, l2⟩]; exact hw
          go_wp2_with (go_at_call 64; refine (tWithin_any _ _ _ _).mono ?_; rintro e w' ⟨rfl, rfl⟩)
          go_roundw
          case rel => exact ⟨3, by omega, by go_num, ⟨fun _ => hr.out.1 (by omega), fun _ => hr.out.2.1 (by omega), fun _ => HF.out⟩, hal _⟩
          case measure => simp [intOf]
      · cases hw : withinB l2 0 24 with
        | false =>
          have HF : Hid (hdB ⟨true, l2⟩ = false) := by rw [Hid, hdB_within ⟨true, l2⟩]; exact hw
          go_wp2_with (go_at_call 64; refine (tWithin_any _ _ _ _).mono ?_; rintro e w' ⟨rfl, rfl⟩)
          go_ret
          exact ⟨by rw [HF.out]; simp, hal _⟩
        | true =>
          have HF : Hid (hdB ⟨true, l2⟩ = true) := by rw [Hid, hdB_within ⟨true, l2⟩]; exact hw
          go_wp2_with (go_at_call 64; refine (tWithin_any _ _ _ _).mono ?_; rintro e w' ⟨rfl, rfl⟩)
          go_roundw
          case rel => exact ⟨3, by omega, by go_num, ⟨fun _ => hr.out.1 (by omega), fun _ => hr.out.2.1 (by omega), fun _ => HF.out⟩, hal _⟩
          case measure => simp [intOf]
    · have HT : Hid ((hdB ⟨o0, l0⟩ && hdB ⟨o1, l1⟩ && hdB ⟨o2, l2⟩) = true) := by rw [Hid, hr.out.1 (by omega), hr.out.2.1 (by omega), hr.out.2.2 (by omega)]; rfl
      go_wp2
      go_ret
      exact ⟨by rw [HT.out]; rfl, hbr⟩

end Go.Proofs.Ytjnpndfpajjihab

namespace Go.Proofs.Ytjnpndfpajjihab
open Go.RowKit

set_option maxHeartbeats 1000000 in
theorem rise_any (a : Option Addr) (c : Nat) (l : List Int) (w : World) (h : SegI w a l) (hn : l.length ≤ maxLen) :
    Calls Try.prog 71 #[.slice a l.length c] w fun e w' => e = .returned (.bool (rises l)) ∧ w = w' := by
  unfold maxLen at hn
  have HS := hide h
  clear h
  go_enter Try.func71, Try.ntmps71
  go_wp2
  go_loop [3, 8] (fun q i => ∃ k : Nat, k ≤ l.length ∧ i = .int .i64 k ∧ q = .int .i64 (lastNum (-1) (l.take k) + 1) ∧ -1 ≤ lastNum (-1) (l.take k) ∧ Hid (risesFrom (-1) (l.take k) = true)) (fun _ i => l.length - (intOf i).toNat)
  case atStart => exact ⟨0, Nat.zero_le _, rfl, rfl, by simp [lastNum], by simp [Hid, risesFrom]⟩
  case round =>
    obtain ⟨k, hk, rfl, rfl, hq1, hr⟩ := hrel
    by_cases hlt : k < l.length
    · obtain ⟨b, off, rfl, hb, hc⟩ := HS.out.resolve_left (by intro e; rw [e] at hlt; simp at hlt)
      obtain ⟨x, hx⟩ : ∃ x, x = l.getD k 0 := ⟨_, rfl⟩
      have hck := hc k hlt
      rw [← hx] at hck
      have HX : Hid (l[k]? = some x) := by rw [hx]; exact getD_at _ _ _ hlt
      have HT : Hid (l.take (k + 1) = l.take k ++ [x]) := by rw [Hid, List.take_add_one, HX.out]; rfl
      clear hx hc
      obtain ⟨q, hq⟩ : ∃ q, q = lastNum (-1) (l.take k) := ⟨_, rfl⟩
      have HQ := hide hq
      rw [← hq] at hq1
      rw [← hq]
      clear hq
      have hlt' : (k : Int) < (l.length : Int) := by omega
      cases hw : withinB x (q + 1) 11 with
      | false =>
        have HR : Hid (rises l = false) := rises_no (-1) l (k + 1) (by
          rw [HT.out, rises_snoc, ← HQ.out]
          have : x ≤ q ∨ 11 < x := by
            by_cases e : x ≤ q ∨ 11 < x
            · exact e
            · rw [withinB_iff.2 (by omega)] at hw; cases hw
          simp [this])
        clear hr
        go_wp2_with (go_at_call 64; refine (tWithin_any _ _ _ _).mono ?_; rintro e w' ⟨rfl, rfl⟩)
        go_ret
        exact ⟨by rw [HR.out]; rfl, rfl⟩
      | true =>
        have hin := withinB_iff.1 hw
        have HR : Hid (risesFrom (-1) (l.take (k + 1)) = true) := by
          have : ¬ (x ≤ q ∨ 11 < x) := by omega
          rw [Hid, HT.out, rises_snoc, hr.out, ← HQ.out]; simp [this]
        clear hr
        go_wp2_with (go_at_call 64; refine (tWithin_any _ _ _ _).mono ?_; rintro e w' ⟨rfl, rfl⟩)
        go_round
        case rel => exact ⟨k + 1, by omega, by go_num, by rw [HT.out, lastNum_snoc], by rw [HT.out, lastNum_snoc]; omega, HR⟩
        case measure => simp [intOf]; omega
    · have e : k = l.length := by omega
      have hr' : rises l = true := by have := hr.out; rw [e, List.take_length] at this; exact this
      have HR := hide hr'
      clear hr hr'
      go_wp2
      go_ret
      exact ⟨by rw [HR.out]; rfl, rfl⟩

theorem blks_take {l : List (Int × ByteArray)} {k : Nat} {x : Int × ByteArray} (h : l[k]? = some x) : blksOf (l.take (k + 1)) = blksOf (l.take k) ++ [x.1] := by
  rw [List.take_add_one, h]; simp [blksOf]
theorem blks_length (l : List (Int × ByteArray)) : (blksOf l).length = l.length := by simp [blksOf]

set_option maxHeartbeats 2000000 in
set_option maxRecDepth 100000 in
theorem blocks_any (a : Option Addr) (c : Nat) (l : List (Int × ByteArray)) (w : World) (h : SegW w a l) (hn : l.length * 24 ≤ 140737488355328) :
    Calls Try.prog 70 #[.slice a l.length c] w fun e w' => ∃ a2 c2, e = .returned (.slice a2 l.length c2) ∧ SegI w' a2 (blksOf l) ∧ Below w.heap.size w w' := by
  have HS := hide h
  clear h
  have hmk := madeI l.length (by omega)
  go_enter Try.func70, Try.ntmps70
  go_wp2
  clear hmk
  go_loopw [11] (fun i wr => ∃ k : Nat, k ≤ l.length ∧ i = .int .i64 k ∧ Hid (wr.ownsRow w.heap.size 3 1 (.slice (some ⟨w.heap.size, 0, none⟩) l.length l.length) l.length (fillI (blksOf (l.take k)) (l.length - k))) ∧ Below w.heap.size w wr) (fun i _ => l.length - (intOf i).toNat)
  case atStart => exact ⟨0, Nat.zero_le _, rfl, madeI_owns l.length (by omega) w w.heap.size (Nat.le_refl _), below1 _ _⟩
  case round =>
    obtain ⟨k, hk, rfl, hown, hbr⟩ := hrel
    have hsr := hbr.size
    by_cases hlt : k < l.length
    · obtain ⟨b2, off, rfl, hb, hc⟩ := HS.out.resolve_left (by intro e; rw [e] at hlt; simp at hlt)
      obtain ⟨x, hx⟩ : ∃ x, x = l.getD k (0, ByteArray.empty) := ⟨_, rfl⟩
      obtain ⟨hc1, hc2⟩ := hc k hlt
      rw [← hx] at hc1 hc2
      have HX : Hid (l[k]? = some x) := by rw [hx]; exact getD_at _ _ _ hlt
      have g1 := cellKeep hbr hb hc1
      have g2 := cellKeep hbr hb hc2
      clear hx hc hc1 hc2
      obtain ⟨n, t⟩ := x
      have hlt' : (k : Int) < (l.length : Int) := by omega
      have hb4 := hbr.alloc hbr.size (Obj.cells #[.int .i64 n, .string t] 91)
      have hown4 := owns_keep hown.out (below1 wr (Obj.cells #[.int .i64 n, .string t] 91))
      rw [show l.length - k = (l.length - k - 1) + 1 from by omega] at hown4
      have hcc := fillI_cell hown4
      have hst := fillI_step hown4 n
      rw [blks_length, List.length_take, Nat.min_eq_left (by omega)] at hcc hst
      obtain ⟨⟨u0, hu⟩, hfz, _, hB, _⟩ := hcc
      rw [← blks_take (x := (n, t)) HX.out] at hst
      have HST := hide hst
      clear hst hown4 hown
      go_wp2
      go_roundw
      case rel => exact ⟨k + 1, by omega, by go_num, by rw [show l.length - (k + 1) = l.length - k - 1 from by omega]; exact HST, hb4.setCell (by simp) _⟩
      case measure => simp [intOf]; omega
    · have e : k = l.length := by omega
      subst e
      have hown' := hown.out
      rw [Nat.sub_self, fillI_full, List.take_length] at hown'
      obtain ⟨a2, c2, hv, hS, hA⟩ := SegI.of_owns hown'
      rw [blks_length] at hv
      simp only [Value.slice.injEq] at hv
      obtain ⟨ha2, _, hc2⟩ := hv
      subst ha2 hc2
      have HS2 := hide hS
      clear hown hown' hS hA
      go_wp2
      go_ret
      exact ⟨_, _, rfl, HS2.out, hbr⟩

end Go.Proofs.Ytjnpndfpajjihab
