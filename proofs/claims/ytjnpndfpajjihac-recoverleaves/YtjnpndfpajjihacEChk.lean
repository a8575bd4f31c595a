/-
  The walks of package seal's write, flush and home.
  A row of numbers that is filled one by one. Nothing of the program is proved here.
  The walk of package ring's Most, and of what it calls.
  The walks of package txn's within, isHandle, isOn, bounded, room, Asked, rise and blocks.
  The walks of package txn's rise and blocks.
  The walks of slices.IndexFunc and ContainsFunc at []api.Copy and []api.Handle, of slices.Contains at []int; of package txn's fit, Get, holds, named and Open.
  The walks of package seal's isNoCopy and Check.
-/
import Derived.Test.YtjnpndfpajjihacXRunA
import Derived.Test.YtjnpndfpajjihacTDefs
import Derived.Test.YtjnpndfpajjihacIntRows
import Derived.Laws.OwnMore
import Derived.Test.YtjnpndfpajjihacRNeedPure
import Derived.Test.YtjnpndfpajjihacTPure
import Derived.Shelf.Abstract
import Derived.Test.YtjnpndfpajjihacSEncode
import Derived.Test.YtjnpndfpajjihacWithin
namespace Go.Proofs.Ytjnpndfpajjihac
open Go.RowKit

set_option maxHeartbeats 400000 in
theorem write_any (p : Int) (s : ByteArray) (w : World) :
    Calls Try.prog 24 #[.int .i64 p, .string s] w fun e w' => e = .returned (.agg #[.int .i64 1, .int .i64 p, .string s]) ∧ Below w.heap.size w w' := by
  go_enter Try.func24, Try.ntmps24
  go_wp2
  exact bodyPost_ret (v := .agg #[.int .i64 1, .int .i64 p, .string s]) (by simp [results, Try.results24, go_sem]) rfl ⟨rfl, below1 _ _⟩
set_option maxHeartbeats 400000 in
theorem flush1_any (w : World) :
    Calls Try.prog 25 #[] w fun e w' => e = .returned (.agg #[.int .i64 2, .int .i64 0, .string ⟨#[]⟩]) ∧ Below w.heap.size w w' := by
  go_enter Try.func25, Try.ntmps25
  go_wp2
  exact bodyPost_ret (v := .agg #[.int .i64 2, .int .i64 0, .string ⟨#[]⟩]) (by simp [results, Try.results25, go_sem]) rfl ⟨rfl, below1 _ _⟩

/-- The steps by which copies go home. -/
def homeM (l : List (Int × ByteArray)) : List St := l.map fun c => writeS (25 + c.1) c.2
def homeS (l : List (Int × ByteArray)) : List St := homeM l ++ (if l.length = 0 then [] else [flushS])
theorem homeM_length (l : List (Int × ByteArray)) : (homeM l).length = l.length := by simp [homeM]
theorem homeM_snoc {l : List (Int × ByteArray)} {k : Nat} {x : Int × ByteArray} (h : l[k]? = some x) : homeM (l.take (k + 1)) = homeM (l.take k) ++ [writeS (25 + x.1) x.2] := by
  rw [List.take_add_one, h, homeM, homeM, List.map_append]; rfl

set_option maxHeartbeats 2000000 in
set_option maxRecDepth 100000 in
theorem home_any (a : Option Addr) (c : Nat) (l : List (Int × ByteArray)) (w : World) (h : SegW w a l) (hn : l.length * 24 ≤ 140737488355328) (hb : ∀ x ∈ l, 0 ≤ x.1 ∧ x.1 ≤ 11) :
    Calls Try.prog 23 #[.slice a l.length c] w fun e w' => ∃ v', e = .returned v' ∧ w'.ownsRow w.heap.size 75 3 v' (homeS l).length (cellsSt (homeS l)) ∧ Below w.heap.size w w' := by
  have HS := hide h
  have HBD := hide hb
  clear h hb
  go_enter Try.func23, Try.ntmps23
  go_wp2
  go_loopw [3, 8] (fun s i wr => ∃ k : Nat, k ≤ l.length ∧ i = .int .i64 k ∧ Hid (wr.ownsRow w.heap.size 75 3 s (homeM (l.take k)).length (cellsSt (homeM (l.take k)))) ∧ Hid (Below w.heap.size w wr)) (fun _ i _ => l.length - (intOf i).toNat)
  case atStart => exact ⟨0, Nat.zero_le _, rfl, World.ownsRow_nil _ _ _ _, Below.refl _ _⟩
  case round =>
    obtain ⟨k, hk, rfl, hown, hbr⟩ := hrel
    by_cases hlt : k < l.length
    · obtain ⟨b2, off, rfl, hb, hc⟩ := HS.out.resolve_left (by intro e; rw [e] at hlt; simp at hlt)
      obtain ⟨x, hx⟩ : ∃ x, x = l.getD k (0, ByteArray.empty) := ⟨_, rfl⟩
      obtain ⟨hc1, hc2⟩ := hc k hlt
      rw [← hx] at hc1 hc2
      have HX : l[k]? = some x := by rw [hx]; exact getD_at _ _ _ hlt
      have hbd := HBD.out x (List.mem_of_getElem? HX)
      have g1 := cellKeep hbr.out hb hc1
      have g2 := cellKeep hbr.out hb hc2
      have HT := hide (homeM_snoc HX)
      have hq : (homeM (l.take k)).length ≤ k := by rw [homeM_length, List.length_take]; omega
      have hlt' : (k : Int) < (l.length : Int) := by omega
      clear hx hc hc1 hc2 HX
      obtain ⟨n, s⟩ := x
      obtain ⟨hb0, hb1⟩ : 0 ≤ n ∧ n ≤ 11 := hbd
      generalize homeM (l.take k) = q at *
      go_wp2_with fail
      refine (write_any (25 + n) s _).mono ?_
      rintro e w3 ⟨rfl, hb3⟩
      have HB3 := hide (bthen (bthen hbr.out (below1 _ _)) hb3)
      have HO3 := hide (owns_keep (owns_keep hown.out (below1 _ _)) hb3)
      clear hb3 hown hbr g1 g2
      go_wp2_with (at_builtin; refine wpList_appSt rfl _ _ rfl w.heap.size _ q rfl (owns_keep HO3.out (below1 _ _)) w3.heap.size (writeS (25 + n) s) rfl (by simp [go_sem, writeS]) (by simp [go_sem, writeS]) (by simp [go_sem, writeS]) (by omega) (Nat.le_trans HB3.out.size (by simp)) ?_)
      intro v' w' hown' hg'
      have hB' : Below w.heap.size w w' := (HB3.out.alloc HB3.out.size _).grown hg' (Nat.le_trans HB3.out.size (by simp)) (fun j hj => (HO3.out.lt j hj).1)
      go_wp2
      go_roundw
      case rel => exact ⟨k + 1, by omega, by go_num, by rw [HT.out]; exact hown', hB'⟩
      case measure => simp [intOf]; omega
    · have e : k = l.length := by omega
      subst e
      rw [List.take_length] at hown
      by_cases h0 : l.length = 0
      · have HE : Hid (homeS l = homeM l) := by rw [Hid, homeS, if_pos h0, List.append_nil]
        have h0' : ¬ ((0 : Int) < (l.length : Int)) := by omega
        go_wp2
        go_ret
        exact ⟨_, rfl, by rw [HE.out]; exact hown.out, hbr.out⟩
      · have HE : Hid (homeS l = homeM l ++ [flushS]) := by rw [Hid, homeS, if_neg h0]
        have h0' : (0 : Int) < (l.length : Int) := by omega
        have hq : (homeM l).length ≤ l.length := by rw [homeM_length]; omega
        generalize homeM l = q at *
        go_wp2_with fail
        refine (flush1_any _).mono ?_
        rintro e w3 ⟨rfl, hb3⟩
        have HB3 := hide (bthen hbr.out hb3)
        have HO3 := hide (owns_keep hown.out hb3)
        clear hb3 hown hbr
        go_wp2_with (at_builtin; refine wpList_appSt rfl _ _ rfl w.heap.size _ q rfl (owns_keep HO3.out (below1 _ _)) w3.heap.size flushS rfl (by simp [go_sem, flushS]) (by simp [go_sem, flushS]) (by simp [go_sem, flushS]) (by omega) (Nat.le_trans HB3.out.size (by simp)) ?_)
        intro v' w' hown' hg'
        have hB' : Below w.heap.size w w' := (HB3.out.alloc HB3.out.size _).grown hg' (Nat.le_trans HB3.out.size (by simp)) (fun j hj => (HO3.out.lt j hj).1)
        go_wp2
        go_ret
        exact ⟨_, rfl, by rw [HE.out]; exact hown', hB'⟩

end Go.Proofs.Ytjnpndfpajjihac

namespace Go.Proofs.Ytjnpndfpajjihac
open Go.RowKit

/-- A row of numbers of which the first are filled. -/
def fillI (l : List Int) (m : Nat) : List Value := cellsI l ++ List.replicate m (.int .i64 0)
theorem fillI_set (l : List Int) (m : Nat) (x : Int) : (fillI l (m + 1)).set l.length (.int .i64 x) = fillI (l ++ [x]) m := by
  have hl : (cellsI l).length = l.length := by simp [cellsI]
  rw [fillI, List.set_append_right _ _ (by omega), hl, Nat.sub_self, List.replicate_succ, List.set_cons_zero, fillI, cellsI_append, List.append_assoc]
  rfl
theorem fillI_full (l : List Int) : fillI l 0 = cellsI l := by simp [fillI]
theorem fillI_none (m : Nat) : fillI [] m = List.replicate m (.int .i64 0) := rfl
theorem fillI_at (l : List Int) (m k : Nat) (h : k < l.length + m) : ∃ u, (fillI l m)[k]? = some u := by
  have : k < (fillI l m).length := by simp [fillI, cellsI]; omega
  exact ⟨_, List.getElem?_eq_getElem this⟩
theorem fillI_step {w : World} {base g n : Nat} {l : List Int} {m : Nat} (h : w.ownsRow base 3 1 (.slice (some ⟨g, 0, none⟩) n n) n (fillI l (m + 1))) (x : Int) :
    (w.setCell ⟨g, l.length, none⟩ (.int .i64 x)).ownsRow base 3 1 (.slice (some ⟨g, 0, none⟩) n n) n (fillI (l ++ [x]) m) := by
  have := (h.stored l.length (.int .i64 x)).1
  rwa [fillI_set] at this
theorem fillI_cell {w : World} {base g n : Nat} {l : List Int} {m : Nat} (h : w.ownsRow base 3 1 (.slice (some ⟨g, 0, none⟩) n n) n (fillI l (m + 1))) :
    (∃ u, w.cell? ⟨g, l.length, none⟩ = some u) ∧ w.frozen? ⟨g, l.length, none⟩ = false ∧ base ≤ g ∧ g < w.heap.size ∧ l.length + (m + 1) = n := by
  have hlen : l.length + (m + 1) = n := by have := h.1; simp [fillI, cellsI] at this; omega
  obtain ⟨u, hu⟩ := fillI_at l (m + 1) l.length (by omega)
  have hlt := h.lt g rfl
  exact ⟨⟨u, by rw [h.cellAt _ (by omega)]; exact hu⟩, h.frozenAt _, hlt.1, hlt.2, hlen⟩

theorem madeI (n : Nat) (h : n ≤ 17592186044416) (w : World) : (Instr.makeSlice 45 (.int .i64 n) (.int .i64 n)).run Try.prog w = .ok (.slice (some ⟨w.heap.size, 0, none⟩) n n) (w.alloc (.cells (fillI [] n).toArray 3)) := by
  obtain ⟨i0, hi, hz0, hz1, hz2⟩ := info_parts infoI
  have hr := run_make (P := Try.prog) w 45 3 i0 (.int .i64 0) Try.underlying45 hi hz0 .i64 .i64 n n (by omega) (by omega) (by rw [hz2]; omega) (by omega)
  have e : madeCells (Value.cells (.int .i64 0)) n = (fillI [] n).toArray := by
    apply Array.toList_inj.1
    rw [show Value.cells (.int .i64 0) = #[.int .i64 0] from rfl, toList_madeCells_one, fillI_none]
  rw [hr, hz1, Int.toNat_natCast, Nat.mul_one, e]

theorem madeI_owns (n : Nat) (h : n ≤ 17592186044416) (w : World) (base : Nat) (hb : base ≤ w.heap.size) : (w.alloc (.cells (fillI [] n).toArray 3)).ownsRow base 3 1 (.slice (some ⟨w.heap.size, 0, none⟩) n n) n (fillI [] n) := by
  have := World.ownsRow_lit (e := 3) (size := 1) w (fillI [] n).toArray n hb (by unfold maxLen; omega) (by simp [fillI, cellsI])
  simpa using this

end Go.Proofs.Ytjnpndfpajjihac

namespace Go.Proofs.Ytjnpndfpajjihac
open Go.RowKit

theorem mostN_eq (n : Int) : mostN n = clampN n + (clampN n + 9) / 10 + (clampN n + 19) / 20 + 1 := by
  have : 0 ≤ clampN n ∧ clampN n ≤ 24 := by unfold clampN; split <;> (try split) <;> omega
  unfold mostN
  split <;> split <;> split <;> omega
end Go.Proofs.Ytjnpndfpajjihac

namespace Go.Proofs.Ytjnpndfpajjihac
open Go.RowKit

set_option maxHeartbeats 400000 in
theorem tWithin_any (n l m : Int) (w : World) :
    Calls Try.prog 40 #[.int .i64 n, .int .i64 l, .int .i64 m] w fun e w' => e = .returned (.bool (withinB n l m)) ∧ w = w' := by
  by_cases h0 : l ≤ n <;> by_cases h1 : n ≤ m
  all_goals
    go_enter Try.func40, Try.ntmps40
    go_wp2
    go_ret
    exact ⟨by simp [withinB, h0, h1], rfl⟩

/-- Is a handle there, and on? -/
def onB (t : Tx) (h : Int) : Bool := withinB h 0 2 && (hdAt t h).on

/-- A handle out of three. -/
theorem idxH0 (o0 o1 o2 : Bool) (l0 l1 l2 : Int) (w : World) : (Instr.index 48 (.agg #[.bool o0, .int .i64 l0, .bool o1, .int .i64 l1, .bool o2, .int .i64 l2]) (.int .i64 0)).run Try.prog w = .ok (.agg #[.bool o0, .int .i64 l0]) w := by kernel_rfl
theorem idxH1 (o0 o1 o2 : Bool) (l0 l1 l2 : Int) (w : World) : (Instr.index 48 (.agg #[.bool o0, .int .i64 l0, .bool o1, .int .i64 l1, .bool o2, .int .i64 l2]) (.int .i64 1)).run Try.prog w = .ok (.agg #[.bool o1, .int .i64 l1]) w := by kernel_rfl
theorem idxH2 (o0 o1 o2 : Bool) (l0 l1 l2 : Int) (w : World) : (Instr.index 48 (.agg #[.bool o0, .int .i64 l0, .bool o1, .int .i64 l1, .bool o2, .int .i64 l2]) (.int .i64 2)).run Try.prog w = .ok (.agg #[.bool o2, .int .i64 l2]) w := by kernel_rfl

theorem hdB_within (h : Hd) : hdB h = withinB h.left 0 (if h.on then 24 else 0) := by
  rw [Bool.eq_iff_iff, hdB_iff, withinB_iff]
  cases h.on
  · simp; omega
  · simp

set_option maxHeartbeats 1000000 in
set_option maxRecDepth 100000 in
theorem bounded_any (x0 x1 x2 : Hd) (w : World) :
    Calls Try.prog 45 #[.agg #[.bool x0.on, .int .i64 x0.left, .bool x1.on, .int .i64 x1.left, .bool x2.on, .int .i64 x2.left]] w fun e w' => e = .returned (.bool (hdB x0 && hdB x1 && hdB x2)) ∧ Below w.heap.size w w' := by
  obtain ⟨o0, l0⟩ := x0
  obtain ⟨o1, l1⟩ := x1
  obtain ⟨o2, l2⟩ := x2
  go_enter Try.func45, Try.ntmps45
  go_wp2
  go_loopw [7] (fun i wr => ∃ k : Nat, k ≤ 3 ∧ i = .int .i64 k ∧ Hid ((1 ≤ k → hdB ⟨o0, l0⟩ = true) ∧ (2 ≤ k → hdB ⟨o1, l1⟩ = true) ∧ (3 ≤ k → hdB ⟨o2, l2⟩ = true)) ∧ Below w.heap.size w wr) (fun i _ => 3 - (intOf i).toNat)
  case atStart => exact ⟨0, by omega, rfl, ⟨fun h => by omega, fun h => by omega, fun h => by omega⟩, below1 _ _⟩
  case round =>
    obtain ⟨k, hk, rfl, hr, hbr⟩ := hrel
    have hc : k = 0 ∨ k = 1 ∨ k = 2 ∨ k = 3 := by omega
    have hal := fun o => hbr.alloc hbr.size o
    clear hk
    rcases hc with rfl | rfl | rfl | rfl
    · have ik := idxH0 o0 o1 o2 l0 l1 l2
      cases o0
      · cases hw : withinB l0 0 0 with
        | false =>
          have HF : Hid (hdB ⟨false, l0⟩ = false) := by rw [Hid, hdB_within ⟨false, l0⟩]; exact hw
          go_wp2_with (go_at_call 40; refine (tWithin_any _ _ _ _).mono ?_; rintro e w' ⟨rfl, rfl⟩)
          go_ret
          exact ⟨by rw [HF.out]; simp, hal _⟩
        | true =>
          have HF : Hid (hdB ⟨false, l0⟩ = true) := by rw [Hid, hdB_within ⟨false, l0⟩]; exact hw
          go_wp2_with (go_at_call 40; refine (tWithin_any _ _ _ _).mono ?_; rintro e w' ⟨rfl, rfl⟩)
          go_roundw
          case rel => exact ⟨1, by omega, by go_num, ⟨fun _ => HF.out, fun h => by omega, fun h => by omega⟩, hal _⟩
          case measure => simp [intOf]
      · cases hw : withinB l0 0 24 with
        | false =>
          have HF : Hid (hdB ⟨true, l0⟩ = false) := by rw [Hid, hdB_within ⟨true, l0⟩]; exact hw
          go_wp2_with (go_at_call 40; refine (tWithin_any _ _ _ _).mono ?_; rintro e w' ⟨rfl, rfl⟩)
          go_ret
          exact ⟨by rw [HF.out]; simp, hal _⟩
        | true =>
          have HF : Hid (hdB ⟨true, l0⟩ = true) := by rw [Hid, hdB_within ⟨true, l0⟩]; exact hw
          go_wp2_with (go_at_call 40; refine (tWithin_any _ _ _ _).mono ?_; rintro e w' ⟨rfl, rfl⟩)
          go_roundw
          case rel => exact ⟨1, by omega, by go_num, ⟨fun _ => HF.out, fun h => by omega, fun h => by omega⟩, hal _⟩
          case measure => simp [intOf]
    · have ik := idxH1 o0 o1 o2 l0 l1 l2
      cases o1
      · cases hw : withinB l1 0 0 with
        | false =>
          have HF : Hid (hdB ⟨false, l1⟩ = false) := by rw [Hid, hdB_within ⟨false, l1⟩]; exact hw
          go_wp2_with (go_at_call 40; refine (tWithin_any _ _ _ _).mono ?_; rintro e w' ⟨rfl, rfl⟩)
          go_ret
          exact ⟨by rw [HF.out]; simp, hal _⟩
        | true =>
          have HF : Hid (hdB ⟨false, l1⟩ = true) := by rw [Hid, hdB_within ⟨false, l1⟩]; exact hw
          go_wp2_with (go_at_call 40; refine (tWithin_any _ _ _ _).mono ?_; rintro e w' ⟨rfl, rfl⟩)
          go_roundw
          case rel => exact ⟨2, by omega, by go_num, ⟨fun _ => hr.out.1 (by omega), fun _ => HF.out, fun h => by omega⟩, hal _⟩
          case measure => simp [intOf]
      · cases hw : withinB l1 0 24 with
        | false =>
          have HF : Hid (hdB ⟨true, l1⟩ = false) := by rw [Hid, hdB_within ⟨true, l1⟩]; exact hw
          go_wp2_with (go_at_call 40; refine (tWithin_any _ _ _ _).mono ?_; rintro e w' ⟨rfl, rfl⟩)
          go_ret
          exact ⟨by rw [HF.out]; simp, hal _⟩
        | true =>
          have HF : Hid (hdB ⟨true, l1⟩ = true) := by rw [Hid, hdB_within ⟨true, l1⟩]; exact hw
          go_wp2_with (go_at_call 40; refine (tWithin_any _ _ _ _).mono ?_; rintro e w' ⟨rfl, rfl⟩)
          go_roundw
          case rel => exact ⟨2, by omega, by go_num, ⟨fun _ => hr.out.1 (by omega), fun _ => HF.out, fun h => by omega⟩, hal _⟩
          case measure => simp [intOf]
    · have ik := idxH2 o0 o1 o2 l0 l1 l2
      cases o2
      · cases hw : withinB l2 0 0 with
        | false =>
          have HF : Hid (hdB ⟨false, l2⟩ = false) := by rw [Hid, hdB_within ⟨false, l2⟩]; exact hw
          go_wp2_with (go_at_call 40; refine (tWithin_any _ _ _ _).mono ?_; rintro e w' ⟨rfl, rfl⟩)
          go_ret
          exact ⟨by rw [HF.out]; simp, hal _⟩
        | true =>
          have HF : Hid (hdB ⟨false, l2⟩ = true) := by rw [Hid, hdB_within ⟨false, l2⟩]; exact hw
          go_wp2_with (go_at_call 40; refine (tWithin_any _ _ _ _).mono ?_; rintro e w' ⟨rfl, rfl⟩)
          go_roundw
          case rel => exact ⟨3, by omega, by go_num, ⟨fun _ => hr.out.1 (by omega), fun _ => hr.out.2.1 (by omega), fun _ => HF.out⟩, hal _⟩
          case measure => simp [intOf]
      · cases hw : withinB l2 0 24 with
        | false =>
          have HF : Hid (hdB ⟨true, l2⟩ = false) := by rw [Hid, hdB_within ⟨true, l2⟩]; exact hw
          go_wp2_with (go_at_call 40; refine (tWithin_any _ _ _ _).mono ?_; rintro e w' ⟨rfl, rfl⟩)
          go_ret
          exact ⟨by rw [HF.out]; simp, hal _⟩
        | true =>
          have HF : Hid (hdB ⟨true, l2⟩ = true) := by rw [Hid, hdB_within ⟨true, l2⟩]; exact hw
          go_wp2_with (go_at_call 40; refine (tWithin_any _ _ _ _).mono ?_; rintro e w' ⟨rfl, rfl⟩)
          go_roundw
          case rel => exact ⟨3, by omega, by go_num, ⟨fun _ => hr.out.1 (by omega), fun _ => hr.out.2.1 (by omega), fun _ => HF.out⟩, hal _⟩
          case measure => simp [intOf]
    · have HT : Hid ((hdB ⟨o0, l0⟩ && hdB ⟨o1, l1⟩ && hdB ⟨o2, l2⟩) = true) := by rw [Hid, hr.out.1 (by omega), hr.out.2.1 (by omega), hr.out.2.2 (by omega)]; rfl
      go_wp2
      go_ret
      exact ⟨by rw [HT.out]; rfl, hbr⟩

end Go.Proofs.Ytjnpndfpajjihac

namespace Go.Proofs.Ytjnpndfpajjihac
open Go.RowKit

set_option maxHeartbeats 1000000 in
theorem rise_any (a : Option Addr) (c : Nat) (l : List Int) (w : World) (h : SegI w a l) (hn : l.length ≤ maxLen) :
    Calls Try.prog 43 #[.slice a l.length c] w fun e w' => e = .returned (.bool (rises l)) ∧ w = w' := by
  unfold maxLen at hn
  have HS := hide h
  clear h
  go_enter Try.func43, Try.ntmps43
  go_wp2
  go_loop [3, 8] (fun q i => ∃ k : Nat, k ≤ l.length ∧ i = .int .i64 k ∧ q = .int .i64 (lastNum (-1) (l.take k) + 1) ∧ -1 ≤ lastNum (-1) (l.take k) ∧ Hid (risesFrom (-1) (l.take k) = true)) (fun _ i => l.length - (intOf i).toNat)
  case atStart => exact ⟨0, Nat.zero_le _, rfl, rfl, by simp [lastNum], by simp [Hid, risesFrom]⟩
  case round =>
    obtain ⟨k, hk, rfl, rfl, hq1, hr⟩ := hrel
    by_cases hlt : k < l.length
    · obtain ⟨b, off, rfl, hb, hc⟩ := HS.out.resolve_left (by intro e; rw [e] at hlt; simp at hlt)
      obtain ⟨x, hx⟩ : ∃ x, x = l.getD k 0 := ⟨_, rfl⟩
      have hck := hc k hlt
      rw [← hx] at hck
      have HX : Hid (l[k]? = some x) := by rw [hx]; exact getD_at _ _ _ hlt
      have HT : Hid (l.take (k + 1) = l.take k ++ [x]) := by rw [Hid, List.take_add_one, HX.out]; rfl
      clear hx hc
      obtain ⟨q, hq⟩ : ∃ q, q = lastNum (-1) (l.take k) := ⟨_, rfl⟩
      have HQ := hide hq
      rw [← hq] at hq1
      rw [← hq]
      clear hq
      have hlt' : (k : Int) < (l.length : Int) := by omega
      cases hw : withinB x (q + 1) 11 with
      | false =>
        have HR : Hid (rises l = false) := rises_no (-1) l (k + 1) (by
          rw [HT.out, rises_snoc, ← HQ.out]
          have : x ≤ q ∨ 11 < x := by
            by_cases e : x ≤ q ∨ 11 < x
            · exact e
            · rw [withinB_iff.2 (by omega)] at hw; cases hw
          simp [this])
        clear hr
        go_wp2_with (go_at_call 40; refine (tWithin_any _ _ _ _).mono ?_; rintro e w' ⟨rfl, rfl⟩)
        go_ret
        exact ⟨by rw [HR.out]; rfl, rfl⟩
      | true =>
        have hin := withinB_iff.1 hw
        have HR : Hid (risesFrom (-1) (l.take (k + 1)) = true) := by
          have : ¬ (x ≤ q ∨ 11 < x) := by omega
          rw [Hid, HT.out, rises_snoc, hr.out, ← HQ.out]; simp [this]
        clear hr
        go_wp2_with (go_at_call 40; refine (tWithin_any _ _ _ _).mono ?_; rintro e w' ⟨rfl, rfl⟩)
        go_round
        case rel => exact ⟨k + 1, by omega, by go_num, by rw [HT.out, lastNum_snoc], by rw [HT.out, lastNum_snoc]; omega, HR⟩
        case measure => simp [intOf]; omega
    · have e : k = l.length := by omega
      have hr' : rises l = true := by have := hr.out; rw [e, List.take_length] at this; exact this
      have HR := hide hr'
      clear hr hr'
      go_wp2
      go_ret
      exact ⟨by rw [HR.out]; rfl, rfl⟩

theorem blks_take {l : List (Int × ByteArray)} {k : Nat} {x : Int × ByteArray} (h : l[k]? = some x) : blksOf (l.take (k + 1)) = blksOf (l.take k) ++ [x.1] := by
  rw [List.take_add_one, h]; simp [blksOf]
theorem blks_length (l : List (Int × ByteArray)) : (blksOf l).length = l.length := by simp [blksOf]

set_option maxHeartbeats 2000000 in
set_option maxRecDepth 100000 in
theorem blocks_any (a : Option Addr) (c : Nat) (l : List (Int × ByteArray)) (w : World) (h : SegW w a l) (hn : l.length * 24 ≤ 140737488355328) :
    Calls Try.prog 42 #[.slice a l.length c] w fun e w' => ∃ a2 c2, e = .returned (.slice a2 l.length c2) ∧ SegI w' a2 (blksOf l) ∧ Below w.heap.size w w' := by
  have HS := hide h
  clear h
  have hmk := madeI l.length (by omega)
  go_enter Try.func42, Try.ntmps42
  go_wp2
  clear hmk
  go_loopw [11] (fun i wr => ∃ k : Nat, k ≤ l.length ∧ i = .int .i64 k ∧ Hid (wr.ownsRow w.heap.size 3 1 (.slice (some ⟨w.heap.size, 0, none⟩) l.length l.length) l.length (fillI (blksOf (l.take k)) (l.length - k))) ∧ Below w.heap.size w wr) (fun i _ => l.length - (intOf i).toNat)
  case atStart => exact ⟨0, Nat.zero_le _, rfl, madeI_owns l.length (by omega) w w.heap.size (Nat.le_refl _), below1 _ _⟩
  case round =>
    obtain ⟨k, hk, rfl, hown, hbr⟩ := hrel
    have hsr := hbr.size
    by_cases hlt : k < l.length
    · obtain ⟨b2, off, rfl, hb, hc⟩ := HS.out.resolve_left (by intro e; rw [e] at hlt; simp at hlt)
      obtain ⟨x, hx⟩ : ∃ x, x = l.getD k (0, ByteArray.empty) := ⟨_, rfl⟩
      obtain ⟨hc1, hc2⟩ := hc k hlt
      rw [← hx] at hc1 hc2
      have HX : Hid (l[k]? = some x) := by rw [hx]; exact getD_at _ _ _ hlt
      have g1 := cellKeep hbr hb hc1
      have g2 := cellKeep hbr hb hc2
      clear hx hc hc1 hc2
      obtain ⟨n, t⟩ := x
      have hlt' : (k : Int) < (l.length : Int) := by omega
      have hb4 := hbr.alloc hbr.size (Obj.cells #[.int .i64 n, .string t] 71)
      have hown4 := owns_keep hown.out (below1 wr (Obj.cells #[.int .i64 n, .string t] 71))
      rw [show l.length - k = (l.length - k - 1) + 1 from by omega] at hown4
      have hcc := fillI_cell hown4
      have hst := fillI_step hown4 n
      rw [blks_length, List.length_take, Nat.min_eq_left (by omega)] at hcc hst
      obtain ⟨⟨u0, hu⟩, hfz, _, hB, _⟩ := hcc
      rw [← blks_take (x := (n, t)) HX.out] at hst
      have HST := hide hst
      clear hst hown4 hown
      go_wp2
      go_roundw
      case rel => exact ⟨k + 1, by omega, by go_num, by rw [show l.length - (k + 1) = l.length - k - 1 from by omega]; exact HST, hb4.setCell (by simp) _⟩
      case measure => simp [intOf]; omega
    · have e : k = l.length := by omega
      subst e
      have hown' := hown.out
      rw [Nat.sub_self, fillI_full, List.take_length] at hown'
      obtain ⟨a2, c2, hv, hS, hA⟩ := SegI.of_owns hown'
      rw [blks_length] at hv
      simp only [Value.slice.injEq] at hv
      obtain ⟨ha2, _, hc2⟩ := hv
      subst ha2 hc2
      have HS2 := hide hS
      clear hown hown' hS hA
      go_wp2
      go_ret
      exact ⟨_, _, rfl, HS2.out, hbr⟩

end Go.Proofs.Ytjnpndfpajjihac

namespace Go.Proofs.Ytjnpndfpajjihac
open Go.RowKit

/-- What is told of the first one that is so. -/
def Found {α : Type} (p : α → Bool) (l : List α) (i : Int) : Prop := (i = -1 ∧ l.any p = false) ∨ ∃ (k : Nat) (x : α), i = (k : Int) ∧ l[k]? = some x ∧ p x = true ∧ (l.take k).any p = false
theorem found_any {α : Type} {p : α → Bool} {l : List α} {i : Int} (h : Found p l i) : l.any p = decide (0 ≤ i) := by
  rcases h with ⟨rfl, h⟩ | ⟨k, x, rfl, h, hp, _⟩
  · rw [h]; rfl
  · rw [any_hit h hp]; simp

set_option maxHeartbeats 2000000 in
theorem idxC_any (p : Int × ByteArray → Bool) (g : Nat) (lb : Array Value) (eg : ∀ args w, (callFunc g args).run Try.prog w = .ok (.enter g args) w) (a : Option Addr) (c : Nat) (l : List (Int × ByteArray)) (w : World) (h : SegW w a l) (hn : l.length ≤ maxLen)
    (hp : ∀ (x : Int × ByteArray) (W : World), Below w.heap.size w W → Calls Try.prog g (#[.agg #[.int .i64 x.1, .string x.2]] ++ lb) W fun e w' => e = .returned (.bool (p x)) ∧ Below w.heap.size w w') :
    Calls Try.prog 29 #[.slice a l.length c, .func (.func g) #[] lb] w fun e w' => ∃ i : Int, e = .returned (.int .i64 i) ∧ Found p l i ∧ Below w.heap.size w w' := by
  unfold maxLen at hn
  have HS := hide h
  have HP := hide hp
  clear h hp
  go_enter Try.func29, Try.ntmps29
  go_wp2
  go_loopw [8] (fun i wr => ∃ k : Nat, k ≤ l.length ∧ i = .int .i64 k ∧ Hid ((l.take k).any p = false) ∧ Below w.heap.size w wr) (fun i _ => l.length - (intOf i).toNat)
  case atStart => exact ⟨0, Nat.zero_le _, rfl, by simp [Hid], Below.refl _ _⟩
  case round =>
    obtain ⟨k, hk, rfl, hr, hbr⟩ := hrel
    by_cases hlt : k < l.length
    · obtain ⟨b2, off, rfl, hb, hc⟩ := HS.out.resolve_left (by intro e; rw [e] at hlt; simp at hlt)
      obtain ⟨x, hx⟩ : ∃ x, x = l.getD k (0, ByteArray.empty) := ⟨_, rfl⟩
      obtain ⟨hc1, hc2⟩ := hc k hlt
      rw [← hx] at hc1 hc2
      have HX : Hid (l[k]? = some x) := by rw [hx]; exact getD_at _ _ _ hlt
      have g1 := cellKeep hbr hb hc1
      have g2 := cellKeep hbr hb hc2
      have hcall := HP.out x wr hbr
      clear hx hc hc1 hc2
      obtain ⟨n, t⟩ := x
      have hlt' : (k : Int) < (l.length : Int) := by omega
      cases hq : p (n, t) with
      | true =>
        have HF : Hid (Found p l (k : Int)) := .inr ⟨k, (n, t), rfl, HX.out, hq, hr.out⟩
        rw [hq] at hcall
        clear hr HP
        go_wp2_with fail
        refine hcall.mono ?_
        rintro e w' ⟨rfl, hb'⟩
        go_wp2
        go_ret
        exact ⟨_, rfl, HF.out, hb'⟩
      | false =>
        have HR := hide (any_miss HX.out hq hr.out)
        rw [hq] at hcall
        clear hr HP
        go_wp2_with fail
        refine hcall.mono ?_
        rintro e w' ⟨rfl, hb'⟩
        go_wp2
        go_roundw
        case rel => exact ⟨k + 1, by omega, by go_num, HR, hb'⟩
        case measure => simp [intOf]; omega
    · have HF : Hid (Found p l (-1)) := .inl ⟨rfl, by have := hr.out; rw [List.take_of_length_le (by omega)] at this; exact this⟩
      clear hr HP
      go_wp2
      go_ret
      exact ⟨_, rfl, HF.out, hbr⟩

set_option maxHeartbeats 2000000 in
theorem containsC_any (p : Int × ByteArray → Bool) (g : Nat) (lb : Array Value) (eg : ∀ args w, (callFunc g args).run Try.prog w = .ok (.enter g args) w) (a : Option Addr) (c : Nat) (l : List (Int × ByteArray)) (w : World) (h : SegW w a l) (hn : l.length ≤ maxLen)
    (hp : ∀ (x : Int × ByteArray) (W : World), Below w.heap.size w W → Calls Try.prog g (#[.agg #[.int .i64 x.1, .string x.2]] ++ lb) W fun e w' => e = .returned (.bool (p x)) ∧ Below w.heap.size w w') :
    Calls Try.prog 21 #[.slice a l.length c, .func (.func g) #[] lb] w fun e w' => e = .returned (.bool (l.any p)) ∧ Below w.heap.size w w' := by
  go_enter Try.func21, Try.ntmps21
  go_wp2_with fail
  refine (idxC_any p g lb eg a c l w h hn hp).mono ?_
  rintro e w1 ⟨i, rfl, hf, hb⟩
  have HF := hide (found_any hf)
  clear hf
  go_wp2
  go_ret
  exact ⟨by rw [HF.out]; rfl, hb⟩

set_option maxHeartbeats 400000 in
theorem fitLit_any (x : Int × ByteArray) (W : World) :
    Calls Try.prog 58 (#[.agg #[.int .i64 x.1, .string x.2]] ++ #[]) W fun e w' => e = .returned (.bool (!fitsB x.2)) ∧ Below W.heap.size W w' := by
  obtain ⟨n, t⟩ := x
  show Calls Try.prog 58 #[.agg #[.int .i64 n, .string t]] W _
  go_enter Try.func58, Try.ntmps58
  go_wp2
  go_ret
  exact ⟨rfl, below1 _ _⟩

theorem fitsAll_any (l : List (Int × ByteArray)) : fitsAll l = !l.any fun x => !fitsB x.2 := by
  simp [fitsAll, List.all_eq_not_any_not]

set_option maxHeartbeats 400000 in
theorem tFit_any (a : Option Addr) (c : Nat) (l : List (Int × ByteArray)) (w : World) (h : SegW w a l) (hn : l.length ≤ maxLen) :
    Calls Try.prog 41 #[.slice a l.length c] w fun e w' => e = .returned (.bool (fitsAll l)) ∧ Below w.heap.size w w' := by
  rw [fitsAll_any]
  go_enter Try.func41, Try.ntmps41
  go_wp2_with fail
  refine (containsC_any (fun x => !fitsB x.2) 58 #[] (Go.Proofs.enters_of Try.func58 (by kernel_rfl) rfl) a c l w h hn (fun x W hb => (fitLit_any x W).mono fun _ _ ⟨h1, h2⟩ => ⟨h1, hb.trans (h2.mono hb.size)⟩)).mono ?_
  rintro e w1 ⟨rfl, hb⟩
  go_wp2
  go_ret
  exact ⟨rfl, hb⟩

set_option maxHeartbeats 400000 in
theorem getLit_any (B : Nat) (b : Int) (x : Int × ByteArray) (W : World) (hB : B < W.heap.size) (hc : W.cell? ⟨B, 0, none⟩ = some (.int .i64 b)) :
    Calls Try.prog 30 (#[.agg #[.int .i64 x.1, .string x.2]] ++ #[.pointer (some ⟨B, 0, none⟩)]) W fun e w' => e = .returned (.bool (x.1 == b)) ∧ Below W.heap.size W w' := by
  obtain ⟨n, t⟩ := x
  show Calls Try.prog 30 #[.agg #[.int .i64 n, .string t], .pointer (some ⟨B, 0, none⟩)] W _
  have hne : B ≠ W.heap.size := by omega
  go_enter Try.func30, Try.ntmps30
  go_wp2
  go_ret
  exact ⟨rfl, below1 _ _⟩

theorem text_any (l : List (Int × ByteArray)) (b : Int) : (textIn b l).isSome = l.any fun x => x.1 == b := by
  induction l with
  | nil => rfl
  | cons x r ih =>
    rw [textIn, List.any_cons]
    by_cases e : x.1 = b
    · simp [e]
    · rw [if_neg e, ih, show (x.1 == b) = false from by simpa using e]; rfl
theorem text_none {l : List (Int × ByteArray)} {b : Int} (h : (l.any fun x => x.1 == b) = false) : textIn b l = none := by
  have := text_any l b
  rw [h] at this
  cases e : textIn b l with
  | none => rfl
  | some t => rw [e] at this; cases this

set_option maxHeartbeats 1000000 in
theorem tGet_any (a : Option Addr) (c : Nat) (l : List (Int × ByteArray)) (b : Int) (w : World) (h : SegW w a l) (hn : l.length ≤ maxLen) :
    Calls Try.prog 13 #[.slice a l.length c, .int .i64 b] w fun e w' => e = .returned (.tuple #[.string ((textIn b l).getD ⟨#[]⟩), .bool (textIn b l).isSome]) ∧ Below w.heap.size w w' := by
  have HS := hide h
  clear h
  go_enter Try.func13, Try.ntmps13
  go_wp2_with fail
  refine (idxC_any (fun x => x.1 == b) 30 #[.pointer (some ⟨w.heap.size, 0, none⟩)] (Go.Proofs.enters_of Try.func30 (by kernel_rfl) rfl) a c l _ (HS.out.below (below1 _ _)) hn (fun x W hb => (getLit_any w.heap.size b x W (by have := hb.size; simp at this; omega) ((hb.cell (p := ⟨w.heap.size, 0, none⟩) (by simp)).trans (by simp [go_sem]))).mono fun _ _ ⟨h1, h2⟩ => ⟨h1, hb.trans (h2.mono hb.size)⟩)).mono ?_
  rintro e w1 ⟨i, rfl, hf, hb1⟩
  have HB := hide (bthen (below1 _ _) hb1)
  have HS1 := hide (HS.out.below HB.out)
  clear hb1
  rcases hf with ⟨rfl, hf⟩ | ⟨k, x, rfl, hx, hp, ht⟩
  · have HT : Hid (textIn b l = none) := text_none hf
    clear hf
    go_wp2
    go_ret2
    exact ⟨by rw [HT.out]; rfl, HB.out⟩
  · have hp' : x.1 = b := by simpa using hp
    have HT : Hid (textIn b l = some x.2) := text_hit hx hp' (text_none ht)
    have hlt : k < l.length := (List.getElem?_eq_some_iff.1 hx).1
    obtain ⟨b2, off, rfl, hb, hc⟩ := HS1.out.resolve_left (by intro e; rw [e] at hlt; simp at hlt)
    have hg := (hc k hlt).2
    have hxx : l.getD k (0, ByteArray.empty) = x := by rw [List.getD, hx]; rfl
    rw [hxx] at hg
    unfold maxLen at hn
    have hlt' : (k : Int) < (l.length : Int) := by omega
    clear hc hx hp ht hp' hxx
    go_wp2
    go_ret2
    exact ⟨by rw [HT.out]; rfl, HB.out⟩
end Go.Proofs.Ytjnpndfpajjihac

namespace Go.Proofs.Ytjnpndfpajjihac
open Go.RowKit

/-- Is it no copy? A super block; what Check answers. -/
def noCopyB (x : Int × ByteArray) : Bool := !(withinB x.1 0 11 && decide (x.2.size = 32))
def superMk (p seq : Int) : Mk := ⟨1, seq, p, [], []⟩
def checkE (l : List (Int × ByteArray)) (p seq : Int) : Int := if goodM (superMk p seq) ≠ 0 then goodM (superMk p seq) else if l.any noCopyB = true then 1 else 0
def checkS (l : List (Int × ByteArray)) (p seq : Int) : List St := if checkE l p seq = 0 then homeS l ++ [writeS 0 (encT (superMk p seq)), flushS] else []

set_option maxHeartbeats 1000000 in
theorem isNoCopy_any (n : Int) (s : ByteArray) (w : World) :
    Calls Try.prog 22 #[.agg #[.int .i64 n, .string s]] w fun e w' => e = .returned (.bool (noCopyB (n, s))) ∧ Below w.heap.size w w' := by
  have e0 : noCopyB (n, s) = (decide (n < 0) || decide (12 ≤ n) || ((s.size : Int) != 32)) := by
    unfold noCopyB withinB
    by_cases h0 : n < 0
    · have : ¬ 0 ≤ n := by omega
      simp [h0, this]
    · by_cases h1 : 12 ≤ n
      · have h2 : ¬ n ≤ 11 := by omega
        simp [h1, h2]
      · have h2 : n ≤ 11 := by omega
        have h3 : 0 ≤ n := by omega
        have h4 : ¬ 12 ≤ n := h1
        by_cases h5 : s.size = 32
        · simp [h0, h2, h3, h4, h5]
        · have h6 : ((s.size : Int) != 32) = true := by rw [bne_iff_ne]; omega
          simp [h0, h2, h3, h4, h5, h6]
  have E0 := hide e0
  clear e0
  go_enter Try.func22, Try.ntmps22
  by_cases h0 : n < 0
  · go_wp2
    go_ret
    exact ⟨by rw [E0.out]; simp [h0], below1 _ _⟩
  · by_cases h1 : 12 ≤ n
    · go_wp2
      go_ret
      exact ⟨by rw [E0.out]; simp [h1], below1 _ _⟩
    · go_wp2
      go_ret
      exact ⟨by rw [E0.out, show decide (n < 0) = false from decide_eq_false (by omega), show decide (12 ≤ n) = false from decide_eq_false (by omega)]; rfl, below1 _ _⟩

theorem news6 {w : World} {b : Nat} {x y : St} (h0 : w.cell? ⟨b, 0, none⟩ = some (.int .i64 x.1)) (h1 : w.cell? ⟨b, 1, none⟩ = some (.int .i64 x.2.1)) (h2 : w.cell? ⟨b, 2, none⟩ = some (.string x.2.2)) (h3 : w.cell? ⟨b, 3, none⟩ = some (.int .i64 y.1)) (h4 : w.cell? ⟨b, 4, none⟩ = some (.int .i64 y.2.1)) (h5 : w.cell? ⟨b, 5, none⟩ = some (.string y.2.2)) :
    ∀ j u, (cellsSt [x, y])[j]? = some u → w.cell? (Addr.add ⟨b, 0, none⟩ j) = some u := by
  intro j u hj
  rw [Addr.add_lit, Nat.zero_add]
  match j, hj with
  | 0, hj => simp [cellsSt] at hj; subst hj; exact h0
  | 1, hj => simp [cellsSt] at hj; subst hj; exact h1
  | 2, hj => simp [cellsSt] at hj; subst hj; exact h2
  | 3, hj => simp [cellsSt] at hj; subst hj; exact h3
  | 4, hj => simp [cellsSt] at hj; subst hj; exact h4
  | 5, hj => simp [cellsSt] at hj; subst hj; exact h5
  | j + 6, hj => simp [cellsSt] at hj
/-- append of two steps onto a row of the call's own. -/
theorem wpList_appSt2 {w : World} {ops : Array Oper} {rest : List Oper} {o : Oper} {a : Act} {Q : Exit → Act → World → Prop} (hgd : o.guard = none) (s x : Operand)
    (ho : o.op = .call { callee := .builtin .append, args := #[s, x], argTypes := #[37, 37] })
    (base : Nat) (v : Value) (l : List St) (hs : a.eval s = v) (hown : w.ownsRow base 75 3 v l.length (cellsSt l)) (b : Nat) (y z : St) (hx : a.eval x = .slice (some ⟨b, 0, none⟩) 2 2)
    (hnews : ∀ j u, (cellsSt [y, z])[j]? = some u → w.cell? (Addr.add ⟨b, 0, none⟩ j) = some u) (h63 : l.length * 24 ≤ 140737488380000) (hbase : base ≤ w.heap.size)
    (h : ∀ v' w', OwnSt w' base v' (l ++ [y, z]) → w.grownBy w' v.ownBlock → wpList Try.prog ops Q rest (a.put o.dst v') w') : wpList Try.prog ops Q (o :: rest) a w := by
  obtain ⟨i0, hi, hz0, hz1, hz2⟩ := info_parts infoSt
  refine wpList_append_own_wide w hgd s x 37 ho base 75 i0 (.agg #[.int .i64 0, .int .i64 0, .string ⟨#[]⟩]) 3 32 Try.underlying37 hi hz0 hz1 hz2 rfl (by decide) v l.length (cellsSt l) hs hown ⟨b, 0, none⟩ 2 2 (cellsSt [y, z]) hx rfl hnews (cellsSt_one _) (by unfold maxLen; omega) (by omega) hbase ?_
  intro v' w' k1 k2 _
  refine h v' w' ?_ k2
  rw [OwnSt, cellsSt_append, List.length_append]
  exact k1
theorem homeS_le (l : List (Int × ByteArray)) : (homeS l).length ≤ l.length + 1 := by
  rw [homeS, List.length_append, homeM_length]; split <;> simp

set_option maxHeartbeats 4000000 in
set_option maxRecDepth 100000 in
theorem check_any (a : Option Addr) (c : Nat) (l : List (Int × ByteArray)) (p seq : Int) (w : World) (h : SegW w a l) (hn : l.length * 24 ≤ 140737488355328) :
    Calls Try.prog 9 #[.slice a l.length c, .int .i64 p, .int .i64 seq] w fun e w' => ∃ a2 c2, e = .returned (.tuple #[.slice a2 (checkS l p seq).length c2, .int .i64 (checkE l p seq)]) ∧ SegSt w' a2 (checkS l p seq) ∧ Below w.heap.size w w' := by
  have HS := hide h
  clear h
  obtain ⟨m, hm⟩ : ∃ m, m = superMk p seq := ⟨_, rfl⟩
  have HM := hide hm
  have hI : ∀ W, IsMk W (.agg #[.int .i64 1, .int .i64 seq, .int .i64 p, .slice none 0 0, .slice none 0 0]) m := by
    intro W; rw [hm]; exact ⟨none, 0, none, 0, rfl, .inl rfl, .inl rfl, Nat.zero_le _, Nat.zero_le _⟩
  have HI := hide hI
  clear hm hI
  go_enter Try.func9, Try.ntmps9
  go_wp2_with fail
  refine (stampEncode_any _ m _ (HI.out _)).mono ?_
  rintro e w1 ⟨rfl, hb1⟩
  by_cases hg : goodM m = 0
  · rw [hg]
    have hnl : l.length ≤ maxLen := by unfold maxLen; omega
    obtain ⟨s, hs⟩ : ∃ s, s = encT m := ⟨_, rfl⟩
    rw [← hs]
    have HSE := hide hs
    clear hs
    have HB1 := hide hb1
    clear hb1
    go_wp2_with fail
    refine (containsC_any noCopyB 22 #[] (Go.Proofs.enters_of Try.func22 (by kernel_rfl) rfl) a c l _ (HS.out.below HB1.out) hnl (fun x W hb => (isNoCopy_any x.1 x.2 W).mono fun _ _ ⟨h1, h2⟩ => ⟨h1, hb.trans (h2.mono hb.size)⟩)).mono ?_
    rintro e w2 ⟨rfl, hb2⟩
    have HB2 := hide (bthen HB1.out hb2)
    clear hb2 HB1
    cases hc : l.any noCopyB with
    | true =>
      have HE : Hid (checkE l p seq = 1) := by rw [Hid, checkE, ← HM.out, if_neg (by simp [hg]), if_pos hc]
      have HT : Hid (checkS l p seq = []) := by rw [Hid, checkS, HE.out]; rfl
      go_wp2
      exact bodyPost_ret (v := .tuple #[.slice none 0 0, .int .i64 1]) (by simp [results, Try.results9, go_sem]) rfl ⟨none, 0, by rw [HE.out, HT.out]; rfl, by rw [HT.out]; exact .inl rfl, HB2.out⟩
    | false =>
      have HE : Hid (checkE l p seq = 0) := by rw [Hid, checkE, ← HM.out, if_neg (by simp [hg]), if_neg (by simp [hc])]
      have HT : Hid (checkS l p seq = homeS l ++ [writeS 0 s, flushS]) := by rw [Hid, checkS, if_pos HE.out, ← HM.out, ← HSE.out]
      have HBD : Hid (∀ x ∈ l, 0 ≤ x.1 ∧ x.1 ≤ 11) := by
        intro x hx
        have := List.any_eq_false.1 hc x hx
        simp [noCopyB, withinB] at this
        exact this.1
      have hq := homeS_le l
      clear HSE hc HM HI hg
      go_wp2_with fail
      refine (home_any a c l _ (HS.out.below HB2.out) hn HBD.out).mono ?_
      rintro e w3 ⟨v3, rfl, hO3, hb3⟩
      have HO3 := hide (owns_base hO3 HB2.out.size)
      have HB3 := hide (bthen HB2.out hb3)
      clear hO3 hb3 HB2
      generalize homeS l = L at *
      go_wp2_with fail
      refine (write_any 0 s _).mono ?_
      rintro e w4 ⟨rfl, hb4⟩
      have HO4 := hide (owns_keep HO3.out hb4)
      have HB4 := hide (bthen HB3.out hb4)
      clear hb4 HO3 HB3
      go_wp2_with fail
      refine (flush1_any _).mono ?_
      rintro e w5 ⟨rfl, hb5⟩
      have HO5 := hide (owns_keep HO4.out hb5)
      have HB5 := hide (bthen HB4.out hb5)
      clear hb5 HO4 HB4
      go_wp2_with (at_builtin; refine wpList_appSt2 rfl _ _ rfl w.heap.size _ L rfl (owns_keep HO5.out (below1 _ _)) w5.heap.size (writeS 0 s) flushS rfl (news6 (by simp [go_sem, writeS]) (by simp [go_sem, writeS]) (by simp [go_sem, writeS]) (by simp [go_sem, flushS]) (by simp [go_sem, flushS]) (by simp [go_sem, flushS])) (by omega) (Nat.le_trans HB5.out.size (by simp)) ?_)
      intro v' w' hown' hg'
      have HB' : Hid (Below w.heap.size w w') := (HB5.out.alloc HB5.out.size _).grown hg' (Nat.le_trans HB5.out.size (by simp)) (fun j hj => (HO5.out.lt j hj).1)
      obtain ⟨a2, c2, hv, hS2, _⟩ := SegSt.of_owns hown'
      have HS2 := hide hS2
      subst hv
      clear hown' hg' hS2 HO5 HB5
      go_wp2
      exact bodyPost_ret (v := .tuple #[.slice a2 (L ++ [writeS 0 s, flushS]).length c2, .int .i64 0]) (by simp [results, Try.results9, go_sem]) rfl ⟨a2, c2, by rw [HE.out, HT.out], by rw [HT.out]; exact HS2.out, HB'.out⟩
  · have HE : Hid (checkE l p seq = goodM m) := by rw [Hid, checkE, ← HM.out, if_pos (by simpa using hg)]
    have HT : Hid (checkS l p seq = []) := by rw [Hid, checkS, HE.out, if_neg hg]
    have hg' : (goodM m != 0) = true := by simpa using hg
    have HB1 := hide hb1
    clear hb1
    generalize goodM m = G at *
    go_wp2
    exact bodyPost_ret (v := .tuple #[.slice none 0 0, .int .i64 G]) (by simp [results, Try.results9, go_sem]) rfl ⟨none, 0, by rw [HE.out, HT.out]; rfl, by rw [HT.out]; exact .inl rfl, HB1.out⟩

end Go.Proofs.Ytjnpndfpajjihac
