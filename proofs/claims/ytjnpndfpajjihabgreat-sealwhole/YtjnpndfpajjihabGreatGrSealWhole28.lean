/-
  The walks of package seal's write, flush and home.
  A row of numbers that is filled one by one. Nothing of the program is proved here.
  The walk of package ring's Most, and of what it calls.
-/
import Derived.Test.YtjnpndfpajjihabGreatERows
import Derived.Test.YtjnpndfpajjihabGreatGrSealWhole0
import Derived.Test.YtjnpndfpajjihabGreatGrSealWhole4
import Derived.Laws.OwnMore
import Derived.Test.YtjnpndfpajjihabGreatGrSealWhole1
namespace Go.Proofs.YtjnpndfpajjihabGreat
open Go.RowKit

set_option maxHeartbeats 400000 in
theorem write_any (p : Int) (s : ByteArray) (w : World) :
    Calls Tryz.prog 64 #[.int .i64 p, .string s] w fun e w' => e = .returned (.agg #[.int .i64 1, .int .i64 p, .string s]) ∧ Below w.heap.size w w' := by
  go_enter Tryz.func64, Tryz.ntmps64
  go_wp2
  exact bodyPost_ret (v := .agg #[.int .i64 1, .int .i64 p, .string s]) (by simp [results, Tryz.results64, go_sem]) rfl ⟨rfl, below1 _ _⟩
set_option maxHeartbeats 400000 in
theorem flush1_any (w : World) :
    Calls Tryz.prog 62 #[] w fun e w' => e = .returned (.agg #[.int .i64 2, .int .i64 0, .string ⟨#[]⟩]) ∧ Below w.heap.size w w' := by
  go_enter Tryz.func62, Tryz.ntmps62
  go_wp2
  exact bodyPost_ret (v := .agg #[.int .i64 2, .int .i64 0, .string ⟨#[]⟩]) (by simp [results, Tryz.results62, go_sem]) rfl ⟨rfl, below1 _ _⟩

/-- The steps by which copies go home. -/
def homeM (l : List (Int × ByteArray)) : List St := l.map fun c => writeS (25 + c.1) c.2
def homeS (l : List (Int × ByteArray)) : List St := homeM l ++ (if l.length = 0 then [] else [flushS])
theorem homeM_length (l : List (Int × ByteArray)) : (homeM l).length = l.length := by simp [homeM]
theorem homeM_snoc {l : List (Int × ByteArray)} {k : Nat} {x : Int × ByteArray} (h : l[k]? = some x) : homeM (l.take (k + 1)) = homeM (l.take k) ++ [writeS (25 + x.1) x.2] := by
  rw [List.take_add_one, h, homeM, homeM, List.map_append]; rfl

set_option maxHeartbeats 2000000 in
set_option maxRecDepth 100000 in
theorem home_any (a : Option Addr) (c : Nat) (l : List (Int × ByteArray)) (w : World) (h : SegW w a l) (hn : l.length * 24 ≤ 140737488355328) (hb : ∀ x ∈ l, 0 ≤ x.1 ∧ x.1 ≤ 11) :
    Calls Tryz.prog 60 #[.slice a l.length c] w fun e w' => ∃ v', e = .returned v' ∧ w'.ownsRow w.heap.size 97 3 v' (homeS l).length (cellsSt (homeS l)) ∧ Below w.heap.size w w' := by
  have HS := hide h
  have HBD := hide hb
  clear h hb
  go_enter Tryz.func60, Tryz.ntmps60
  go_wp2
  go_loopw [3, 8] (fun s i wr => ∃ k : Nat, k ≤ l.length ∧ i = .int .i64 k ∧ Hid (wr.ownsRow w.heap.size 97 3 s (homeM (l.take k)).length (cellsSt (homeM (l.take k)))) ∧ Hid (Below w.heap.size w wr)) (fun _ i _ => l.length - (intOf i).toNat)
  case atStart => exact ⟨0, Nat.zero_le _, rfl, World.ownsRow_nil _ _ _ _, Below.refl _ _⟩
  case round =>
    obtain ⟨k, hk, rfl, hown, hbr⟩ := hrel
    by_cases hlt : k < l.length
    · obtain ⟨b2, off, rfl, hb, hc⟩ := HS.out.resolve_left (by intro e; rw [e] at hlt; simp at hlt)
      obtain ⟨x, hx⟩ : ∃ x, x = l.getD k (0, ByteArray.empty) := ⟨_, rfl⟩
      obtain ⟨hc1, hc2⟩ := hc k hlt
      rw [← hx] at hc1 hc2
      have HX : l[k]? = some x := by rw [hx]; exact getD_at _ _ _ hlt
      have hbd := HBD.out x (List.mem_of_getElem? HX)
      have g1 := cellKeep hbr.out hb hc1
      have g2 := cellKeep hbr.out hb hc2
      have HT := hide (homeM_snoc HX)
      have hq : (homeM (l.take k)).length ≤ k := by rw [homeM_length, List.length_take]; omega
      have hlt' : (k : Int) < (l.length : Int) := by omega
      clear hx hc hc1 hc2 HX
      obtain ⟨n, s⟩ := x
      obtain ⟨hb0, hb1⟩ : 0 ≤ n ∧ n ≤ 11 := hbd
      generalize homeM (l.take k) = q at *
      go_wp2_with fail
      refine (write_any (25 + n) s _).mono ?_
      rintro e w3 ⟨rfl, hb3⟩
      have HB3 := hide (bthen (bthen hbr.out (below1 _ _)) hb3)
      have HO3 := hide (owns_keep (owns_keep hown.out (below1 _ _)) hb3)
      clear hb3 hown hbr g1 g2
      go_wp2_with (at_builtin; refine wpList_appSt rfl _ _ rfl w.heap.size _ q rfl (owns_keep HO3.out (below1 _ _)) w3.heap.size (writeS (25 + n) s) rfl (by simp [go_sem, writeS]) (by simp [go_sem, writeS]) (by simp [go_sem, writeS]) (by omega) (Nat.le_trans HB3.out.size (by simp)) ?_)
      intro v' w' hown' hg'
      have hB' : Below w.heap.size w w' := (HB3.out.alloc HB3.out.size _).grown hg' (Nat.le_trans HB3.out.size (by simp)) (fun j hj => (HO3.out.lt j hj).1)
      go_wp2
      go_roundw
      case rel => exact ⟨k + 1, by omega, by go_num, by rw [HT.out]; exact hown', hB'⟩
      case measure => simp [intOf]; omega
    · have e : k = l.length := by omega
      subst e
      rw [List.take_length] at hown
      by_cases h0 : l.length = 0
      · have HE : Hid (homeS l = homeM l) := by rw [Hid, homeS, if_pos h0, List.append_nil]
        have h0' : ¬ ((0 : Int) < (l.length : Int)) := by omega
        go_wp2
        go_ret
        exact ⟨_, rfl, by rw [HE.out]; exact hown.out, hbr.out⟩
      · have HE : Hid (homeS l = homeM l ++ [flushS]) := by rw [Hid, homeS, if_neg h0]
        have h0' : (0 : Int) < (l.length : Int) := by omega
        have hq : (homeM l).length ≤ l.length := by rw [homeM_length]; omega
        generalize homeM l = q at *
        go_wp2_with fail
        refine (flush1_any _).mono ?_
        rintro e w3 ⟨rfl, hb3⟩
        have HB3 := hide (bthen hbr.out hb3)
        have HO3 := hide (owns_keep hown.out hb3)
        clear hb3 hown hbr
        go_wp2_with (at_builtin; refine wpList_appSt rfl _ _ rfl w.heap.size _ q rfl (owns_keep HO3.out (below1 _ _)) w3.heap.size flushS rfl (by simp [go_sem, flushS]) (by simp [go_sem, flushS]) (by simp [go_sem, flushS]) (by omega) (Nat.le_trans HB3.out.size (by simp)) ?_)
        intro v' w' hown' hg'
        have hB' : Below w.heap.size w w' := (HB3.out.alloc HB3.out.size _).grown hg' (Nat.le_trans HB3.out.size (by simp)) (fun j hj => (HO3.out.lt j hj).1)
        go_wp2
        go_ret
        exact ⟨_, rfl, by rw [HE.out]; exact hown', hB'⟩

end Go.Proofs.YtjnpndfpajjihabGreat

namespace Go.Proofs.YtjnpndfpajjihabGreat
open Go.RowKit

/-- A row of numbers of which the first are filled. -/
def fillI (l : List Int) (m : Nat) : List Value := cellsI l ++ List.replicate m (.int .i64 0)
theorem fillI_set (l : List Int) (m : Nat) (x : Int) : (fillI l (m + 1)).set l.length (.int .i64 x) = fillI (l ++ [x]) m := by
  have hl : (cellsI l).length = l.length := by simp [cellsI]
  rw [fillI, List.set_append_right _ _ (by omega), hl, Nat.sub_self, List.replicate_succ, List.set_cons_zero, fillI, cellsI_append, List.append_assoc]
  rfl
theorem fillI_full (l : List Int) : fillI l 0 = cellsI l := by simp [fillI]
theorem fillI_none (m : Nat) : fillI [] m = List.replicate m (.int .i64 0) := rfl
theorem fillI_at (l : List Int) (m k : Nat) (h : k < l.length + m) : ∃ u, (fillI l m)[k]? = some u := by
  have : k < (fillI l m).length := by simp [fillI, cellsI]; omega
  exact ⟨_, List.getElem?_eq_getElem this⟩
theorem fillI_step {w : World} {base g n : Nat} {l : List Int} {m : Nat} (h : w.ownsRow base 3 1 (.slice (some ⟨g, 0, none⟩) n n) n (fillI l (m + 1))) (x : Int) :
    (w.setCell ⟨g, l.length, none⟩ (.int .i64 x)).ownsRow base 3 1 (.slice (some ⟨g, 0, none⟩) n n) n (fillI (l ++ [x]) m) := by
  have := (h.stored l.length (.int .i64 x)).1
  rwa [fillI_set] at this
theorem fillI_cell {w : World} {base g n : Nat} {l : List Int} {m : Nat} (h : w.ownsRow base 3 1 (.slice (some ⟨g, 0, none⟩) n n) n (fillI l (m + 1))) :
    (∃ u, w.cell? ⟨g, l.length, none⟩ = some u) ∧ w.frozen? ⟨g, l.length, none⟩ = false ∧ base ≤ g ∧ g < w.heap.size ∧ l.length + (m + 1) = n := by
  have hlen : l.length + (m + 1) = n := by have := h.1; simp [fillI, cellsI] at this; omega
  obtain ⟨u, hu⟩ := fillI_at l (m + 1) l.length (by omega)
  have hlt := h.lt g rfl
  exact ⟨⟨u, by rw [h.cellAt _ (by omega)]; exact hu⟩, h.frozenAt _, hlt.1, hlt.2, hlen⟩

theorem madeI (n : Nat) (h : n ≤ 17592186044416) (w : World) : (Instr.makeSlice 23 (.int .i64 n) (.int .i64 n)).run Tryz.prog w = .ok (.slice (some ⟨w.heap.size, 0, none⟩) n n) (w.alloc (.cells (fillI [] n).toArray 3)) := by
  obtain ⟨i0, hi, hz0, hz1, hz2⟩ := info_parts infoI
  have hr := run_make (P := Tryz.prog) w 23 3 i0 (.int .i64 0) Tryz.underlying23 hi hz0 .i64 .i64 n n (by omega) (by omega) (by rw [hz2]; omega) (by omega)
  have e : madeCells (Value.cells (.int .i64 0)) n = (fillI [] n).toArray := by
    apply Array.toList_inj.1
    rw [show Value.cells (.int .i64 0) = #[.int .i64 0] from rfl, toList_madeCells_one, fillI_none]
  rw [hr, hz1, Int.toNat_natCast, Nat.mul_one, e]

theorem madeI_owns (n : Nat) (h : n ≤ 17592186044416) (w : World) (base : Nat) (hb : base ≤ w.heap.size) : (w.alloc (.cells (fillI [] n).toArray 3)).ownsRow base 3 1 (.slice (some ⟨w.heap.size, 0, none⟩) n n) n (fillI [] n) := by
  have := World.ownsRow_lit (e := 3) (size := 1) w (fillI [] n).toArray n hb (by unfold maxLen; omega) (by simp [fillI, cellsI])
  simpa using this

end Go.Proofs.YtjnpndfpajjihabGreat

namespace Go.Proofs.YtjnpndfpajjihabGreat
open Go.RowKit

theorem mostN_eq (n : Int) : mostN n = clampN n + (clampN n + 9) / 10 + (clampN n + 19) / 20 + 1 := by
  have : 0 ≤ clampN n ∧ clampN n ≤ 24 := by unfold clampN; split <;> (try split) <;> omega
  unfold mostN
  split <;> split <;> split <;> omega
end Go.Proofs.YtjnpndfpajjihabGreat
