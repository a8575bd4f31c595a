/-
  The walks of slices.Clone at []string and at []api.Write.
  The texts that a place may have behind a crash, as plain data. Nothing of the program is proved here.
  The walks of the document's own answer: isAt, GoodDisk, after.
  The walk of the document's own ReadDisk.
-/
import Derived.Test.YtjnpndfpajjihabRead
import Derived.Lib.SliceRun
namespace Go.Proofs.Ytjnpndfpajjihab
open Go.RowKit

/-- Texts as cells; writes as cells. -/
def cellsS (ss : List ByteArray) : List Value := ss.map Value.string
def cellsW : List (Int × ByteArray) → List Value
  | [] => []
  | x :: r => .int .i64 x.1 :: .string x.2 :: cellsW r

theorem cellsS_length (ss : List ByteArray) : (cellsS ss).length = ss.length * 1 := by simp [cellsS]
theorem cellsW_length (ws : List (Int × ByteArray)) : (cellsW ws).length = ws.length * 2 := by
  induction ws with
  | nil => rfl
  | cons x r ih => simp [cellsW, ih]; omega
theorem cellsW_append (l r : List (Int × ByteArray)) : cellsW (l ++ r) = cellsW l ++ cellsW r := by
  induction l with
  | nil => rfl
  | cons x t ih => simp [cellsW, ih]
theorem cellsS_append (l r : List ByteArray) : cellsS (l ++ r) = cellsS l ++ cellsS r := by simp [cellsS]
theorem cellsS_one {ss : List ByteArray} : ∀ u ∈ cellsS ss, u.oneCell' = true := by
  intro u hu
  obtain ⟨s, _, rfl⟩ := List.mem_map.1 hu
  rfl
theorem cellsW_one (ws : List (Int × ByteArray)) : ∀ u ∈ cellsW ws, u.oneCell' = true := by
  induction ws with
  | nil => intro u hu; cases hu
  | cons x r ih =>
    intro u hu
    simp only [cellsW, List.mem_cons] at hu
    rcases hu with rfl | rfl | hu
    · rfl
    · rfl
    · exact ih u hu
theorem cellsS_at (ss : List ByteArray) (i : Nat) (h : i < ss.length) : (cellsS ss)[i]? = some (.string (ss.getD i ByteArray.empty)) := by
  rw [cellsS, List.getElem?_map, getD_some ss i ByteArray.empty h]; rfl
theorem cellsW_at (ws : List (Int × ByteArray)) (i : Nat) (h : i < ws.length) :
    (cellsW ws)[i * 2]? = some (.int .i64 (ws.getD i (0, ByteArray.empty)).1) ∧ (cellsW ws)[i * 2 + 1]? = some (.string (ws.getD i (0, ByteArray.empty)).2) := by
  induction ws generalizing i with
  | nil => simp at h
  | cons x r ih =>
    cases i with
    | zero => simp [cellsW]
    | succ k =>
      have := ih k (by simpa using h)
      rw [show (k + 1) * 2 = k * 2 + 1 + 1 from by omega]
      simpa [cellsW] using this

theorem SegS.news {w : World} {b off : Nat} {ss : List ByteArray} (h : ∀ i, i < ss.length → w.cell? ⟨b, off + i, none⟩ = some (.string (ss.getD i ByteArray.empty))) :
    ∀ j u, (cellsS ss)[j]? = some u → w.cell? ⟨b, off + j, none⟩ = some u := by
  intro j u hj
  have hlt : j < ss.length := by have := (List.getElem?_eq_some_iff.1 hj).1; simpa [cellsS] using this
  rw [h j hlt, ← cellsS_at ss j hlt, hj]
theorem SegW.news {w : World} {b off : Nat} {ws : List (Int × ByteArray)} (h : ∀ i, i < ws.length →
    w.cell? ⟨b, off + i * 2, none⟩ = some (.int .i64 (ws.getD i (0, ByteArray.empty)).1) ∧ w.cell? ⟨b, off + i * 2 + 1, none⟩ = some (.string (ws.getD i (0, ByteArray.empty)).2)) :
    ∀ j u, (cellsW ws)[j]? = some u → w.cell? ⟨b, off + j, none⟩ = some u := by
  intro j u hj
  have hlt : j < ws.length * 2 := by have := (List.getElem?_eq_some_iff.1 hj).1; rwa [cellsW_length] at this
  have hk : j / 2 < ws.length := by omega
  have e := cellsW_at ws (j / 2) hk
  have g := h (j / 2) hk
  rcases Nat.mod_two_eq_zero_or_one j with h0 | h0
  · have ej : j = j / 2 * 2 := by omega
    rw [ej] at hj ⊢
    rw [g.1, ← e.1, hj]
  · have ej : j = j / 2 * 2 + 1 := by omega
    rw [ej] at hj ⊢
    rw [show off + (j / 2 * 2 + 1) = off + j / 2 * 2 + 1 from by omega, g.2, ← e.2, hj]

/-- A slice of texts of the call's own is a row of texts. -/
theorem SegS.of_owns {w : World} {base n : Nat} {v : Value} {ss : List ByteArray} (h : w.ownsRow base 9 1 v n (cellsS ss)) : ∃ a c, v = .slice a ss.length c ∧ SegS w a ss ∧ ∀ b off, a = some ⟨b, off, none⟩ → base ≤ b := by
  have hn : ss.length = n := by have := h.1; rw [cellsS_length] at this; omega
  subst hn
  rcases h.2 with ⟨rfl, h0⟩ | ⟨g, cap, cur, rfl, hb, hg, rest⟩
  · exact ⟨none, 0, by rw [h0], .inl (List.eq_nil_of_length_eq_zero h0), fun _ _ h => by cases h⟩
  · refine ⟨_, cap, rfl, .inr ⟨g, 0, rfl, (Array.getElem?_eq_some_iff.1 hg).1, fun i hi => ?_⟩, fun _ _ h => by cases h; exact hb⟩
    rw [Nat.zero_add, h.cellAt i (by omega), cellsS_at ss i hi]
theorem SegW.of_owns {w : World} {base n : Nat} {v : Value} {ws : List (Int × ByteArray)} (h : w.ownsRow base 142 2 v n (cellsW ws)) : ∃ a c, v = .slice a ws.length c ∧ SegW w a ws ∧ ∀ b off, a = some ⟨b, off, none⟩ → base ≤ b := by
  have hn : ws.length = n := by have := h.1; rw [cellsW_length] at this; omega
  subst hn
  rcases h.2 with ⟨rfl, h0⟩ | ⟨g, cap, cur, rfl, hb, hg, rest⟩
  · exact ⟨none, 0, by rw [h0], .inl (List.eq_nil_of_length_eq_zero h0), fun _ _ h => by cases h⟩
  · refine ⟨_, cap, rfl, .inr ⟨g, 0, rfl, (Array.getElem?_eq_some_iff.1 hg).1, fun i hi => ?_⟩, fun _ _ h => by cases h; exact hb⟩
    have e := cellsW_at ws i hi
    rw [Nat.zero_add, h.cellAt (i * 2) (by omega), h.cellAt (i * 2 + 1) (by omega)]
    exact e

theorem infoS : (Try.prog.info? 9).map (fun i => (i.zero, i.size, i.bytes)) = some (some (.string ⟨#[]⟩), 1, 16) := by kernel_rfl
theorem infoW : (Try.prog.info? 142).map (fun i => (i.zero, i.size, i.bytes)) = some (some (.agg #[.int .i64 0, .string ⟨#[]⟩]), 2, 24) := by kernel_rfl

set_option maxHeartbeats 2000000 in
set_option maxRecDepth 100000 in
theorem cloneS_any (a : Option Addr) (c : Nat) (ss : List ByteArray) (w : World) (h : SegS w a ss) (hn : ss.length ≤ maxLen) (hbig : ss.length * 16 ≤ 140737488355328) :
    Calls Try.prog 162 #[.slice a ss.length c] w fun e w' => ∃ v', e = .returned v' ∧ w'.ownsRow w.heap.size 9 1 v' ss.length (cellsS ss) ∧ Below w.heap.size w w' := by
  have q22 : ∀ (w : World) (a : Option Addr) (n c n' c' : Nat), (binOp .eql 66 (.slice a n c) (.slice none n' c')).run Try.prog w = .ok (.bool a.isNone) w := fun w a n c n' c' => Lib.run_eql_slice_nil w _ _ a n c n' c' Try.underlying66
  obtain ⟨i0, hi, hz0, hz1, hz2⟩ := info_parts infoS
  rcases a with _ | ad
  · have h0 : ss = [] := by rcases h with h | ⟨b, off, he, _⟩; exact h; cases he
    subst h0
    go_enter Try.func162, Try.ntmps162
    go_wp2
    go_ret
    exact ⟨_, rfl, World.ownsRow_nil _ _ _ _, Below.refl _ _⟩
  · have A : Hid (∀ j u, (cellsS ss)[j]? = some u → w.cell? (ad.add j) = some u) := by
      rcases h with h | ⟨b, off, he, hlt, hc⟩
      · rw [h]; intro j u hj; simp [cellsS] at hj
      · intro j u hj
        cases he
        rw [Addr.add_lit]
        exact SegS.news hc j u hj
    clear h
    go_enter Try.func162, Try.ntmps162
    go_wp2_with (at_builtin; refine wpList_append_own _ rfl _ _ 66 rfl w.heap.size 9 i0 (.string ⟨#[]⟩) 1 16 Try.underlying66 hi hz0 hz1 hz2 rfl (by decide) _ _ _ rfl (World.ownsRow_made w #[] 0 (Nat.le_refl _) (Nat.zero_le _) (by simp)) ad ss.length c (cellsS ss) rfl ?qc1 ?qc2 ?qc3 ?qc4 ?qc5 ?qc6 ?_)
    case qc1 => exact cellsS_length ss
    case qc2 => intro j u hj; exact Lib.cell?_alloc_some _ (A.out j u hj)
    case qc3 => exact cellsS_one
    case qc4 => rw [Nat.zero_add]; exact hn
    case qc5 => rw [Nat.zero_add]; exact hbig
    case qc6 => simp
    intro v' w1 hown hgrow hnil
    have HO : Hid (w1.ownsRow w.heap.size 9 1 v' ss.length (cellsS ss)) := by unfold Hid; simpa using hown
    have HB : Hid (Below w.heap.size w w1) := (below1 w _).grown hgrow (by simp) (by intro k hk; simp [Value.ownBlock] at hk; omega)
    clear hown hgrow hnil
    go_wp2
    go_ret
    exact ⟨v', rfl, HO.out, HB.out⟩

set_option maxHeartbeats 2000000 in
set_option maxRecDepth 100000 in
theorem cloneW_any (a : Option Addr) (c : Nat) (ss : List (Int × ByteArray)) (w : World) (h : SegW w a ss) (hn : ss.length ≤ maxLen) (hbig : ss.length * 24 ≤ 140737488355328) :
    Calls Try.prog 161 #[.slice a ss.length c] w fun e w' => ∃ v', e = .returned v' ∧ w'.ownsRow w.heap.size 142 2 v' ss.length (cellsW ss) ∧ Below w.heap.size w w' := by
  have q22 : ∀ (w : World) (a : Option Addr) (n c n' c' : Nat), (binOp .eql 67 (.slice a n c) (.slice none n' c')).run Try.prog w = .ok (.bool a.isNone) w := fun w a n c n' c' => Lib.run_eql_slice_nil w _ _ a n c n' c' Try.underlying67
  obtain ⟨i0, hi, hz0, hz1, hz2⟩ := info_parts infoW
  rcases a with _ | ad
  · have h0 : ss = [] := by rcases h with h | ⟨b, off, he, _⟩; exact h; cases he
    subst h0
    go_enter Try.func161, Try.ntmps161
    go_wp2
    go_ret
    exact ⟨_, rfl, World.ownsRow_nil _ _ _ _, Below.refl _ _⟩
  · have A : Hid (∀ j u, (cellsW ss)[j]? = some u → w.cell? (ad.add j) = some u) := by
      rcases h with h | ⟨b, off, he, hlt, hc⟩
      · rw [h]; intro j u hj; simp [cellsW] at hj
      · intro j u hj
        cases he
        rw [Addr.add_lit]
        exact SegW.news hc j u hj
    clear h
    go_enter Try.func161, Try.ntmps161
    go_wp2_with (at_builtin; refine wpList_append_own _ rfl _ _ 67 rfl w.heap.size 142 i0 (.agg #[.int .i64 0, .string ⟨#[]⟩]) 2 24 Try.underlying67 hi hz0 hz1 hz2 rfl (by decide) _ _ _ rfl (World.ownsRow_made w #[] 0 (Nat.le_refl _) (Nat.zero_le _) (by simp)) ad ss.length c (cellsW ss) rfl ?qc1 ?qc2 ?qc3 ?qc4 ?qc5 ?qc6 ?_)
    case qc1 => exact cellsW_length ss
    case qc2 => intro j u hj; exact Lib.cell?_alloc_some _ (A.out j u hj)
    case qc3 => exact cellsW_one ss
    case qc4 => rw [Nat.zero_add]; exact hn
    case qc5 => rw [Nat.zero_add]; exact hbig
    case qc6 => simp
    intro v' w1 hown hgrow hnil
    have HO : Hid (w1.ownsRow w.heap.size 142 2 v' ss.length (cellsW ss)) := by unfold Hid; simpa using hown
    have HB : Hid (Below w.heap.size w w1) := (below1 w _).grown hgrow (by simp) (by intro k hk; simp [Value.ownBlock] at hk; omega)
    clear hown hgrow hnil
    go_wp2
    go_ret
    exact ⟨v', rfl, HO.out, HB.out⟩

end Go.Proofs.Ytjnpndfpajjihab

namespace Go.Proofs.Ytjnpndfpajjihab
open Go.RowKit

/-- The texts of these writes to a place. -/
def atPlace (n : Int) : List (Int × ByteArray) → List ByteArray
  | [] => []
  | x :: r => if x.1 = n then x.2 :: atPlace n r else atPlace n r
/-- The texts that a place may have: the safe one, and behind it those of its writes. -/
def waysTo (d : Dk) (n k : Nat) : List ByteArray := d.safe.getD n ByteArray.empty :: atPlace n (d.wr.take k)
def ways (d : Dk) (n : Nat) : List ByteArray := d.safe.getD n ByteArray.empty :: atPlace n d.wr

theorem atPlace_snoc (n : Int) (l : List (Int × ByteArray)) (x : Int × ByteArray) : atPlace n (l ++ [x]) = if x.1 = n then atPlace n l ++ [x.2] else atPlace n l := by
  induction l with
  | nil => simp [atPlace]
  | cons y r ih => by_cases h : y.1 = n <;> by_cases h' : x.1 = n <;> simp [atPlace, h, h'] <;> simpa [h'] using ih
theorem atPlace_length (n : Int) (l : List (Int × ByteArray)) : (atPlace n l).length ≤ l.length := by
  induction l with
  | nil => simp [atPlace]
  | cons y r ih => by_cases h : y.1 = n <;> simp [atPlace, h] <;> omega
theorem waysTo_hit (d : Dk) (n k : Nat) (x : Int × ByteArray) (h : d.wr[k]? = some x) (hx : x.1 = n) : waysTo d n (k + 1) = waysTo d n k ++ [x.2] := by
  rw [waysTo, List.take_add_one, h]
  simp only [Option.toList_some]
  rw [atPlace_snoc, if_pos hx]; rfl
theorem waysTo_miss (d : Dk) (n k : Nat) (x : Int × ByteArray) (h : d.wr[k]? = some x) (hx : ¬ x.1 = n) : waysTo d n (k + 1) = waysTo d n k := by
  rw [waysTo, List.take_add_one, h]
  simp only [Option.toList_some]
  rw [atPlace_snoc, if_neg hx]; rfl
theorem waysTo_length (d : Dk) (n k : Nat) (h : d.wr.length ≤ 200) : 1 ≤ (waysTo d n k).length ∧ (waysTo d n k).length ≤ 201 := by
  have := atPlace_length n (d.wr.take k)
  have h2 : (d.wr.take k).length ≤ d.wr.length := by rw [List.length_take]; omega
  simp only [waysTo, List.length_cons]
  omega


end Go.Proofs.Ytjnpndfpajjihab

namespace Go.Proofs.Ytjnpndfpajjihab
open Go.RowKit

set_option maxHeartbeats 400000 in
theorem isAt_any (n : Int) (w : World) :
    Calls Try.prog 146 #[.int .i64 n] w fun e w' => e = .returned (.bool (placeB n)) ∧ w = w' := by
  by_cases h0 : 0 ≤ n <;> by_cases h1 : n ≤ 36
  all_goals
    go_enter Try.func146, Try.ntmps146
    go_wp2
    go_ret
    refine ⟨?_, rfl⟩
    have e1 : decide (0 ≤ n) = decide (0 ≤ n) := rfl
    have e : placeB n = (decide (0 ≤ n) && decide (n ≤ 36)) := by
      rw [placeB]
      congr 1
      exact decide_eq_decide.2 (by omega)
    rw [e]
    simp [h0, h1]

set_option maxHeartbeats 2000000 in
set_option maxRecDepth 100000 in
theorem goodDisk_walk (a : Option Addr) (c : Nat) (a' : Option Addr) (c' : Nat) (d : Dk) (w : World) (hS : SegS w a d.safe) (hW : SegW w a' d.wr) (hn : d.safe.length ≤ maxLen) (hm : d.wr.length ≤ maxLen) :
    Calls Try.prog 145 #[.agg #[.slice a d.safe.length c, .slice a' d.wr.length c']] w fun e w' => e = .returned (.bool (goodB d)) ∧ Below w.heap.size w w' := by
  unfold maxLen at hn hm
  have HS := hide hS
  have HW := hide hW
  clear hS hW
  go_enter Try.func145, Try.ntmps145
  go_wp2
  go_loop [10] (fun i => ∃ k : Nat, k ≤ d.safe.length ∧ i = .int .i64 k ∧ Hid ((d.safe.take k).all fitsB = true)) (fun i => d.safe.length - (intOf i).toNat)
  case atStart => exact ⟨0, Nat.zero_le _, rfl, by simp [Hid]⟩
  case round =>
    obtain ⟨k, hk, rfl, hall⟩ := hrel
    by_cases hlt : k < d.safe.length
    · obtain ⟨b, off, rfl, hb, hc⟩ := HS.out.resolve_left (by intro e; rw [e] at hlt; simp at hlt)
      obtain ⟨s, hs⟩ : ∃ s, s = d.safe.getD k ByteArray.empty := ⟨_, rfl⟩
      have hck := hc k hlt
      have HX : Hid (d.safe[k]? = some s) := by rw [hs]; exact getD_some _ _ _ hlt
      rw [← hs] at hck
      clear hs hc
      have hlt' : (k : Int) < (d.safe.length : Int) := by omega
      by_cases hf : fitsB s = true
      · have hf1 : ((s.size : Int) != 32) = false := by simp only [fitsB] at hf; simp only [bne, hf]; rfl
        have HF := hide hf
        clear hf
        go_wp2
        go_round
        case rel => exact ⟨k + 1, by omega, by go_num, all_succ _ _ _ _ HX.out hall HF.out⟩
        case measure => simp [intOf]; omega
      · have hf' : fitsB s = false := by simpa using hf
        have hf1 : ((s.size : Int) != 32) = true := by simp only [fitsB] at hf'; simp only [bne, hf']; rfl
        have HF := hide hf'
        clear hf hf'
        go_wp2
        go_ret
        exact ⟨by rw [goodB, all_no _ _ _ _ HX.out HF.out]; simp, (Below.refl _ _).alloc (Nat.le_refl _) _⟩
    · have HA : Hid (d.safe.all fitsB = true) := by
        have e : k = d.safe.length := by omega
        have := hall.out
        rw [e, List.take_length] at this
        exact this
      clear hall
      go_wp2
      go_loopw [21] (fun i wr => ∃ k : Nat, k ≤ d.wr.length ∧ i = .int .i64 k ∧ Hid ((d.wr.take k).all wrB = true) ∧ wr.cell? ⟨w.heap.size, 0, none⟩ = some (.slice a d.safe.length c) ∧ wr.cell? ⟨w.heap.size, 1, none⟩ = some (.slice a' d.wr.length c') ∧ w.heap.size < wr.heap.size ∧ Below w.heap.size w wr) (fun i _ => d.wr.length - (intOf i).toNat)
      case atStart => exact ⟨0, Nat.zero_le _, rfl, by simp [Hid], by simp [go_sem], by simp [go_sem], by simp, (Below.refl _ _).alloc (Nat.le_refl _) _⟩
      case round =>
        obtain ⟨j, hj, rfl, hall, hx0, hx1, hsz, hbel⟩ := hrel
        by_cases hlj : j < d.wr.length
        · obtain ⟨b', off', rfl, hb', hcw⟩ := HW.out.resolve_left (by intro e; rw [e] at hlj; simp at hlj)
          obtain ⟨x, hx⟩ : ∃ x, x = d.wr.getD j (0, ByteArray.empty) := ⟨_, rfl⟩
          obtain ⟨hc1, hc2⟩ := hcw j hlj
          rw [← hx] at hc1 hc2
          have HX : Hid (d.wr[j]? = some x) := by rw [hx]; exact getD_some _ _ _ hlj
          clear hx hcw
          have g1 := cellKeep hbel hb' hc1
          have g2 := cellKeep hbel hb' hc2
          clear hc1 hc2
          obtain ⟨n, s⟩ := x
          have hlj' : (j : Int) < (d.wr.length : Int) := by omega
          cases hf : fitsB s with
          | false =>
            have hf1 : ((s.size : Int) != 32) = true := by simp only [fitsB] at hf; simp only [bne, hf]; rfl
            have hno : wrB (n, s) = false := by simp [wrB, hf]
            have HNO := hide hno
            clear hf hno
            go_wp2
            go_ret
            exact ⟨by rw [goodB, all_no _ _ _ _ HX.out HNO.out]; simp, hbel.alloc (by omega) _⟩
          | true =>
            have hf1 : ((s.size : Int) != 32) = false := by simp only [fitsB] at hf; simp only [bne, hf]; rfl
            cases hp : placeB n with
            | false =>
              have hno : wrB (n, s) = false := by simp [wrB, hp]
              have HNO := hide hno
              clear hf hno
              go_wp2_with (go_at_call 146; refine (isAt_any _ _).mono ?_; rintro e w' ⟨rfl, rfl⟩)
              go_ret
              exact ⟨by rw [goodB, all_no _ _ _ _ HX.out HNO.out]; simp, hbel.alloc (by omega) _⟩
            | true =>
              have hyes : wrB (n, s) = true := by simp [wrB, hp, hf]
              have HY := hide hyes
              clear hf hyes
              go_wp2_with (go_at_call 146; refine (isAt_any _ _).mono ?_; rintro e w' ⟨rfl, rfl⟩)
              go_roundw
              case rel =>
                refine ⟨j + 1, by omega, by go_num, all_succ _ _ _ _ HX.out hall HY.out, ?_, ?_, by simp; omega, hbel.alloc (by omega) _⟩
                · exact cellKeep (below1 _ _) hsz hx0
                · exact cellKeep (below1 _ _) hsz hx1
              case measure => simp [intOf]; omega
        · have HB : Hid (d.wr.all wrB = true) := by
            have e : j = d.wr.length := by omega
            have := hall.out
            rw [e, List.take_length] at this
            exact this
          clear hall
          by_cases h37 : d.safe.length = 37
          · have h37' : ((d.safe.length : Int) == 37) = true := by simp; omega
            have H37 := hide h37
            clear h37
            go_wp2
            go_ret
            refine ⟨?_, hbel⟩
            rw [goodB, HA.out, HB.out, H37.out]
            simp
            omega
          · have h37' : ((d.safe.length : Int) == 37) = false := by simp; omega
            have H37 := hide h37
            clear h37
            go_wp2
            go_ret
            refine ⟨?_, hbel⟩
            rw [goodB]
            simp [H37.out]

/-- wastebookref.GoodDisk answers whether it is a disk. -/
theorem goodDisk_any (v : Value) (d : Dk) (w : World) (h : IsDk w v d) :
    Calls Try.prog 145 #[v] w fun e w' => e = .returned (.bool (goodB d)) ∧ Below w.heap.size w w' := by
  obtain ⟨a, c, a', c', rfl, hs, hw, h1, h2⟩ := h
  exact goodDisk_walk a c a' c' d w hs hw h1 h2

set_option maxHeartbeats 2000000 in
set_option maxRecDepth 100000 in
theorem after_walk (b off c : Nat) (a' : Option Addr) (c' : Nat) (d : Dk) (n : Nat) (w : World) (hn : d.safe.length = 37) (hp : n < 37) (hm : d.wr.length ≤ 200) (hb : b < w.heap.size)
    (hc : ∀ i, i < d.safe.length → w.cell? ⟨b, off + i, none⟩ = some (.string (d.safe.getD i ByteArray.empty))) (hw : SegW w a' d.wr) :
    Calls Try.prog 147 #[.agg #[.slice (some ⟨b, off, none⟩) 37 c, .slice a' d.wr.length c'], .int .i64 n] w fun e w' => ∃ v', e = .returned v' ∧ w'.ownsRow w.heap.size 9 1 v' (ways d n).length (cellsS (ways d n)) ∧ Below w.heap.size w w' := by
  have HW := hide hw
  obtain ⟨z, hz⟩ : ∃ z, z = d.safe.getD n ByteArray.empty := ⟨_, rfl⟩
  have hcn := hc n (by omega)
  rw [← hz] at hcn
  have hp' : (n : Int) < 37 := by omega
  have H0 : Hid (waysTo d n 0 = [z]) := by rw [hz]; rfl
  clear hn hw hc hz
  obtain ⟨i0, hi, hz0, hz1, hz2⟩ := info_parts infoS
  go_enter Try.func147, Try.ntmps147
  go_wp2
  go_loopw [5, 17] (fun v i wr => ∃ k : Nat, k ≤ d.wr.length ∧ i = .int .i64 k ∧ Hid (wr.ownsRow w.heap.size 9 1 v (waysTo d n k).length (cellsS (waysTo d n k))) ∧ Below w.heap.size w wr) (fun _ i _ => d.wr.length - (intOf i).toNat)
  case atStart =>
    refine ⟨0, Nat.zero_le _, rfl, ?_, bthen (below1 _ _) (below1 _ _)⟩
    rw [H0.out]
    have h := World.ownsRow_lit (e := 9) (size := 1) (w.alloc (Obj.cells #[.slice (some ⟨b, off, none⟩) 37 c, .slice a' d.wr.length c'] 69)) #[.string z] 1 (below1 w _).size (by decide) rfl
    unfold Hid
    simpa [cellsS] using h
  case round =>
    obtain ⟨k, hk, rfl, hown, hbr⟩ := hrel
    have hsr := hbr.size
    by_cases hlt : k < d.wr.length
    · obtain ⟨b', off', rfl, hb', hcw⟩ := HW.out.resolve_left (by intro e; rw [e] at hlt; simp at hlt)
      obtain ⟨x, hx⟩ : ∃ x, x = d.wr.getD k (0, ByteArray.empty) := ⟨_, rfl⟩
      obtain ⟨hc1, hc2⟩ := hcw k hlt
      rw [← hx] at hc1 hc2
      have HX : Hid (d.wr[k]? = some x) := by rw [hx]; exact getD_some _ _ _ hlt
      clear hx hcw
      have g1 := cellKeep hbr hb' hc1
      have g2 := cellKeep hbr hb' hc2
      clear hc1 hc2
      have hl := waysTo_length d n k hm
      obtain ⟨m, s⟩ := x
      by_cases he : m = n
      · have he' : (m == (n : Int)) = true := by rw [he]; simp
        have HE : Hid (waysTo d n (k + 1) = waysTo d n k ++ [s]) := waysTo_hit d n k (m, s) HX.out he
        clear he
        go_wp2_with (at_builtin; refine wpList_append_own _ rfl _ _ 66 rfl w.heap.size 9 i0 (.string ⟨#[]⟩) 1 16 Try.underlying66 hi hz0 hz1 hz2 rfl (by decide) _ _ _ rfl ((hown.out.alloc _).alloc _) ⟨wr.heap.size + 1, 0, none⟩ 1 1 (cellsS [s]) rfl ?qc1 ?qc2 ?qc3 ?qc4 ?qc5 ?qc6 ?_)
        case qc1 => rfl
        case qc2 =>
          intro j u hj
          match j, hj with
          | 0, hj => simp [cellsS] at hj; subst hj; simp [go_sem]
        case qc3 => exact cellsS_one
        case qc4 => unfold maxLen; omega
        case qc5 => omega
        case qc6 => omega
        intro v4 w4 hown4 hgrow4 _
        have hb4 : Below w.heap.size w w4 := ((hbr.alloc hsr _).alloc (by simp; omega) _).grown hgrow4 (by simp; omega) (fun k hk => (hown.out.lt k hk).1)
        rw [← cellsS_append, ← HE.out] at hown4
        have hlen : (waysTo d n k).length + 1 = (waysTo d n (k + 1)).length := by rw [HE.out]; simp
        rw [hlen] at hown4
        have HO := hide hown4
        clear hown4 hgrow4 hown hbr
        go_wp2
        go_roundw
        case rel => exact ⟨k + 1, by omega, by go_num, HO, hb4⟩
        case measure => simp [intOf]; omega
      · have he' : (m == (n : Int)) = false := by simpa using he
        have HE : Hid (waysTo d n (k + 1) = waysTo d n k) := waysTo_miss d n k (m, s) HX.out he
        have HO := hide (hown.out.alloc (Obj.cells #[Value.int IntKind.i64 m, Value.string s] 142))
        clear he hown
        go_wp2
        go_roundw
        case rel => exact ⟨k + 1, by omega, by go_num, by rw [HE.out]; exact HO, hbr.alloc hsr _⟩
        case measure => simp [intOf]; omega
    · have e : k = d.wr.length := by omega
      have hw' : waysTo d n k = ways d n := by rw [e, waysTo, List.take_length]; rfl
      rw [hw'] at hown
      clear hw' e
      go_wp2
      go_ret
      exact ⟨_, rfl, hown.out, hbr⟩

/-- wastebookref.after: the texts that a place may have. -/
theorem after_any (v : Value) (d : Dk) (n : Nat) (w : World) (h : IsDk w v d) (hn : d.safe.length = 37) (hp : n < 37) (hm : d.wr.length ≤ 200) :
    Calls Try.prog 147 #[v, .int .i64 n] w fun e w' => ∃ v', e = .returned v' ∧ w'.ownsRow w.heap.size 9 1 v' (ways d n).length (cellsS (ways d n)) ∧ Below w.heap.size w w' := by
  obtain ⟨a, c, a', c', rfl, hs, hw, h1, h2⟩ := h
  obtain ⟨b, off, rfl, hb, hc⟩ := hs.resolve_left (by intro e; rw [e] at hn; simp at hn)
  have := after_walk b off c a' c' d n w hn hp hm hb hc hw
  rw [← hn] at this
  exact this


end Go.Proofs.Ytjnpndfpajjihab

namespace Go.Proofs.Ytjnpndfpajjihab
open Go.RowKit

theorem lastIn_ways (n : Int) (z : ByteArray) (l : List (Int × ByteArray)) : (z :: atPlace n l).getD (atPlace n l).length ByteArray.empty = lastIn n z l := by
  induction l generalizing z with
  | nil => rfl
  | cons x r ih =>
    by_cases h : x.1 = n
    · simp only [atPlace, lastIn, if_pos h, List.length_cons]
      exact ih x.2
    · simp only [atPlace, lastIn, if_neg h]
      exact ih z

/-- The last of the texts that a place may have is the one that it has. -/
theorem ways_last (d : Dk) (n : Nat) : (ways d n).getD ((ways d n).length - 1) ByteArray.empty = lastOf d n := by
  have := lastIn_ways n (d.safe.getD n ByteArray.empty) d.wr
  rw [ways, List.length_cons, Nat.add_sub_cancel, this, lastOf, Int.toNat_natCast]

set_option maxHeartbeats 1000000 in
theorem readDisk_any (v : Value) (d : Dk) (n : Int) (w : World) (h : IsDk w v d) :
    Calls Try.prog 97 #[v, .int .i64 n] w fun e w' => e = .returned (.tuple #[.string (readT d n), .int .i64 (readE d n)]) ∧ Below w.heap.size w w' := by
  have HI : Hid (IsDk w v d) := h
  obtain ⟨a, c, a', c', rfl, _, _, _, _⟩ := h
  by_cases hg : goodB d = true
  · by_cases hp : placeB n = true
    · have HT : Hid (readT d n = lastOf d n ∧ readE d n = 0) := by simp [Hid, readT, readE, hg, hp]
      obtain ⟨k, rfl, hk⟩ := place_nat hp
      go_enter Try.func97, Try.ntmps97
      go_wp2_with fail
      refine (goodDisk_any _ d _ (HI.out.below (below1 _ _))).mono ?_
      rintro e w1 ⟨rfl, hb1⟩
      obtain ⟨hc1, hf1⟩ := bcell hb1
      have hs1 : w.heap.size < w1.heap.size := by have := hb1.size; simp at this; omega
      go_wp2_with fail
      refine (isAt_any _ _).mono ?_
      rintro e w2 ⟨rfl, rfl⟩
      go_wp2_with fail
      have hb2 := bthen (below1 _ _) hb1
      refine (after_any _ d k _ (HI.out.below hb2) (good_len37 hg).1 hk (good_len37 hg).2).mono ?_
      rintro e w3 ⟨v3, rfl, hown, hb3⟩
      have HB : Hid (Below w.heap.size w w3) := bthen hb2 hb3
      obtain ⟨a3, c3, hv3, hS3, _⟩ := SegS.of_owns hown
      have hL : 1 ≤ (ways d k).length ∧ (ways d k).length ≤ 201 := by
        have := waysTo_length d k d.wr.length (good_len37 hg).2
        rw [waysTo, List.take_length] at this
        exact this
      obtain ⟨b3, o3, ha3, _, hc3⟩ := hS3.resolve_left (by intro e; rw [e] at hL; simp at hL)
      have hct := hc3 ((ways d k).length - 1) (by omega)
      rw [ways_last] at hct
      obtain ⟨L, hLe⟩ : ∃ L, (ways d k).length = L + 1 := ⟨(ways d k).length - 1, by omega⟩
      rw [hLe] at hv3 hL hct
      rw [Nat.add_sub_cancel] at hct
      rw [hv3, ha3]
      clear hb1 hb2 hb3 hc1 hf1 hown hS3 hc3 hv3 ha3 hLe
      go_wp2
      go_ret2
      exact ⟨by rw [HT.out.1, HT.out.2]; rfl, HB.out⟩
    · have HT : Hid (readT d n = ByteArray.empty ∧ readE d n = 2) := by simp [Hid, readT, readE, hp]
      have hp' : placeB n = false := by simpa using hp
      clear hp
      go_enter Try.func97, Try.ntmps97
      go_wp2_with fail
      refine (goodDisk_any _ d _ (HI.out.below (below1 _ _))).mono ?_
      rintro e w1 ⟨rfl, hb1⟩
      go_wp2_with fail
      refine (isAt_any _ _).mono ?_
      rintro e w2 ⟨rfl, rfl⟩
      have HB : Hid (Below w.heap.size w w1) := bthen (below1 _ _) hb1
      clear hb1
      go_wp2
      go_ret2
      exact ⟨by rw [HT.out.1, HT.out.2]; rfl, HB.out⟩
  · have HT : Hid (readT d n = ByteArray.empty ∧ readE d n = 2) := by simp [Hid, readT, readE, hg]
    have hg' : goodB d = false := by simpa using hg
    clear hg
    go_enter Try.func97, Try.ntmps97
    go_wp2_with fail
    refine (goodDisk_any _ d _ (HI.out.below (below1 _ _))).mono ?_
    rintro e w1 ⟨rfl, hb1⟩
    have HB : Hid (Below w.heap.size w w1) := bthen (below1 _ _) hb1
    clear hb1
    go_wp2
    go_ret2
    exact ⟨by rw [HT.out.1, HT.out.2]; rfl, HB.out⟩

end Go.Proofs.Ytjnpndfpajjihab
