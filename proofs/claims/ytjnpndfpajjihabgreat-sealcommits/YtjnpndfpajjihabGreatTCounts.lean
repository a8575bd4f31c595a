/-
  Twelve counters, as an array of numbers. Nothing of the program is proved here.
  The walk of the document's own GoodTxn.
-/
import Derived.Test.YtjnpndfpajjihabGreatTApart
import Derived.Test.YtjnpndfpajjihabGreatTGood
import Derived.Test.YtjnpndfpajjihabGreatRising
namespace Go.Proofs.YtjnpndfpajjihabGreat
open Go.RowKit

/-- How often a number is in a list, as a value; of all twelve. -/
def cv (l : List Int) (i : Int) : Value := .int .i64 ((l.count i : Nat) : Int)
def cnt12 (l : List Int) : Array Value := #[cv l 0, cv l 1, cv l 2, cv l 3, cv l 4, cv l 5, cv l 6, cv l 7, cv l 8, cv l 9, cv l 10, cv l 11]
theorem cnt12_at (l : List Int) (m : Nat) (h : m < 12) : (cnt12 l)[m]? = some (cv l m) := by
  match m, h with
  | 0, _ => rfl
  | 1, _ => rfl
  | 2, _ => rfl
  | 3, _ => rfl
  | 4, _ => rfl
  | 5, _ => rfl
  | 6, _ => rfl
  | 7, _ => rfl
  | 8, _ => rfl
  | 9, _ => rfl
  | 10, _ => rfl
  | 11, _ => rfl
  | n + 12, h => omega
theorem count_same (l : List Int) (m : Int) : cv (l ++ [m]) m = .int .i64 (((l.count m : Nat) : Int) + 1) := by
  simp [cv]
theorem count_other (l : List Int) (m i : Int) (h : m ≠ i) : cv (l ++ [m]) i = cv l i := by
  simp [cv, List.count_append, h]
theorem cnt12_set (l : List Int) (m : Nat) (h : m < 12) : (cnt12 l).setIfInBounds m (.int .i64 (((l.count (m : Int) : Nat) : Int) + 1)) = cnt12 (l ++ [(m : Int)]) := by
  rw [← count_same]
  match m, h with
  | 0, _ => simp [cnt12, count_other l 0 1 (by decide), count_other l 0 2 (by decide), count_other l 0 3 (by decide), count_other l 0 4 (by decide), count_other l 0 5 (by decide), count_other l 0 6 (by decide), count_other l 0 7 (by decide), count_other l 0 8 (by decide), count_other l 0 9 (by decide), count_other l 0 10 (by decide), count_other l 0 11 (by decide)]
  | 1, _ => simp [cnt12, count_other l 1 0 (by decide), count_other l 1 2 (by decide), count_other l 1 3 (by decide), count_other l 1 4 (by decide), count_other l 1 5 (by decide), count_other l 1 6 (by decide), count_other l 1 7 (by decide), count_other l 1 8 (by decide), count_other l 1 9 (by decide), count_other l 1 10 (by decide), count_other l 1 11 (by decide)]
  | 2, _ => simp [cnt12, count_other l 2 0 (by decide), count_other l 2 1 (by decide), count_other l 2 3 (by decide), count_other l 2 4 (by decide), count_other l 2 5 (by decide), count_other l 2 6 (by decide), count_other l 2 7 (by decide), count_other l 2 8 (by decide), count_other l 2 9 (by decide), count_other l 2 10 (by decide), count_other l 2 11 (by decide)]
  | 3, _ => simp [cnt12, count_other l 3 0 (by decide), count_other l 3 1 (by decide), count_other l 3 2 (by decide), count_other l 3 4 (by decide), count_other l 3 5 (by decide), count_other l 3 6 (by decide), count_other l 3 7 (by decide), count_other l 3 8 (by decide), count_other l 3 9 (by decide), count_other l 3 10 (by decide), count_other l 3 11 (by decide)]
  | 4, _ => simp [cnt12, count_other l 4 0 (by decide), count_other l 4 1 (by decide), count_other l 4 2 (by decide), count_other l 4 3 (by decide), count_other l 4 5 (by decide), count_other l 4 6 (by decide), count_other l 4 7 (by decide), count_other l 4 8 (by decide), count_other l 4 9 (by decide), count_other l 4 10 (by decide), count_other l 4 11 (by decide)]
  | 5, _ => simp [cnt12, count_other l 5 0 (by decide), count_other l 5 1 (by decide), count_other l 5 2 (by decide), count_other l 5 3 (by decide), count_other l 5 4 (by decide), count_other l 5 6 (by decide), count_other l 5 7 (by decide), count_other l 5 8 (by decide), count_other l 5 9 (by decide), count_other l 5 10 (by decide), count_other l 5 11 (by decide)]
  | 6, _ => simp [cnt12, count_other l 6 0 (by decide), count_other l 6 1 (by decide), count_other l 6 2 (by decide), count_other l 6 3 (by decide), count_other l 6 4 (by decide), count_other l 6 5 (by decide), count_other l 6 7 (by decide), count_other l 6 8 (by decide), count_other l 6 9 (by decide), count_other l 6 10 (by decide), count_other l 6 11 (by decide)]
  | 7, _ => simp [cnt12, count_other l 7 0 (by decide), count_other l 7 1 (by decide), count_other l 7 2 (by decide), count_other l 7 3 (by decide), count_other l 7 4 (by decide), count_other l 7 5 (by decide), count_other l 7 6 (by decide), count_other l 7 8 (by decide), count_other l 7 9 (by decide), count_other l 7 10 (by decide), count_other l 7 11 (by decide)]
  | 8, _ => simp [cnt12, count_other l 8 0 (by decide), count_other l 8 1 (by decide), count_other l 8 2 (by decide), count_other l 8 3 (by decide), count_other l 8 4 (by decide), count_other l 8 5 (by decide), count_other l 8 6 (by decide), count_other l 8 7 (by decide), count_other l 8 9 (by decide), count_other l 8 10 (by decide), count_other l 8 11 (by decide)]
  | 9, _ => simp [cnt12, count_other l 9 0 (by decide), count_other l 9 1 (by decide), count_other l 9 2 (by decide), count_other l 9 3 (by decide), count_other l 9 4 (by decide), count_other l 9 5 (by decide), count_other l 9 6 (by decide), count_other l 9 7 (by decide), count_other l 9 8 (by decide), count_other l 9 10 (by decide), count_other l 9 11 (by decide)]
  | 10, _ => simp [cnt12, count_other l 10 0 (by decide), count_other l 10 1 (by decide), count_other l 10 2 (by decide), count_other l 10 3 (by decide), count_other l 10 4 (by decide), count_other l 10 5 (by decide), count_other l 10 6 (by decide), count_other l 10 7 (by decide), count_other l 10 8 (by decide), count_other l 10 9 (by decide), count_other l 10 11 (by decide)]
  | 11, _ => simp [cnt12, count_other l 11 0 (by decide), count_other l 11 1 (by decide), count_other l 11 2 (by decide), count_other l 11 3 (by decide), count_other l 11 4 (by decide), count_other l 11 5 (by decide), count_other l 11 6 (by decide), count_other l 11 7 (by decide), count_other l 11 8 (by decide), count_other l 11 9 (by decide), count_other l 11 10 (by decide)]
  | n + 12, h => omega
theorem cnt12_nil : cnt12 [] = #[.int .i64 0, .int .i64 0, .int .i64 0, .int .i64 0, .int .i64 0, .int .i64 0, .int .i64 0, .int .i64 0, .int .i64 0, .int .i64 0, .int .i64 0, .int .i64 0] := rfl
theorem idx12_0 (l : List Int) (w : World) : (Instr.index 143 (.agg (cnt12 l)) (.int .i64 0)).run Tryz.prog w = .ok (cv l 0) w := by kernel_rfl
theorem idx12_1 (l : List Int) (w : World) : (Instr.index 143 (.agg (cnt12 l)) (.int .i64 1)).run Tryz.prog w = .ok (cv l 1) w := by kernel_rfl
theorem idx12_2 (l : List Int) (w : World) : (Instr.index 143 (.agg (cnt12 l)) (.int .i64 2)).run Tryz.prog w = .ok (cv l 2) w := by kernel_rfl
theorem idx12_3 (l : List Int) (w : World) : (Instr.index 143 (.agg (cnt12 l)) (.int .i64 3)).run Tryz.prog w = .ok (cv l 3) w := by kernel_rfl
theorem idx12_4 (l : List Int) (w : World) : (Instr.index 143 (.agg (cnt12 l)) (.int .i64 4)).run Tryz.prog w = .ok (cv l 4) w := by kernel_rfl
theorem idx12_5 (l : List Int) (w : World) : (Instr.index 143 (.agg (cnt12 l)) (.int .i64 5)).run Tryz.prog w = .ok (cv l 5) w := by kernel_rfl
theorem idx12_6 (l : List Int) (w : World) : (Instr.index 143 (.agg (cnt12 l)) (.int .i64 6)).run Tryz.prog w = .ok (cv l 6) w := by kernel_rfl
theorem idx12_7 (l : List Int) (w : World) : (Instr.index 143 (.agg (cnt12 l)) (.int .i64 7)).run Tryz.prog w = .ok (cv l 7) w := by kernel_rfl
theorem idx12_8 (l : List Int) (w : World) : (Instr.index 143 (.agg (cnt12 l)) (.int .i64 8)).run Tryz.prog w = .ok (cv l 8) w := by kernel_rfl
theorem idx12_9 (l : List Int) (w : World) : (Instr.index 143 (.agg (cnt12 l)) (.int .i64 9)).run Tryz.prog w = .ok (cv l 9) w := by kernel_rfl
theorem idx12_10 (l : List Int) (w : World) : (Instr.index 143 (.agg (cnt12 l)) (.int .i64 10)).run Tryz.prog w = .ok (cv l 10) w := by kernel_rfl
theorem idx12_11 (l : List Int) (w : World) : (Instr.index 143 (.agg (cnt12 l)) (.int .i64 11)).run Tryz.prog w = .ok (cv l 11) w := by kernel_rfl
theorem idx12 (l : List Int) (m : Nat) (h : m < 12) (w : World) : (Instr.index 143 (.agg (cnt12 l)) (.int .i64 (m : Int))).run Tryz.prog w = .ok (.int .i64 ((l.count (m : Int) : Nat) : Int)) w := by
  match m, h with
  | 0, _ => exact idx12_0 l w
  | 1, _ => exact idx12_1 l w
  | 2, _ => exact idx12_2 l w
  | 3, _ => exact idx12_3 l w
  | 4, _ => exact idx12_4 l w
  | 5, _ => exact idx12_5 l w
  | 6, _ => exact idx12_6 l w
  | 7, _ => exact idx12_7 l w
  | 8, _ => exact idx12_8 l w
  | 9, _ => exact idx12_9 l w
  | 10, _ => exact idx12_10 l w
  | 11, _ => exact idx12_11 l w
  | n + 12, h => omega
theorem box12 {w : World} {B : Nat} {l : List Int} {t : TypeId} (h : w.heap[B]? = some (.cells (cnt12 l) t (0, 0))) :
    (w.cell? ⟨B, 0, none⟩ = some (cv l 0) ∧ w.cell? ⟨B, 1, none⟩ = some (cv l 1) ∧ w.cell? ⟨B, 2, none⟩ = some (cv l 2) ∧ w.cell? ⟨B, 3, none⟩ = some (cv l 3) ∧ w.cell? ⟨B, 4, none⟩ = some (cv l 4) ∧ w.cell? ⟨B, 5, none⟩ = some (cv l 5) ∧ w.cell? ⟨B, 6, none⟩ = some (cv l 6) ∧ w.cell? ⟨B, 7, none⟩ = some (cv l 7) ∧ w.cell? ⟨B, 8, none⟩ = some (cv l 8) ∧ w.cell? ⟨B, 9, none⟩ = some (cv l 9) ∧ w.cell? ⟨B, 10, none⟩ = some (cv l 10) ∧ w.cell? ⟨B, 11, none⟩ = some (cv l 11)) ∧ ∀ k, w.frozen? ⟨B, k, none⟩ = false := by
  refine ⟨⟨?_, ?_, ?_, ?_, ?_, ?_, ?_, ?_, ?_, ?_, ?_, ?_⟩, fun k => frozen_of_row w _ _ _ _ h⟩ <;> (rw [cell_of_row w _ _ _ _ _ h]; rfl)
theorem cell12 {w : World} {B : Nat} {l : List Int} {t : TypeId} (h : w.heap[B]? = some (.cells (cnt12 l) t (0, 0))) (m : Nat) (hm : m < 12) : w.cell? ⟨B, m, none⟩ = some (cv l m) ∧ w.frozen? ⟨B, m, none⟩ = false :=
  ⟨by rw [cell_of_row w _ _ _ _ _ h, cnt12_at l m hm], frozen_of_row w _ _ _ _ h⟩
theorem nodup12 {l : List Int} (h : ∀ x ∈ l, 0 ≤ x ∧ x ≤ 11) : l.Nodup ↔ ∀ m : Nat, m < 12 → l.count (m : Int) ≤ 1 := by
  rw [List.nodup_iff_count]
  constructor
  · intro e m _; exact e _
  · intro e x
    by_cases hx : x ∈ l
    · have := h x hx
      obtain ⟨m, rfl⟩ := Int.eq_ofNat_of_zero_le this.1
      exact e m (by omega)
    · rw [List.count_eq_zero_of_not_mem hx]; omega
theorem all_in (t : Tx) (h1 : rises (blksOf t.info) = true) (h2 : rises (blksOf t.data) = true) (h3 : rises t.rev = true) : ∀ x ∈ allOf t, 0 ≤ x ∧ x ≤ 11 := by
  intro x hx
  rw [rises_iff] at h1 h2 h3
  simp only [allOf, List.mem_append] at hx
  rcases hx with hx | hx | hx
  · exact h1.1 x hx
  · exact h2.1 x hx
  · exact h3.1 x hx
theorem fits_take {l : List (Int × ByteArray)} {k : Nat} {x : Int × ByteArray} (h : l[k]? = some x) (ht : fitsAll (l.take k) = true) : fitsAll (l.take (k + 1)) = fitsB x.2 := by
  rw [List.take_add_one, h]
  unfold fitsAll at ht ⊢
  rw [List.all_append, ht]
  simp
theorem fits_no {l : List (Int × ByteArray)} {k : Nat} {x : Int × ByteArray} (h : l[k]? = some x) (hf : fitsB x.2 = false) : fitsAll l = false := by
  unfold fitsAll
  rw [List.all_eq_false]
  exact ⟨x, List.mem_of_getElem? h, by rw [hf]; simp⟩


theorem blks_pre (l : List (Int × ByteArray)) (k : Nat) : (blksOf l).take k = blksOf (l.take k) := by simp [blksOf]
theorem count_le_len (l : List Int) (x : Int) (n : Nat) (h : l.length ≤ n) : l.count x ≤ n := Nat.le_trans List.count_le_length h

set_option maxHeartbeats 4000000 in
set_option maxRecDepth 100000 in
theorem goodTxn_any (v : Value) (t : Tx) (w : World) (hT : IsTx w v t) (r1 : t.info.length * 24 ≤ 140737488355328) (r2 : t.data.length * 24 ≤ 140737488355328) :
    Calls Tryz.prog 44 #[v] w fun e w' => e = .returned (.bool (goodX t)) ∧ Below w.heap.size w w' := by
  obtain ⟨a, c, a', c', r, d, rfl, hM, hD, hR, n1, n2, n3⟩ := hT
  have HM := hide hM
  have HD := hide hD
  have HR0 := hide hR
  have N3 := hide n3
  clear hM hD hR n1 n2 n3
  go_enter Tryz.func44, Tryz.ntmps44
  go_wp2
  go_loopw [4, 19] (fun q i wr => ∃ k : Nat, k ≤ t.info.length ∧ i = .int .i64 k ∧ q = .int .i64 (lastNum (-1) (blksOf (t.info.take k))) ∧ -1 ≤ lastNum (-1) (blksOf (t.info.take k)) ∧ Hid (rises (blksOf (t.info.take k)) = true ∧ fitsAll (t.info.take k) = true) ∧ Hid (wr.heap[w.heap.size + 1]? = some (.cells (cnt12 (blksOf (t.info.take k))) 143 (0, 0))) ∧ Hid (wr.heap[w.heap.size]? = some (.cells #[.int .i64 t.seq, .slice a t.info.length c, .slice a' t.data.length c', .slice r t.rev.length d, .bool t.h0.on, .int .i64 t.h0.left, .bool t.h1.on, .int .i64 t.h1.left, .bool t.h2.on, .int .i64 t.h2.left] 28 (0, 0))) ∧ Hid (Below w.heap.size w wr)) (fun _ i _ => t.info.length - (intOf i).toNat)
  case atStart => exact ⟨0, Nat.zero_le _, rfl, rfl, by simp [blksOf, lastNum], ⟨rfl, rfl⟩, two2 (Below.refl _ _), two1 (Below.refl _ _), bthen (below1 _ _) (below1 _ _)⟩
  case round =>
    obtain ⟨k, hk, rfl, rfl, hq1, hr, KW, KT, HB⟩ := hrel
    have hlt0 := (Array.getElem?_eq_some_iff.1 KW.out).1
    have hlt1 : w.heap.size < wr.heap.size := by omega
    by_cases hlt : k < t.info.length
    · obtain ⟨b2, off, rfl, hb, hc⟩ := HM.out.resolve_left (by intro e; rw [e] at hlt; simp at hlt)
      obtain ⟨x, hx⟩ : ∃ x, x = t.info.getD k (0, ByteArray.empty) := ⟨_, rfl⟩
      obtain ⟨hc1, hc2⟩ := hc k hlt
      rw [← hx] at hc1 hc2
      have HX : Hid (t.info[k]? = some x) := by rw [hx]; exact getD_at _ _ _ hlt
      have g1 := cellKeep HB.out hb hc1
      have g2 := cellKeep HB.out hb hc2
      clear hx hc hc1 hc2
      obtain ⟨n, s⟩ := x
      obtain ⟨q, hq⟩ : ∃ q, q = lastNum (-1) (blksOf (t.info.take k)) := ⟨_, rfl⟩
      have HQ := hide hq
      rw [← hq] at hq1
      rw [← hq]
      clear hq
      have HT1 : Hid (blksOf (t.info.take (k + 1)) = blksOf (t.info.take k) ++ [n]) := blks_take (x := (n, s)) HX.out
      have hlt' : (k : Int) < (t.info.length : Int) := by omega
      have hal := fun o => HB.out.alloc HB.out.size o
      by_cases h1 : n ≤ q
      · have HG : Hid (goodX t = false) := by
          have : rises (blksOf t.info) = false := rises_no (-1) (blksOf t.info) (k + 1) (by rw [blks_pre, HT1.out, rises_snoc, ← HQ.out]; simp [h1])
          rw [Hid, goodX_eq, this]; simp
        clear hr
        go_wp2
        go_ret
        exact ⟨by rw [HG.out]; rfl, hal _⟩
      · by_cases h2 : 11 < n
        · have HG : Hid (goodX t = false) := by
            have : rises (blksOf t.info) = false := rises_no (-1) (blksOf t.info) (k + 1) (by rw [blks_pre, HT1.out, rises_snoc, ← HQ.out]; simp [h2])
            rw [Hid, goodX_eq, this]; simp
          clear hr
          go_wp2
          go_ret
          exact ⟨by rw [HG.out]; rfl, hal _⟩
        · by_cases h3 : (s.size : Int) = 32
          · have hf : fitsB s = true := by simpa [fitsB] using h3
            have HR : Hid (rises (blksOf (t.info.take (k + 1))) = true ∧ fitsAll (t.info.take (k + 1)) = true) := by
              refine ⟨?_, by rw [fits_take HX.out hr.out.2]; exact hf⟩
              have h0 := hr.out.1
              rw [rises] at h0 ⊢
              rw [HT1.out, rises_snoc, h0, ← HQ.out]; simp [h1, h2]
            obtain ⟨m, rfl⟩ := Int.eq_ofNat_of_zero_le (show 0 ≤ n by omega)
            have hm : m < 12 := by omega
            obtain ⟨cm, fm⟩ := cell12 KW.out m hm
            rw [cv] at cm
            have hsz : (wr.setCell ⟨w.heap.size + 1, m, none⟩ (.int .i64 ((((blksOf (t.info.take k)).count (m : Int) : Nat) : Int) + 1))).heap.size = wr.heap.size := by simp
            have HW : Hid (((wr.setCell ⟨w.heap.size + 1, m, none⟩ (.int .i64 ((((blksOf (t.info.take k)).count (m : Int) : Nat) : Int) + 1))).alloc (.cells #[.int .i64 (m : Int), .string s] 78)).heap[w.heap.size + 1]? = some (.cells (cnt12 (blksOf (t.info.take (k + 1)))) 143 (0, 0))) := by
              rw [Hid, Below.heap_alloc _ _ _ (by rw [hsz]; exact hlt0), heap_setCell_same _ _ m _ _ _ KW.out, cnt12_set _ m hm]
              rw [HT1.out]
            have HK : Hid (((wr.setCell ⟨w.heap.size + 1, m, none⟩ (.int .i64 ((((blksOf (t.info.take k)).count (m : Int) : Nat) : Int) + 1))).alloc (.cells #[.int .i64 (m : Int), .string s] 78)).heap[w.heap.size]? = _) := (Below.heap_alloc _ _ _ (by rw [hsz]; exact hlt1)).trans ((Below.heap_setCell _ _ _ _ (by simp)).trans KT.out)
            have HBB : Hid (Below w.heap.size w ((wr.setCell ⟨w.heap.size + 1, m, none⟩ (.int .i64 ((((blksOf (t.info.take k)).count (m : Int) : Nat) : Int) + 1))).alloc (.cells #[.int .i64 (m : Int), .string s] 78))) := (HB.out.setCell (by simp) _).alloc (by rw [hsz]; exact HB.out.size) _
            clear hsz
            have hcb : (blksOf (t.info.take k)).count (m : Int) ≤ 9223372036854775000 := by
              exact count_le_len _ _ _ (by rw [blks_length, List.length_take]; omega)
            generalize (blksOf (t.info.take k)).count (m : Int) = cq at *
            clear hr KW
            go_wp2
            go_roundw
            case rel => exact ⟨k + 1, by omega, by go_num, by rw [HT1.out, lastNum_snoc], by rw [HT1.out, lastNum_snoc]; omega, HR, HW, HK, HBB⟩
            case measure => simp [intOf]; omega
          · have HG : Hid (goodX t = false) := by
              have : fitsAll t.info = false := fits_no HX.out (by simpa [fitsB] using h3)
              rw [Hid, goodX_eq, this]; simp
            clear hr
            go_wp2
            go_ret
            exact ⟨by rw [HG.out]; rfl, hal _⟩
    · have ek : k = t.info.length := by omega
      subst ek
      rw [List.take_length] at hr KW
      clear hlt hk hq1
      have H1 := hr
      clear hr
      obtain ⟨⟨x0, x1, x2, x3, x4, x5, x6, x7, x8, x9⟩, _⟩ := box10 KT.out
      go_wp2
      clear x0 x1 x2 x3 x4 x5 x6 x7 x8 x9
      go_loopw [4, 50] (fun q i wr => ∃ k : Nat, k ≤ t.data.length ∧ i = .int .i64 k ∧ q = .int .i64 (lastNum (-1) (blksOf (t.data.take k))) ∧ -1 ≤ lastNum (-1) (blksOf (t.data.take k)) ∧ Hid (rises (blksOf (t.data.take k)) = true ∧ fitsAll (t.data.take k) = true) ∧ Hid (wr.heap[w.heap.size + 1]? = some (.cells (cnt12 (blksOf t.info ++ blksOf (t.data.take k))) 143 (0, 0))) ∧ Hid (wr.heap[w.heap.size]? = some (.cells #[.int .i64 t.seq, .slice a t.info.length c, .slice a' t.data.length c', .slice r t.rev.length d, .bool t.h0.on, .int .i64 t.h0.left, .bool t.h1.on, .int .i64 t.h1.left, .bool t.h2.on, .int .i64 t.h2.left] 28 (0, 0))) ∧ Hid (Below w.heap.size w wr)) (fun _ i _ => t.data.length - (intOf i).toNat)
      case atStart => exact ⟨0, Nat.zero_le _, rfl, rfl, by simp [blksOf, lastNum], ⟨rfl, rfl⟩, by rw [Hid, show blksOf t.info ++ blksOf (t.data.take 0) = blksOf t.info from by simp [blksOf]]; exact KW.out, KT, HB⟩
      case round =>
        clear KW KT HB hlt0 hlt1
        obtain ⟨k, hk, rfl, rfl, hq1, hr, KW, KT, HB⟩ := hrel
        have hlt0 := (Array.getElem?_eq_some_iff.1 KW.out).1
        have hlt1 : w.heap.size < wr.heap.size := by omega
        by_cases hlt : k < t.data.length
        · obtain ⟨b2, off, rfl, hb, hc⟩ := HD.out.resolve_left (by intro e; rw [e] at hlt; simp at hlt)
          obtain ⟨x, hx⟩ : ∃ x, x = t.data.getD k (0, ByteArray.empty) := ⟨_, rfl⟩
          obtain ⟨hc1, hc2⟩ := hc k hlt
          rw [← hx] at hc1 hc2
          have HX : Hid (t.data[k]? = some x) := by rw [hx]; exact getD_at _ _ _ hlt
          have g1 := cellKeep HB.out hb hc1
          have g2 := cellKeep HB.out hb hc2
          clear hx hc hc1 hc2
          obtain ⟨n, s⟩ := x
          obtain ⟨q, hq⟩ : ∃ q, q = lastNum (-1) (blksOf (t.data.take k)) := ⟨_, rfl⟩
          have HQ := hide hq
          rw [← hq] at hq1
          rw [← hq]
          clear hq
          have HT1 : Hid (blksOf (t.data.take (k + 1)) = blksOf (t.data.take k) ++ [n]) := blks_take (x := (n, s)) HX.out
          have hlt' : (k : Int) < (t.data.length : Int) := by omega
          have hal := fun o => HB.out.alloc HB.out.size o
          by_cases h1 : n ≤ q
          · have HG : Hid (goodX t = false) := by
              have : rises (blksOf t.data) = false := rises_no (-1) (blksOf t.data) (k + 1) (by rw [blks_pre, HT1.out, rises_snoc, ← HQ.out]; simp [h1])
              rw [Hid, goodX_eq, this]; simp
            clear hr
            go_wp2
            go_ret
            exact ⟨by rw [HG.out]; rfl, hal _⟩
          · by_cases h2 : 11 < n
            · have HG : Hid (goodX t = false) := by
                have : rises (blksOf t.data) = false := rises_no (-1) (blksOf t.data) (k + 1) (by rw [blks_pre, HT1.out, rises_snoc, ← HQ.out]; simp [h2])
                rw [Hid, goodX_eq, this]; simp
              clear hr
              go_wp2
              go_ret
              exact ⟨by rw [HG.out]; rfl, hal _⟩
            · by_cases h3 : (s.size : Int) = 32
              · have hf : fitsB s = true := by simpa [fitsB] using h3
                have HR : Hid (rises (blksOf (t.data.take (k + 1))) = true ∧ fitsAll (t.data.take (k + 1)) = true) := by
                  refine ⟨?_, by rw [fits_take HX.out hr.out.2]; exact hf⟩
                  have h0 := hr.out.1
                  rw [rises] at h0 ⊢
                  rw [HT1.out, rises_snoc, h0, ← HQ.out]; simp [h1, h2]
                obtain ⟨m, rfl⟩ := Int.eq_ofNat_of_zero_le (show 0 ≤ n by omega)
                have hm : m < 12 := by omega
                obtain ⟨cm, fm⟩ := cell12 KW.out m hm
                rw [cv] at cm
                have hsz : (wr.setCell ⟨w.heap.size + 1, m, none⟩ (.int .i64 ((((blksOf t.info ++ blksOf (t.data.take k)).count (m : Int) : Nat) : Int) + 1))).heap.size = wr.heap.size := by simp
                have HW : Hid (((wr.setCell ⟨w.heap.size + 1, m, none⟩ (.int .i64 ((((blksOf t.info ++ blksOf (t.data.take k)).count (m : Int) : Nat) : Int) + 1))).alloc (.cells #[.int .i64 (m : Int), .string s] 78)).heap[w.heap.size + 1]? = some (.cells (cnt12 (blksOf t.info ++ blksOf (t.data.take (k + 1)))) 143 (0, 0))) := by
                  rw [Hid, Below.heap_alloc _ _ _ (by rw [hsz]; exact hlt0), heap_setCell_same _ _ m _ _ _ KW.out, cnt12_set _ m hm]
                  rw [HT1.out, List.append_assoc]
                have HK : Hid (((wr.setCell ⟨w.heap.size + 1, m, none⟩ (.int .i64 ((((blksOf t.info ++ blksOf (t.data.take k)).count (m : Int) : Nat) : Int) + 1))).alloc (.cells #[.int .i64 (m : Int), .string s] 78)).heap[w.heap.size]? = _) := (Below.heap_alloc _ _ _ (by rw [hsz]; exact hlt1)).trans ((Below.heap_setCell _ _ _ _ (by simp)).trans KT.out)
                have HBB : Hid (Below w.heap.size w ((wr.setCell ⟨w.heap.size + 1, m, none⟩ (.int .i64 ((((blksOf t.info ++ blksOf (t.data.take k)).count (m : Int) : Nat) : Int) + 1))).alloc (.cells #[.int .i64 (m : Int), .string s] 78))) := (HB.out.setCell (by simp) _).alloc (by rw [hsz]; exact HB.out.size) _
                clear hsz
                have hcb : (blksOf t.info ++ blksOf (t.data.take k)).count (m : Int) ≤ 9223372036854775000 := by
                  have q1 := rises_length H1.out.1; exact count_le_len _ _ _ (by rw [List.length_append, blks_length (t.data.take k), List.length_take]; omega)
                generalize (blksOf t.info ++ blksOf (t.data.take k)).count (m : Int) = cq at *
                clear hr KW
                go_wp2
                go_roundw
                case rel => exact ⟨k + 1, by omega, by go_num, by rw [HT1.out, lastNum_snoc], by rw [HT1.out, lastNum_snoc]; omega, HR, HW, HK, HBB⟩
                case measure => simp [intOf]; omega
              · have HG : Hid (goodX t = false) := by
                  have : fitsAll t.data = false := fits_no HX.out (by simpa [fitsB] using h3)
                  rw [Hid, goodX_eq, this]; simp
                clear hr
                go_wp2
                go_ret
                exact ⟨by rw [HG.out]; rfl, hal _⟩
        · have ek : k = t.data.length := by omega
          subst ek
          rw [List.take_length] at hr KW
          clear hlt hk hq1
          have H2 := hr
          clear hr
          obtain ⟨⟨x0, x1, x2, x3, x4, x5, x6, x7, x8, x9⟩, _⟩ := box10 KT.out
          go_wp2_with fail
          refine (rising_any r d t.rev _ (HR0.out.below HB.out) N3.out).mono ?_
          rintro e w3 ⟨rfl, rfl⟩
          clear x0 x1 x2 x3 x4 x5 x6 x7 x8 x9
          cases h3 : rises t.rev with
          | false =>
            have HG : Hid (goodX t = false) := by rw [Hid, goodX_eq, h3]; simp
            go_wp2
            go_ret
            exact ⟨by rw [HG.out]; rfl, HB.out⟩
          | true =>
            have H3 := hide h3
            clear h3
            obtain ⟨⟨x0, x1, x2, x3, x4, x5, x6, x7, x8, x9⟩, _⟩ := box10 KT.out
            go_wp2
            clear x0 x1 x2 x3 x4 x5 x6 x7 x8 x9
            go_loopw [85] (fun i wr => ∃ k : Nat, k ≤ t.rev.length ∧ i = .int .i64 k ∧ Hid (wr.heap[w.heap.size + 1]? = some (.cells (cnt12 (blksOf t.info ++ (blksOf t.data ++ t.rev.take k))) 143 (0, 0))) ∧ Hid (wr.heap[w.heap.size]? = some (.cells #[.int .i64 t.seq, .slice a t.info.length c, .slice a' t.data.length c', .slice r t.rev.length d, .bool t.h0.on, .int .i64 t.h0.left, .bool t.h1.on, .int .i64 t.h1.left, .bool t.h2.on, .int .i64 t.h2.left] 28 (0, 0))) ∧ Hid (Below w.heap.size w wr)) (fun i _ => t.rev.length - (intOf i).toNat)
            case atStart => exact ⟨0, Nat.zero_le _, rfl, by rw [Hid, List.take_zero, List.append_nil]; exact KW.out, KT, HB⟩
            case round =>
              clear KW KT HB hlt0 hlt1
              obtain ⟨k, hk, rfl, KW, KT, HB⟩ := hrel
              have hlt0 := (Array.getElem?_eq_some_iff.1 KW.out).1
              have hlt1 : w.heap.size < wr.heap.size := by omega
              by_cases hlt : k < t.rev.length
              · obtain ⟨b2, off, rfl, hb, hc⟩ := HR0.out.resolve_left (by intro e; rw [e] at hlt; simp at hlt)
                obtain ⟨x, hx⟩ : ∃ x, x = t.rev.getD k 0 := ⟨_, rfl⟩
                have hc1 := hc k hlt
                rw [← hx] at hc1
                have HX : Hid (t.rev[k]? = some x) := by rw [hx]; exact getD_at _ _ _ hlt
                have g1 := cellKeep HB.out hb hc1
                clear hx hc hc1
                have q9 := rises_length H3.out
                have hin := ((rises_iff _).1 H3.out).1 x (List.mem_of_getElem? HX.out)
                have hlt' : (k : Int) < (t.rev.length : Int) := by omega
                obtain ⟨m, rfl⟩ := Int.eq_ofNat_of_zero_le hin.1
                have hm : m < 12 := by omega
                obtain ⟨cm, fm⟩ := cell12 KW.out m hm
                rw [cv] at cm
                have HT1 : Hid (t.rev.take (k + 1) = t.rev.take k ++ [(m : Int)]) := by rw [Hid, List.take_add_one, HX.out]; rfl
                have HW : Hid ((wr.setCell ⟨w.heap.size + 1, m, none⟩ (.int .i64 ((((blksOf t.info ++ (blksOf t.data ++ t.rev.take k)).count (m : Int) : Nat) : Int) + 1))).heap[w.heap.size + 1]? = some (.cells (cnt12 (blksOf t.info ++ (blksOf t.data ++ t.rev.take (k + 1)))) 143 (0, 0))) := by
                  rw [Hid, heap_setCell_same _ _ m _ _ _ KW.out, cnt12_set _ m hm, HT1.out, List.append_assoc, List.append_assoc]
                have HK : Hid ((wr.setCell ⟨w.heap.size + 1, m, none⟩ (.int .i64 ((((blksOf t.info ++ (blksOf t.data ++ t.rev.take k)).count (m : Int) : Nat) : Int) + 1))).heap[w.heap.size]? = _) := (Below.heap_setCell _ _ _ _ (by simp)).trans KT.out
                have HBB := hide (HB.out.setCell (p := ⟨w.heap.size + 1, m, none⟩) (by simp) (.int .i64 ((((blksOf t.info ++ (blksOf t.data ++ t.rev.take k)).count (m : Int) : Nat) : Int) + 1)))
                have hcb : (blksOf t.info ++ (blksOf t.data ++ t.rev.take k)).count (m : Int) ≤ 100 := by
                  have q1 := rises_length H1.out.1
                  have q2 := rises_length H2.out.1
                  have q3 := rises_length H3.out
                  exact count_le_len _ _ _ (by rw [List.length_append, List.length_append, List.length_take]; omega)
                generalize (blksOf t.info ++ (blksOf t.data ++ t.rev.take k)).count (m : Int) = cq at *
                clear KW
                go_wp2
                go_roundw
                case rel => exact ⟨k + 1, by omega, by go_num, HW, HK, HBB⟩
                case measure => simp [intOf]; omega
              · have ek : k = t.rev.length := by omega
                subst ek
                rw [List.take_length] at KW
                replace KW : Hid (wr.heap[w.heap.size + 1]? = some (.cells (cnt12 (allOf t)) 143 (0, 0))) := KW
                clear hlt hk
                obtain ⟨⟨k0, k1, k2, k3, k4, k5, k6, k7, k8, k9, k10, k11⟩, _⟩ := box12 KW.out
                go_wp2
                clear k0 k1 k2 k3 k4 k5 k6 k7 k8 k9 k10 k11
                go_loop [96] (fun i => ∃ k : Nat, k ≤ 12 ∧ i = .int .i64 k ∧ Hid (∀ m : Nat, m < k → (allOf t).count (m : Int) ≤ 1)) (fun i => 12 - (intOf i).toNat)
                case atStart => exact ⟨0, by omega, rfl, fun m hm => by omega⟩
                case round =>
                  obtain ⟨k, hk, rfl, hr⟩ := hrel
                  by_cases hlt : k < 12
                  · have hix := idx12 (allOf t) k hlt
                    unfold cnt12 at hix
                    have hlt' : (k : Int) < 12 := by omega
                    by_cases h1 : 1 < (allOf t).count (k : Int)
                    · have HG : Hid (goodX t = false) := by
                        have : decide (allOf t).Nodup = false := by
                          rw [decide_eq_false_iff_not, List.nodup_iff_count]
                          intro e; have := e (k : Int); omega
                        rw [Hid, goodX_eq, this]; simp
                      have h1' : 1 < (((allOf t).count (k : Int) : Nat) : Int) := by omega
                      generalize (allOf t).count (k : Int) = cq at *
                      clear hr h1
                      go_wp2
                      go_ret
                      exact ⟨by rw [HG.out]; rfl, HB.out⟩
                    · have HR : Hid (∀ m : Nat, m < k + 1 → (allOf t).count (m : Int) ≤ 1) := by
                        intro m hm
                        by_cases e : m = k
                        · subst e; omega
                        · exact hr.out m (by omega)
                      have h1' : ¬ 1 < (((allOf t).count (k : Int) : Nat) : Int) := by omega
                      generalize (allOf t).count (k : Int) = cq at *
                      clear hr h1
                      go_wp2
                      go_round
                      case rel => exact ⟨k + 1, by omega, by go_num, HR⟩
                      case measure => simp [intOf]; omega
                  · have ek : k = 12 := by omega
                    subst ek
                    have H4 : Hid (decide (allOf t).Nodup = true) := by
                      rw [Hid, decide_eq_true_iff, nodup12 (all_in t H1.out.1 H2.out.1 H3.out)]
                      exact hr.out
                    clear hr hlt hk
                    obtain ⟨⟨x0, x1, x2, x3, x4, x5, x6, x7, x8, x9⟩, _⟩ := box10 KT.out
                    go_wp2
                    clear x0 x1 x2 x3 x4 x5 x6 x7 x8 x9
                    go_loopw [104] (fun i wr => ∃ k : Nat, k ≤ 3 ∧ i = .int .i64 k ∧ Hid ((1 ≤ k → hdB t.h0 = true) ∧ (2 ≤ k → hdB t.h1 = true) ∧ (3 ≤ k → hdB t.h2 = true)) ∧ Hid (wr.heap[w.heap.size]? = some (.cells #[.int .i64 t.seq, .slice a t.info.length c, .slice a' t.data.length c', .slice r t.rev.length d, .bool t.h0.on, .int .i64 t.h0.left, .bool t.h1.on, .int .i64 t.h1.left, .bool t.h2.on, .int .i64 t.h2.left] 28 (0, 0))) ∧ Hid (Below w.heap.size w wr)) (fun i _ => 3 - (intOf i).toNat)
                    case atStart => exact ⟨0, by omega, rfl, ⟨fun h => by omega, fun h => by omega, fun h => by omega⟩, KT, HB⟩
                    case round =>
                      clear KT HB hlt0 hlt1
                      obtain ⟨k, hk, rfl, hr, KT, HB⟩ := hrel
                      have hlt1 := (Array.getElem?_eq_some_iff.1 KT.out).1
                      have hc : k = 0 ∨ k = 1 ∨ k = 2 ∨ k = 3 := by omega
                      have hal := fun o => HB.out.alloc HB.out.size o
                      clear hk
                      rcases hc with rfl | rfl | rfl | rfl
                      · have ik := idxH0 t.h0.on t.h1.on t.h2.on t.h0.left t.h1.left t.h2.left
                        by_cases g1 : t.h0.left < 0
                        · have HG : Hid (goodX t = false) := by
                            have hb : hdB t.h0 = false := by
                              cases e : hdB t.h0 with
                              | false => rfl
                              | true => have := (hdB_iff _).1 e; omega
                            rw [Hid, goodX_eq, hb]; simp
                          go_wp2
                          go_ret
                          exact ⟨by rw [HG.out]; rfl, hal _⟩
                        · by_cases g2 : 24 < t.h0.left
                          · have HG : Hid (goodX t = false) := by
                              have hb : hdB t.h0 = false := by
                                cases e : hdB t.h0 with
                                | false => rfl
                                | true => have := (hdB_iff _).1 e; omega
                              rw [Hid, goodX_eq, hb]; simp
                            go_wp2
                            go_ret
                            exact ⟨by rw [HG.out]; rfl, hal _⟩
                          · by_cases g3 : 0 < t.h0.left
                            · by_cases g4 : t.h0.on = true
                              · rw [g4] at ik
                                have HF : Hid (hdB t.h0 = true) := (hdB_iff _).2 ⟨by omega, by omega, fun e => by rw [g4] at e; cases e⟩
                                go_wp2
                                go_roundw
                                case rel => exact ⟨1, by omega, by go_num, ⟨fun _ => HF.out, fun h => by omega, fun h => by omega⟩, (Below.heap_alloc _ _ _ hlt1).trans KT.out, hal _⟩
                                case measure => simp [intOf]
                              · have g5 : t.h0.on = false := by simpa using g4
                                rw [g5] at ik
                                have HG : Hid (goodX t = false) := by
                                  have hb : hdB t.h0 = false := by
                                    cases e : hdB t.h0 with
                                    | false => rfl
                                    | true => have := (hdB_iff _).1 e; have := this.2.2 g5; omega
                                  rw [Hid, goodX_eq, hb]; simp
                                go_wp2
                                go_ret
                                exact ⟨by rw [HG.out]; rfl, hal _⟩
                            · have HF : Hid (hdB t.h0 = true) := (hdB_iff _).2 ⟨by omega, by omega, fun _ => by omega⟩
                              go_wp2
                              go_roundw
                              case rel => exact ⟨1, by omega, by go_num, ⟨fun _ => HF.out, fun h => by omega, fun h => by omega⟩, (Below.heap_alloc _ _ _ hlt1).trans KT.out, hal _⟩
                              case measure => simp [intOf]
                      · have ik := idxH1 t.h0.on t.h1.on t.h2.on t.h0.left t.h1.left t.h2.left
                        by_cases g1 : t.h1.left < 0
                        · have HG : Hid (goodX t = false) := by
                            have hb : hdB t.h1 = false := by
                              cases e : hdB t.h1 with
                              | false => rfl
                              | true => have := (hdB_iff _).1 e; omega
                            rw [Hid, goodX_eq, hb]; simp
                          go_wp2
                          go_ret
                          exact ⟨by rw [HG.out]; rfl, hal _⟩
                        · by_cases g2 : 24 < t.h1.left
                          · have HG : Hid (goodX t = false) := by
                              have hb : hdB t.h1 = false := by
                                cases e : hdB t.h1 with
                                | false => rfl
                                | true => have := (hdB_iff _).1 e; omega
                              rw [Hid, goodX_eq, hb]; simp
                            go_wp2
                            go_ret
                            exact ⟨by rw [HG.out]; rfl, hal _⟩
                          · by_cases g3 : 0 < t.h1.left
                            · by_cases g4 : t.h1.on = true
                              · rw [g4] at ik
                                have HF : Hid (hdB t.h1 = true) := (hdB_iff _).2 ⟨by omega, by omega, fun e => by rw [g4] at e; cases e⟩
                                go_wp2
                                go_roundw
                                case rel => exact ⟨2, by omega, by go_num, ⟨fun _ => hr.out.1 (by omega), fun _ => HF.out, fun h => by omega⟩, (Below.heap_alloc _ _ _ hlt1).trans KT.out, hal _⟩
                                case measure => simp [intOf]
                              · have g5 : t.h1.on = false := by simpa using g4
                                rw [g5] at ik
                                have HG : Hid (goodX t = false) := by
                                  have hb : hdB t.h1 = false := by
                                    cases e : hdB t.h1 with
                                    | false => rfl
                                    | true => have := (hdB_iff _).1 e; have := this.2.2 g5; omega
                                  rw [Hid, goodX_eq, hb]; simp
                                go_wp2
                                go_ret
                                exact ⟨by rw [HG.out]; rfl, hal _⟩
                            · have HF : Hid (hdB t.h1 = true) := (hdB_iff _).2 ⟨by omega, by omega, fun _ => by omega⟩
                              go_wp2
                              go_roundw
                              case rel => exact ⟨2, by omega, by go_num, ⟨fun _ => hr.out.1 (by omega), fun _ => HF.out, fun h => by omega⟩, (Below.heap_alloc _ _ _ hlt1).trans KT.out, hal _⟩
                              case measure => simp [intOf]
                      · have ik := idxH2 t.h0.on t.h1.on t.h2.on t.h0.left t.h1.left t.h2.left
                        by_cases g1 : t.h2.left < 0
                        · have HG : Hid (goodX t = false) := by
                            have hb : hdB t.h2 = false := by
                              cases e : hdB t.h2 with
                              | false => rfl
                              | true => have := (hdB_iff _).1 e; omega
                            rw [Hid, goodX_eq, hb]; simp
                          go_wp2
                          go_ret
                          exact ⟨by rw [HG.out]; rfl, hal _⟩
                        · by_cases g2 : 24 < t.h2.left
                          · have HG : Hid (goodX t = false) := by
                              have hb : hdB t.h2 = false := by
                                cases e : hdB t.h2 with
                                | false => rfl
                                | true => have := (hdB_iff _).1 e; omega
                              rw [Hid, goodX_eq, hb]; simp
                            go_wp2
                            go_ret
                            exact ⟨by rw [HG.out]; rfl, hal _⟩
                          · by_cases g3 : 0 < t.h2.left
                            · by_cases g4 : t.h2.on = true
                              · rw [g4] at ik
                                have HF : Hid (hdB t.h2 = true) := (hdB_iff _).2 ⟨by omega, by omega, fun e => by rw [g4] at e; cases e⟩
                                go_wp2
                                go_roundw
                                case rel => exact ⟨3, by omega, by go_num, ⟨fun _ => hr.out.1 (by omega), fun _ => hr.out.2.1 (by omega), fun _ => HF.out⟩, (Below.heap_alloc _ _ _ hlt1).trans KT.out, hal _⟩
                                case measure => simp [intOf]
                              · have g5 : t.h2.on = false := by simpa using g4
                                rw [g5] at ik
                                have HG : Hid (goodX t = false) := by
                                  have hb : hdB t.h2 = false := by
                                    cases e : hdB t.h2 with
                                    | false => rfl
                                    | true => have := (hdB_iff _).1 e; have := this.2.2 g5; omega
                                  rw [Hid, goodX_eq, hb]; simp
                                go_wp2
                                go_ret
                                exact ⟨by rw [HG.out]; rfl, hal _⟩
                            · have HF : Hid (hdB t.h2 = true) := (hdB_iff _).2 ⟨by omega, by omega, fun _ => by omega⟩
                              go_wp2
                              go_roundw
                              case rel => exact ⟨3, by omega, by go_num, ⟨fun _ => hr.out.1 (by omega), fun _ => hr.out.2.1 (by omega), fun _ => HF.out⟩, (Below.heap_alloc _ _ _ hlt1).trans KT.out, hal _⟩
                              case measure => simp [intOf]
                      · obtain ⟨⟨x0, x1, x2, x3, x4, x5, x6, x7, x8, x9⟩, _⟩ := box10 KT.out
                        have HGG : Hid (goodX t = withinB t.seq 1 2147483647) := by
                          rw [Hid, goodX_eq, H1.out.1, H1.out.2, H2.out.1, H2.out.2, H3.out, H4.out, hr.out.1 (by omega), hr.out.2.1 (by omega), hr.out.2.2 (by omega)]
                          simp
                        by_cases g1 : 0 < t.seq
                        · by_cases g2 : t.seq < 2147483648
                          · have HW : Hid (withinB t.seq 1 2147483647 = true) := withinB_iff.2 (by omega)
                            go_wp2
                            go_ret
                            exact ⟨by rw [HGG.out, HW.out]; rfl, HB.out⟩
                          · have HW : Hid (withinB t.seq 1 2147483647 = false) := by
                              cases e : withinB t.seq 1 2147483647 with
                              | false => rfl
                              | true => have := withinB_iff.1 e; omega
                            go_wp2
                            go_ret
                            exact ⟨by rw [HGG.out, HW.out]; rfl, HB.out⟩
                        · have HW : Hid (withinB t.seq 1 2147483647 = false) := by
                            cases e : withinB t.seq 1 2147483647 with
                            | false => rfl
                            | true => have := withinB_iff.1 e; omega
                          go_wp2
                          go_ret
                          exact ⟨by rw [HGG.out, HW.out]; rfl, HB.out⟩

end Go.Proofs.YtjnpndfpajjihabGreat
