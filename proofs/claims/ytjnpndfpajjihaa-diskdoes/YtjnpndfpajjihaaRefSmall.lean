/-
  The walks of the document's own answer: isAt, GoodDisk, after.
-/
import Derived.Test.YtjnpndfpajjihaaChoicesP
namespace Go.Proofs.Ytjnpndfpajjihaa
open Go.RowKit

set_option maxHeartbeats 400000 in
theorem isAt_any (n : Int) (w : World) :
    Calls Try.prog 64 #[.int .i64 n] w fun e w' => e = .returned (.bool (placeB n)) ∧ w = w' := by
  by_cases h0 : 0 ≤ n <;> by_cases h1 : n ≤ 36
  all_goals
    go_enter Try.func64, Try.ntmps64
    go_wp2
    go_ret
    refine ⟨?_, rfl⟩
    have e1 : decide (0 ≤ n) = decide (0 ≤ n) := rfl
    have e : placeB n = (decide (0 ≤ n) && decide (n ≤ 36)) := by
      rw [placeB]
      congr 1
      exact decide_eq_decide.2 (by omega)
    rw [e]
    simp [h0, h1]

set_option maxHeartbeats 2000000 in
set_option maxRecDepth 100000 in
theorem goodDisk_walk (a : Option Addr) (c : Nat) (a' : Option Addr) (c' : Nat) (d : Dk) (w : World) (hS : SegS w a d.safe) (hW : SegW w a' d.wr) (hn : d.safe.length ≤ maxLen) (hm : d.wr.length ≤ maxLen) :
    Calls Try.prog 28 #[.agg #[.slice a d.safe.length c, .slice a' d.wr.length c']] w fun e w' => e = .returned (.bool (goodB d)) ∧ Below w.heap.size w w' := by
  unfold maxLen at hn hm
  have HS := hide hS
  have HW := hide hW
  clear hS hW
  go_enter Try.func28, Try.ntmps28
  go_wp2
  go_loop [10] (fun i => ∃ k : Nat, k ≤ d.safe.length ∧ i = .int .i64 k ∧ Hid ((d.safe.take k).all fitsB = true)) (fun i => d.safe.length - (intOf i).toNat)
  case atStart => exact ⟨0, Nat.zero_le _, rfl, by simp [Hid]⟩
  case round =>
    obtain ⟨k, hk, rfl, hall⟩ := hrel
    by_cases hlt : k < d.safe.length
    · obtain ⟨b, off, rfl, hb, hc⟩ := HS.out.resolve_left (by intro e; rw [e] at hlt; simp at hlt)
      obtain ⟨s, hs⟩ : ∃ s, s = d.safe.getD k ByteArray.empty := ⟨_, rfl⟩
      have hck := hc k hlt
      have HX : Hid (d.safe[k]? = some s) := by rw [hs]; exact getD_some _ _ _ hlt
      rw [← hs] at hck
      clear hs hc
      have hlt' : (k : Int) < (d.safe.length : Int) := by omega
      by_cases hf : fitsB s = true
      · have hf1 : ((s.size : Int) != 32) = false := by simp only [fitsB] at hf; simp only [bne, hf]; rfl
        have HF := hide hf
        clear hf
        go_wp2
        go_round
        case rel => exact ⟨k + 1, by omega, by go_num, all_succ _ _ _ _ HX.out hall HF.out⟩
        case measure => simp [intOf]; omega
      · have hf' : fitsB s = false := by simpa using hf
        have hf1 : ((s.size : Int) != 32) = true := by simp only [fitsB] at hf'; simp only [bne, hf']; rfl
        have HF := hide hf'
        clear hf hf'
        go_wp2
        go_ret
        exact ⟨by rw [goodB, all_no _ _ _ _ HX.out HF.out]; simp, (Below.refl _ _).alloc (Nat.le_refl _) _⟩
    · have HA : Hid (d.safe.all fitsB = true) := by
        have e : k = d.safe.length := by omega
        have := hall.out
        rw [e, List.take_length] at this
        exact this
      clear hall
      go_wp2
      go_loopw [21] (fun i wr => ∃ k : Nat, k ≤ d.wr.length ∧ i = .int .i64 k ∧ Hid ((d.wr.take k).all wrB = true) ∧ wr.cell? ⟨w.heap.size, 0, none⟩ = some (.slice a d.safe.length c) ∧ wr.cell? ⟨w.heap.size, 1, none⟩ = some (.slice a' d.wr.length c') ∧ w.heap.size < wr.heap.size ∧ Below w.heap.size w wr) (fun i _ => d.wr.length - (intOf i).toNat)
      case atStart => exact ⟨0, Nat.zero_le _, rfl, by simp [Hid], by simp [go_sem], by simp [go_sem], by simp, (Below.refl _ _).alloc (Nat.le_refl _) _⟩
      case round =>
        obtain ⟨j, hj, rfl, hall, hx0, hx1, hsz, hbel⟩ := hrel
        by_cases hlj : j < d.wr.length
        · obtain ⟨b', off', rfl, hb', hcw⟩ := HW.out.resolve_left (by intro e; rw [e] at hlj; simp at hlj)
          obtain ⟨x, hx⟩ : ∃ x, x = d.wr.getD j (0, ByteArray.empty) := ⟨_, rfl⟩
          obtain ⟨hc1, hc2⟩ := hcw j hlj
          rw [← hx] at hc1 hc2
          have HX : Hid (d.wr[j]? = some x) := by rw [hx]; exact getD_some _ _ _ hlj
          clear hx hcw
          have g1 := cellKeep hbel hb' hc1
          have g2 := cellKeep hbel hb' hc2
          clear hc1 hc2
          obtain ⟨n, s⟩ := x
          have hlj' : (j : Int) < (d.wr.length : Int) := by omega
          cases hf : fitsB s with
          | false =>
            have hf1 : ((s.size : Int) != 32) = true := by simp only [fitsB] at hf; simp only [bne, hf]; rfl
            have hno : wrB (n, s) = false := by simp [wrB, hf]
            have HNO := hide hno
            clear hf hno
            go_wp2
            go_ret
            exact ⟨by rw [goodB, all_no _ _ _ _ HX.out HNO.out]; simp, hbel.alloc (by omega) _⟩
          | true =>
            have hf1 : ((s.size : Int) != 32) = false := by simp only [fitsB] at hf; simp only [bne, hf]; rfl
            cases hp : placeB n with
            | false =>
              have hno : wrB (n, s) = false := by simp [wrB, hp]
              have HNO := hide hno
              clear hf hno
              go_wp2_with (go_at_call 64; refine (isAt_any _ _).mono ?_; rintro e w' ⟨rfl, rfl⟩)
              go_ret
              exact ⟨by rw [goodB, all_no _ _ _ _ HX.out HNO.out]; simp, hbel.alloc (by omega) _⟩
            | true =>
              have hyes : wrB (n, s) = true := by simp [wrB, hp, hf]
              have HY := hide hyes
              clear hf hyes
              go_wp2_with (go_at_call 64; refine (isAt_any _ _).mono ?_; rintro e w' ⟨rfl, rfl⟩)
              go_roundw
              case rel =>
                refine ⟨j + 1, by omega, by go_num, all_succ _ _ _ _ HX.out hall HY.out, ?_, ?_, by simp; omega, hbel.alloc (by omega) _⟩
                · exact cellKeep (below1 _ _) hsz hx0
                · exact cellKeep (below1 _ _) hsz hx1
              case measure => simp [intOf]; omega
        · have HB : Hid (d.wr.all wrB = true) := by
            have e : j = d.wr.length := by omega
            have := hall.out
            rw [e, List.take_length] at this
            exact this
          clear hall
          by_cases h37 : d.safe.length = 37
          · have h37' : ((d.safe.length : Int) == 37) = true := by simp; omega
            have H37 := hide h37
            clear h37
            go_wp2
            go_ret
            refine ⟨?_, hbel⟩
            rw [goodB, HA.out, HB.out, H37.out]
            simp
            omega
          · have h37' : ((d.safe.length : Int) == 37) = false := by simp; omega
            have H37 := hide h37
            clear h37
            go_wp2
            go_ret
            refine ⟨?_, hbel⟩
            rw [goodB]
            simp [H37.out]

/-- wastebookref.GoodDisk answers whether it is a disk. -/
theorem goodDisk_any (v : Value) (d : Dk) (w : World) (h : IsDk w v d) :
    Calls Try.prog 28 #[v] w fun e w' => e = .returned (.bool (goodB d)) ∧ Below w.heap.size w w' := by
  obtain ⟨a, c, a', c', rfl, hs, hw, h1, h2⟩ := h
  exact goodDisk_walk a c a' c' d w hs hw h1 h2

set_option maxHeartbeats 2000000 in
set_option maxRecDepth 100000 in
theorem after_walk (b off c : Nat) (a' : Option Addr) (c' : Nat) (d : Dk) (n : Nat) (w : World) (hn : d.safe.length = 37) (hp : n < 37) (hm : d.wr.length ≤ 200) (hb : b < w.heap.size)
    (hc : ∀ i, i < d.safe.length → w.cell? ⟨b, off + i, none⟩ = some (.string (d.safe.getD i ByteArray.empty))) (hw : SegW w a' d.wr) :
    Calls Try.prog 65 #[.agg #[.slice (some ⟨b, off, none⟩) 37 c, .slice a' d.wr.length c'], .int .i64 n] w fun e w' => ∃ v', e = .returned v' ∧ w'.ownsRow w.heap.size 9 1 v' (ways d n).length (cellsS (ways d n)) ∧ Below w.heap.size w w' := by
  have HW := hide hw
  obtain ⟨z, hz⟩ : ∃ z, z = d.safe.getD n ByteArray.empty := ⟨_, rfl⟩
  have hcn := hc n (by omega)
  rw [← hz] at hcn
  have hp' : (n : Int) < 37 := by omega
  have H0 : Hid (waysTo d n 0 = [z]) := by rw [hz]; rfl
  clear hn hw hc hz
  obtain ⟨i0, hi, hz0, hz1, hz2⟩ := info_parts infoS
  go_enter Try.func65, Try.ntmps65
  go_wp2
  go_loopw [5, 17] (fun v i wr => ∃ k : Nat, k ≤ d.wr.length ∧ i = .int .i64 k ∧ Hid (wr.ownsRow w.heap.size 9 1 v (waysTo d n k).length (cellsS (waysTo d n k))) ∧ Below w.heap.size w wr) (fun _ i _ => d.wr.length - (intOf i).toNat)
  case atStart =>
    refine ⟨0, Nat.zero_le _, rfl, ?_, bthen (below1 _ _) (below1 _ _)⟩
    rw [H0.out]
    have h := World.ownsRow_lit (e := 9) (size := 1) (w.alloc (Obj.cells #[.slice (some ⟨b, off, none⟩) 37 c, .slice a' d.wr.length c'] 25)) #[.string z] 1 (below1 w _).size (by decide) rfl
    unfold Hid
    simpa [cellsS] using h
  case round =>
    obtain ⟨k, hk, rfl, hown, hbr⟩ := hrel
    have hsr := hbr.size
    by_cases hlt : k < d.wr.length
    · obtain ⟨b', off', rfl, hb', hcw⟩ := HW.out.resolve_left (by intro e; rw [e] at hlt; simp at hlt)
      obtain ⟨x, hx⟩ : ∃ x, x = d.wr.getD k (0, ByteArray.empty) := ⟨_, rfl⟩
      obtain ⟨hc1, hc2⟩ := hcw k hlt
      rw [← hx] at hc1 hc2
      have HX : Hid (d.wr[k]? = some x) := by rw [hx]; exact getD_some _ _ _ hlt
      clear hx hcw
      have g1 := cellKeep hbr hb' hc1
      have g2 := cellKeep hbr hb' hc2
      clear hc1 hc2
      have hl := waysTo_length d n k hm
      obtain ⟨m, s⟩ := x
      by_cases he : m = n
      · have he' : (m == (n : Int)) = true := by rw [he]; simp
        have HE : Hid (waysTo d n (k + 1) = waysTo d n k ++ [s]) := waysTo_hit d n k (m, s) HX.out he
        clear he
        go_wp2_with (at_builtin; refine wpList_append_own _ rfl _ _ 22 rfl w.heap.size 9 i0 (.string ⟨#[]⟩) 1 16 Try.underlying22 hi hz0 hz1 hz2 rfl (by decide) _ _ _ rfl ((hown.out.alloc _).alloc _) ⟨wr.heap.size + 1, 0, none⟩ 1 1 (cellsS [s]) rfl ?qc1 ?qc2 ?qc3 ?qc4 ?qc5 ?qc6 ?_)
        case qc1 => rfl
        case qc2 =>
          intro j u hj
          match j, hj with
          | 0, hj => simp [cellsS] at hj; subst hj; simp [go_sem]
        case qc3 => exact cellsS_one
        case qc4 => unfold maxLen; omega
        case qc5 => omega
        case qc6 => omega
        intro v4 w4 hown4 hgrow4 _
        have hb4 : Below w.heap.size w w4 := ((hbr.alloc hsr _).alloc (by simp; omega) _).grown hgrow4 (by simp; omega) (fun k hk => (hown.out.lt k hk).1)
        rw [← cellsS_append, ← HE.out] at hown4
        have hlen : (waysTo d n k).length + 1 = (waysTo d n (k + 1)).length := by rw [HE.out]; simp
        rw [hlen] at hown4
        have HO := hide hown4
        clear hown4 hgrow4 hown hbr
        go_wp2
        go_roundw
        case rel => exact ⟨k + 1, by omega, by go_num, HO, hb4⟩
        case measure => simp [intOf]; omega
      · have he' : (m == (n : Int)) = false := by simpa using he
        have HE : Hid (waysTo d n (k + 1) = waysTo d n k) := waysTo_miss d n k (m, s) HX.out he
        have HO := hide (hown.out.alloc (Obj.cells #[Value.int IntKind.i64 m, Value.string s] 42))
        clear he hown
        go_wp2
        go_roundw
        case rel => exact ⟨k + 1, by omega, by go_num, by rw [HE.out]; exact HO, hbr.alloc hsr _⟩
        case measure => simp [intOf]; omega
    · have e : k = d.wr.length := by omega
      have hw' : waysTo d n k = ways d n := by rw [e, waysTo, List.take_length]; rfl
      rw [hw'] at hown
      clear hw' e
      go_wp2
      go_ret
      exact ⟨_, rfl, hown.out, hbr⟩

/-- wastebookref.after: the texts that a place may have. -/
theorem after_any (v : Value) (d : Dk) (n : Nat) (w : World) (h : IsDk w v d) (hn : d.safe.length = 37) (hp : n < 37) (hm : d.wr.length ≤ 200) :
    Calls Try.prog 65 #[v, .int .i64 n] w fun e w' => ∃ v', e = .returned v' ∧ w'.ownsRow w.heap.size 9 1 v' (ways d n).length (cellsS (ways d n)) ∧ Below w.heap.size w w' := by
  obtain ⟨a, c, a', c', rfl, hs, hw, h1, h2⟩ := h
  obtain ⟨b, off, rfl, hb, hc⟩ := hs.resolve_left (by intro e; rw [e] at hn; simp at hn)
  have := after_walk b off c a' c' d n w hn hp hm hb hc hw
  rw [← hn] at this
  exact this


end Go.Proofs.Ytjnpndfpajjihaa
