/-
  The walk of the statement DiskKeeps: it says true at every disk and draw.
-/
import Derived.Test.YtjnpndfpajjihaaTurns
import Derived.Test.YtjnpndfpajjihaaKeepsPure
namespace Go.Proofs.Ytjnpndfpajjihaa
open Go.RowKit

set_option maxHeartbeats 2000000 in
set_option maxRecDepth 100000 in
theorem keeps_no (v : Value) (d : Dk) (q : Int) (w : World) (h : IsDk w v d) (hq : q ≤ 9223372036854775807) (hno : crashE d q ≠ 0) (g : Bool) (k : Int) (hgood : goodB d = g) (hfl : flushE d = k) (hgk : (g = true ∧ k = 0) ∨ (g = false ∧ k = 2)) :
    Calls Try.prog 5 #[v, .int .i64 q] w fun e w' => e = .returned (.bool true) ∧ Below w.heap.size w w' := by
  have HI := hide h
  obtain ⟨a, c, a', c', rfl, _, _, _, _⟩ := h
  have hE : crashE d q = 2 := by
    unfold crashE at hno ⊢
    by_cases e : (goodB d && decide (0 ≤ q)) = true
    · rw [if_pos e] at hno; exact absurd rfl hno
    · rw [if_neg e]
  have HG := hide hgood
  have HF := hide hfl
  clear hgood hfl
  go_enter Try.func5, Try.ntmps5
  go_wp2_with fail
  refine (crash_any _ d q _ (HI.out.below (below1 _ _)) hq).mono ?_
  rintro e w1 ⟨v1, rfl, _, hv1, hb1⟩
  have hv := hv1 hno
  clear hv1
  subst hv
  rw [hE]
  clear hno hE
  have hs1 : w.heap.size < w1.heap.size := by have := hb1.size; simp at this; omega
  have x0 := cellKeep hb1 (b := w.heap.size) (o := 0) (v := .slice a d.safe.length c) (by simp) (by simp [go_sem])
  have x1 := cellKeep hb1 (b := w.heap.size) (o := 1) (v := .slice a' d.wr.length c') (by simp) (by simp [go_sem])
  have hb2 := bthen (below1 _ _) hb1
  clear hb1
  go_wp2_with fail
  refine (flush_any _ d _ (HI.out.below (bthen hb2 (below1 _ _)))).mono ?_
  rintro e w3 ⟨v3, rfl, hd3, _, hb3⟩
  rw [HF.out]
  obtain ⟨a3, c3, a3', c3', rfl, _, _, _, _⟩ := hd3
  have hb4 : Below w1.heap.size w1 w3 := bthen (below1 _ _) hb3
  have hs4 := hb4.size
  have hs5 : w.heap.size < w3.heap.size := by omega
  have x2 := cellKeep hb4 hs1 x0
  have x3 := cellKeep hb4 hs1 x1
  have hb5 := bthen hb2 hb4
  clear hb2 hb3 hb4 x0 x1
  go_wp2_with fail
  refine (good_any _ d _ (HI.out.below (bthen hb5 (below1 _ _)))).mono ?_
  rintro e w6 ⟨rfl, hb6⟩
  rw [HG.out]
  have hb7 := bthen (bthen hb5 (below1 _ _)) hb6
  clear hb5 hb6 x2 x3
  rcases hgk with ⟨rfl, rfl⟩ | ⟨rfl, rfl⟩
  all_goals
    go_wp2_with fail
    refine (turns_any _).mono ?_
    rintro e w8 ⟨rfl, hb8⟩
    have HB := hide (bthen hb7 hb8)
    clear hb7 hb8
    go_wp2
    go_ret
    exact ⟨rfl, HB.out⟩

/-- Is a text the safe one, or that of one of the first writes to this place? (As the statement asks it.) -/
def oneTo (d : Dk) (k : Nat) (s t : ByteArray) (j : Nat) : Bool := (s.toList == t.toList) || (d.wr.take j).any fun x => x.1 == (k : Int) && x.2.toList == s.toList

theorem one_succ (d : Dk) (k : Nat) (s t : ByteArray) (j : Nat) (x : Int × ByteArray) (h : d.wr[j]? = some x) : oneTo d k s t (j + 1) = (oneTo d k s t j || (x.1 == (k : Int) && x.2.toList == s.toList)) := by
  rw [oneTo, oneTo, List.take_add_one, h, List.any_append, Bool.or_assoc]
  simp

theorem one_true (d : Dk) (k : Nat) (s t : ByteArray) (j : Nat) (hj : d.wr.length ≤ j) (h : s = t ∨ ((k : Int), s) ∈ d.wr) : oneTo d k s t j = true := by
  rw [oneTo, List.take_of_length_le hj, Bool.or_eq_true]
  rcases h with rfl | h
  · exact .inl (by simp)
  · exact .inr (List.any_eq_true.2 ⟨_, h, by simp⟩)

set_option maxHeartbeats 4000000 in
set_option maxRecDepth 100000 in
theorem keeps_ok (v : Value) (d : Dk) (q : Nat) (w : World) (h : IsDk w v d) (hq : q ≤ 9223372036854775807) (hg : goodB d = true) :
    Calls Try.prog 5 #[v, .int .i64 q] w fun e w' => e = .returned (.bool true) ∧ Below w.heap.size w w' := by
  have HI := hide h
  obtain ⟨a, c, a', c', rfl, hS, hW, _, _⟩ := h
  have H37 := hide (good_len37 hg)
  obtain ⟨b, off, rfl, hbS, hcS⟩ := hS.resolve_left (by intro e; have := H37.out.1; rw [e] at this; simp at this)
  have HS := hide hcS
  have HW := hide hW
  have HR := hide (fun k hk => read_crash hg q (k := k) hk)
  have HRF := hide (fun k hk => read_flush hg (k := k) hk)
  have HCF := hide (crashK_flushed d hg q (by omega))
  clear hS hcS hW
  have hE : crashE d q = 0 := by simp [crashE, hg]
  have hK : crashK d q = ⟨(crashL d q 37).1, []⟩ := by simp [crashK, hg]
  have hF : flushE d = 0 := by simp [flushE, hg]
  have hFK : flushK d = ⟨flushL d 37, []⟩ := by simp [flushK, hg]
  have hc37 := crashL_length d q 37
  have hf37 := flushL_length d 37
  have h200 := H37.out.2
  generalize (crashL d q 37).1 = cl at hK HR hc37
  generalize flushL d 37 = fl at hFK HRF HCF hf37
  have HC37 := hide hc37
  have HF37 := hide hf37
  clear hc37 hf37
  rw [H37.out.1]
  go_enter Try.func5, Try.ntmps5
  go_wp2_with fail
  refine (crash_any _ d q _ (by have := HI.out.below (below1 w (Obj.cells #[.slice (some ⟨b, off, none⟩) 37 c, .slice a' d.wr.length c'] 25)); rw [H37.out.1] at this; exact this) (by omega)).mono ?_
  rintro e w1 ⟨v1, rfl, hd1, _, hb1⟩
  rw [hE]
  rw [hK] at hd1
  clear hE hK
  have HD1 := hide hd1
  obtain ⟨a1, c1, a1', c1', rfl, _, _, _, _⟩ := hd1
  have hs1 : w.heap.size < w1.heap.size := by have := hb1.size; simp at this; omega
  have x0 := cellKeep hb1 (b := w.heap.size) (o := 0) (v := .slice (some ⟨b, off, none⟩) 37 c) (by simp) (by simp [go_sem])
  have x1 := cellKeep hb1 (b := w.heap.size) (o := 1) (v := .slice a' d.wr.length c') (by simp) (by simp [go_sem])
  have hb2 := bthen (below1 _ _) hb1
  clear hb1
  go_wp2_with fail
  refine (flush_any _ d _ (by have := HI.out.below (bthen hb2 (below1 w1 (Obj.cells #[.slice a1 cl.length c1, .slice a1' 0 c1'] 25))); rw [H37.out.1] at this; exact this)).mono ?_
  rintro e w2 ⟨v2, rfl, hd2, _, hb3⟩
  rw [hF]
  rw [hFK] at hd2
  clear hF hFK
  have HD2 := hide hd2
  obtain ⟨a2, c2, a2', c2', rfl, _, _, _, _⟩ := hd2
  have y0 := cellKeep hb3 (b := w1.heap.size) (o := 0) (v := .slice a1 cl.length c1) (by simp) (by simp [go_sem])
  have y1 := cellKeep hb3 (b := w1.heap.size) (o := 1) (v := .slice a1' 0 c1') (by simp) (by simp [go_sem])
  have hs3 : w1.heap.size < w2.heap.size := by have := hb3.size; simp at this; omega
  have hb4 : Below w1.heap.size w1 w2 := bthen (below1 _ _) hb3
  have x2 := cellKeep hb4 hs1 x0
  have x3 := cellKeep hb4 hs1 x1
  clear hb3 x0 x1
  go_wp2_with fail
  refine (turns_any _).mono ?_
  rintro e w3 ⟨rfl, hb5⟩
  have z0 := cellKeep hb5 (b := w2.heap.size) (o := 0) (v := .slice a2 fl.length c2) (by simp) (by simp [go_sem])
  have z1 := cellKeep hb5 (b := w2.heap.size) (o := 1) (v := .slice a2' 0 c2') (by simp) (by simp [go_sem])
  have hs5 : w2.heap.size < w3.heap.size := by have := hb5.size; simp at this; omega
  have hb6 : Below w2.heap.size w2 w3 := bthen (below1 _ _) hb5
  have x4 := cellKeep hb6 (by omega) x2
  have x5 := cellKeep hb6 (by omega) x3
  have y2 := cellKeep hb6 (by omega) y0
  have y3 := cellKeep hb6 (by omega) y1
  have hb7 := bthen hb2 (bthen hb4 hb6)
  have HDD : Hid (IsDk w3 (.agg #[.slice (some ⟨b, off, none⟩) 37 c, .slice a' d.wr.length c']) d) := by have := HI.out.below hb7; rw [H37.out.1] at this; exact this
  have HDC := hide (HD1.out.below (bthen hb4 hb6))
  have HDF := hide (HD2.out.below hb6)
  clear hb2 hb4 hb5 hb6 x2 x3 y0 y1 HD1 HD2 HI
  go_wp2
  go_loopw [9] (fun i wr => ∃ k : Nat, k ≤ 37 ∧ i = .int .i64 k ∧ Below w3.heap.size w3 wr) (fun i _ => 37 - (intOf i).toNat)
  case atStart => exact ⟨0, Nat.zero_le _, rfl, Below.refl _ _⟩
  case round =>
    obtain ⟨k, hk, rfl, hbr⟩ := hrel
    have hsr := hbr.size
    by_cases hlt : k < 37
    · have hlt' : (k : Int) < 37 := by omega
      have yr0 := cellKeep hbr (by omega) y2
      have yr1 := cellKeep hbr (by omega) y3
      go_wp2_with fail
      refine (read_any _ _ k _ (HDC.out.below hbr)).mono ?_
      rintro e w4 ⟨rfl, hb8⟩
      have hR := HR.out k hlt
      obtain ⟨s, hs⟩ : ∃ s, s = readT ⟨cl, []⟩ k := ⟨_, rfl⟩
      rw [← hs] at hR
      rw [← hs]
      clear hs
      generalize readE ⟨cl, []⟩ k = e0
      have HRk := hide hR
      have hb9 := bthen hbr hb8
      have hs9 := hb9.size
      have xr0 := cellKeep hb9 (by omega) x4
      have xr1 := cellKeep hb9 (by omega) x5
      have zr0 := cellKeep hb9 (by omega) z0
      have zr1 := cellKeep hb9 (by omega) z1
      have hck := cellKeep (bthen hb7 hb9) hbS (HS.out k (by rw [H37.out.1]; exact hlt))
      obtain ⟨t, ht⟩ : ∃ t, t = d.safe.getD k ByteArray.empty := ⟨_, rfl⟩
      rw [← ht] at hck hR
      have HRt := hide hR
      clear hR HRk ht yr0 yr1 hb8 hbr hsr
      go_wp2
      go_loopw [12, 70] (fun o i wr => ∃ (j : Nat) (g : Bool), j ≤ d.wr.length ∧ i = .int .i64 j ∧ o = .bool g ∧ Hid (g = oneTo d k s t j) ∧ Below w4.heap.size w4 wr) (fun _ i _ => d.wr.length - (intOf i).toNat)
      case atStart => exact ⟨0, _, Nat.zero_le _, rfl, rfl, by simp [Hid, oneTo], Below.refl _ _⟩
      case round =>
        obtain ⟨j, g, hj, rfl, rfl, hone, hbj⟩ := hrel
        have hsj := hbj.size
        by_cases hltj : j < d.wr.length
        · obtain ⟨b', off', rfl, hb', hcw⟩ := HW.out.resolve_left (by intro e; rw [e] at hltj; simp at hltj)
          obtain ⟨x, hx⟩ : ∃ x, x = d.wr.getD j (0, ByteArray.empty) := ⟨_, rfl⟩
          obtain ⟨hc1, hc2⟩ := hcw j hltj
          rw [← hx] at hc1 hc2
          have HX : Hid (d.wr[j]? = some x) := by rw [hx]; exact getD_some _ _ _ hltj
          clear hx hcw
          have g1 := cellKeep hbj (by omega) (cellKeep (bthen hb7 hb9) hb' hc1)
          have g2 := cellKeep hbj (by omega) (cellKeep (bthen hb7 hb9) hb' hc2)
          clear hc1 hc2
          obtain ⟨m, u⟩ := x
          have HO := hide (one_succ d k s t j (m, u) HX.out)
          cases g with
          | true =>
            go_wp2
            go_roundw
            case rel => exact ⟨j + 1, _, by omega, by go_num, rfl, by rw [Hid, HO.out, ← hone.out]; rfl, hbj.alloc hsj _⟩
            case measure => simp [intOf]; omega
          | false =>
            by_cases hmk : (m == (k : Int)) = true
            · cases hus : (u.toList == s.toList)
              all_goals
                have HM := hide hmk
                have HU := hide hus
                go_wp2
                go_roundw
                case rel => exact ⟨j + 1, _, by omega, by go_num, rfl, by rw [Hid, HO.out, ← hone.out]; simp only [HM.out, HU.out]; rfl, hbj.alloc hsj _⟩
                case measure => simp [intOf]; omega
            · have hmk' : (m == (k : Int)) = false := by simpa using hmk
              have HM := hide hmk'
              clear hmk
              go_wp2
              go_roundw
              case rel => exact ⟨j + 1, _, by omega, by go_num, rfl, by rw [Hid, HO.out, ← hone.out]; simp only [HM.out]; rfl, hbj.alloc hsj _⟩
              case measure => simp [intOf]; omega
        · have hg1 : g = true := by rw [hone.out]; exact one_true d k s t j (by omega) HRt.out
          subst hg1
          clear hone
          have xs0 := cellKeep hbj (by omega) xr0
          have xs1 := cellKeep hbj (by omega) xr1
          have zs0 := cellKeep hbj (by omega) zr0
          have zs1 := cellKeep hbj (by omega) zr1
          have hb10 := bthen hb9 hbj
          clear xr0 xr1 zr0 zr1 hck
          go_wp2_with fail
          refine (read_any _ d k _ (HDD.out.below hb10)).mono ?_
          rintro e w5 ⟨rfl, hb11⟩
          have hs11 := hb11.size
          have zt0 := cellKeep hb11 (by omega) zs0
          have zt1 := cellKeep hb11 (by omega) zs1
          have hb12 := bthen hb10 hb11
          clear xs0 xs1 zs0 zs1
          go_wp2_with fail
          refine (read_any _ _ k _ (HDF.out.below hb12)).mono ?_
          rintro e w6 ⟨rfl, hb13⟩
          rw [HRF.out k hlt]
          have hb14 := bthen hb12 hb13
          clear zt0 zt1 hb9 hbj hb10 hb11 hb12 hb13
          generalize readT d k = rt
          generalize readE d k = re
          generalize readE ⟨fl, []⟩ k = rf
          go_wp2
          go_roundw
          case rel => exact ⟨k + 1, by omega, by go_num, hb14⟩
          case measure => simp [intOf]; omega
    · have zr0 := cellKeep hbr (by omega) z0
      have zr1 := cellKeep hbr (by omega) z1
      have yr0 := cellKeep hbr (by omega) y2
      have yr1 := cellKeep hbr (by omega) y3
      go_wp2_with fail
      refine (crash_any _ _ q _ (HDF.out.below hbr) (by omega)).mono ?_
      rintro e w8 ⟨v8, rfl, hd8, _, hb8⟩
      rw [HCF.out.1] at hd8
      rw [HCF.out.2]
      have HD8 := hide hd8
      obtain ⟨a8, c8, a8', c8', rfl, _, _, _, _⟩ := hd8
      have hs8 := hb8.size
      have hs9 : w2.heap.size < w8.heap.size := by omega
      have hs10 : w1.heap.size < w8.heap.size := by omega
      have zs0 := cellKeep hb8 (by omega) zr0
      have zs1 := cellKeep hb8 (by omega) zr1
      have ys1 := cellKeep hb8 (by omega) yr1
      have hb9 := bthen hbr hb8
      clear zr0 zr1 yr0 yr1 hb8 hbr
      go_wp2_with fail
      refine (same_any _ _ ⟨fl, []⟩ _ (HD8.out.below (below1 _ _)) (HDF.out.below (bthen hb9 (below1 _ _)))).mono ?_
      rintro e w10 ⟨rfl, hb10⟩
      have hs11 : w8.heap.size < w10.heap.size := by have := hb10.size; simp at this; omega
      have hb11 : Below w8.heap.size w8 w10 := bthen (below1 _ _) hb10
      have yt1 := cellKeep hb11 (by omega) ys1
      have HB := hide (bthen hb7 (bthen hb9 hb11))
      clear hb9 hb10 hb11 zs0 zs1 ys1
      go_wp2
      go_ret
      exact ⟨rfl, HB.out⟩

end Go.Proofs.Ytjnpndfpajjihaa
