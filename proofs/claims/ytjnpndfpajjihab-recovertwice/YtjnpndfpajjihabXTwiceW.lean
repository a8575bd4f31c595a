/-
  The walk of the statement RecoverTwice: it says true at every disk and two numbers.
-/
import Derived.Test.YtjnpndfpajjihabGrRecoverTwice50
import Derived.Test.YtjnpndfpajjihabGrRecoverTwice51
import Derived.Test.YtjnpndfpajjihabRInv
import Derived.Deep.RegionHeld3
import Derived.Great.Frames
namespace Go.Proofs.Ytjnpndfpajjihab
open Go.RowKit

def TwiceOk (D : Dk) (ST : List St) (cs : List (Int × ByteArray)) (P N : Int) : Prop :=
  ∀ (k : Nat) (q : Int) (R X : Dk), k ≤ ST.length → 0 ≤ q → R = runK D (ST.take k) → X = crashK R q → crashE R q = 0 ∧ scanE X = 0 ∧ fndN X = N ∧ fndP X = P ∧ (∀ t ∈ fndL X, goodX t = true) ∧ (k < ST.length ∨ fndL X = []) ∧
    ∀ Y, Y = runK X (checkS (newestL (fndL X)) P N) → (∀ x ∈ cs, readT Y (25 + x.1) = x.2) ∧ scanE Y = 0 ∧ fndL Y = [] ∧ fndN Y = N ∧ fndP Y = P
theorem twice_ok {D : Dk} (hE : scanE D = 0) (hw : D.wr = []) (hG : ∀ t ∈ fndL D, goodX t = true) (hlt : laterB D (fndN D) = false) : TwiceOk D (checkS (newestL (fndL D)) (fndP D) (fndN D)) (newestL (fndL D)) (fndP D) (fndN D) := by
  intro k q R X hk hq hR hX
  have h := twice_pure hE hw hG hlt hk hq hR hX
  refine ⟨h.1, h.2.1, h.2.2.1, h.2.2.2.1, h.2.2.2.2.1, h.2.2.2.2.2.1, fun Y hY => ?_⟩
  refine h.2.2.2.2.2.2 Y ?_
  rw [h.2.2.1, h.2.2.2.1]
  exact hY
theorem newestL_in {l : List Tx} {x : Int × ByteArray} (h : x ∈ newestL l) : 0 ≤ x.1 ∧ x.1 ≤ 11 := by
  unfold newestL asN at h
  obtain ⟨i, hi, hx⟩ := List.mem_flatMap.1 h
  have hi' := List.mem_range.1 hi
  unfold oneC at hx
  cases hf : newestF l (i : Int) with
  | none => rw [hf] at hx; simp at hx
  | some s => rw [hf] at hx; simp at hx; subst hx; simp; omega
theorem told_reachT {d : Dk} : ∀ t ∈ fndL d, Reached t := by
  intro t ht
  by_cases h : scanE d = 0
  · obtain ⟨h1, h2, h3, _⟩ := (fnd_facts h).1 t ht
    unfold Reached
    rw [h3]
    refine ⟨by omega, by simp, by omega⟩
  · rw [fndL, if_neg h] at ht; cases ht
theorem scan_wr {d : Dk} (h : scanE (flushK d) = 0) : (flushK d).wr = [] := by
  have hg := (scan_good2 h).1
  unfold flushK at hg ⊢
  split
  · rfl
  · rename_i hx
    rw [if_neg hx] at hg
    exact absurd hg hx
theorem SegSt.take {w : World} {a : Option Addr} {l : List St} (h : SegSt w a l) (k : Nat) : SegSt w a (l.take k) := by
  rcases h with rfl | ⟨b, off, rfl, hlt, hc⟩
  · exact .inl (by simp)
  · refine .inr ⟨b, off, rfl, hlt, fun i hi => ?_⟩
    rw [List.length_take] at hi
    have := hc i (by omega)
    have e : (l.take k).getD i st0 = l.getD i st0 := by rw [List.getD, List.getD, List.getElem?_take_of_lt (by omega)]
    rw [e]
    exact this
theorem run_n (v : Value) (d : Dk) (a : Option Addr) (n c : Nat) (l : List St) (w : World) (hl : n = l.length) (h : IsDk w v d) (hS : SegSt w a l) (hn : l.length ≤ 1000) :
    Calls Try.prog 57 #[v, .slice a n c] w fun e w' => ∃ v2, e = .returned v2 ∧ IsDk w' v2 (runK d l) ∧ Below w.heap.size w w' := by
  subst hl
  exact run_any v d a c l w h hS hn

/-- What each operation of the region leaves. -/
def twPsi (w8 : World) (DV SV SK : Value) (kn dr q : Int) (R X : Dk) : Nat → Value → World → Prop
  | 0, v, _ => v = DV
  | 1, v, _ => v = SV
  | 2, v, _ => v = .int .i64 kn
  | 3, v, _ => v = SK
  | 4, v, w => IsDk w v R
  | 5, v, _ => v = .int .i64 dr
  | 6, v, _ => v = .int .i64 q
  | 7, v, w => ∃ u, v = .tuple #[u, .int .i64 0] ∧ IsDk w u X
  | 8, v, w => ∃ u, v = .tuple #[u, .int .i64 0] ∧ IsDk w u X
  | 9, v, w => IsDk w v X
  | 10, v, _ => v = .int .i64 0
  | 11, v, w => ∃ T a1 n1 c1 a2 n2 c2, v = .pointer (some ⟨T, 0, none⟩) ∧ w8.heap.size ≤ T ∧ w.heap[T]? = some (.cells #[.slice a1 n1 c1, .slice a2 n2 c2] 69 (0, 0))
  | 12, v, w => ∃ T a1 n1 c1 a2 n2 c2, v = .pointer (some ⟨T, 0, none⟩) ∧ w8.heap.size ≤ T ∧ w.heap[T]? = some (.cells #[.slice a1 n1 c1, .slice a2 n2 c2] 69 (0, 0)) ∧ IsDk w (.agg #[.slice a1 n1 c1, .slice a2 n2 c2]) X
  | 13, v, _ => v = .int .i64 0
  | _, _, _ => True
theorem twPsi_below {w8 : World} {DV SV SK : Value} {kn dr q : Int} {R X : Dk} {w w' : World} (hb : Below w.heap.size w w') {i : Nat} : ∀ j u, j ≠ i → twPsi w8 DV SV SK kn dr q R X j u w → twPsi w8 DV SV SK kn dr q R X j u w' := by
  intro j u _ h
  match j, h with
  | 0, h => exact h
  | 1, h => exact h
  | 2, h => exact h
  | 3, h => exact h
  | 4, h => exact IsDk.below h hb
  | 5, h => exact h
  | 6, h => exact h
  | 7, ⟨x, h1, h2⟩ => exact ⟨x, h1, h2.below hb⟩
  | 8, ⟨x, h1, h2⟩ => exact ⟨x, h1, h2.below hb⟩
  | 9, h => exact IsDk.below h hb
  | 10, h => exact h
  | 11, ⟨T, a1, n1, c1, a2, n2, c2, h1, h2, h3⟩ => exact ⟨T, a1, n1, c1, a2, n2, c2, h1, h2, boxKeep hb (Array.getElem?_eq_some_iff.1 h3).1 h3⟩
  | 12, ⟨T, a1, n1, c1, a2, n2, c2, h1, h2, h3, h4⟩ => exact ⟨T, a1, n1, c1, a2, n2, c2, h1, h2, boxKeep hb (Array.getElem?_eq_some_iff.1 h3).1 h3, h4.below hb⟩
  | 13, h => exact h
  | _ + 14, _ => exact trivial
theorem twPsi_store {w8 : World} {DV SV SK : Value} {kn dr q : Int} {R X : Dk} {w : World} {T : Nat} {a1 a2 : Option Addr} {n1 c1 n2 c2 : Nat} (hB : w.heap[T]? = some (.cells #[.slice a1 n1 c1, .slice a2 n2 c2] 69 (0, 0))) (b1 b2 : Option Addr) (m1 k1 m2 k2 : Nat) : ∀ j u, j ≠ 12 → twPsi w8 DV SV SK kn dr q R X j u w → twPsi w8 DV SV SK kn dr q R X j u ((w.setCell ⟨T, 0, none⟩ (.slice b1 m1 k1)).setCell ⟨T, 1, none⟩ (.slice b2 m2 k2)) := by
  intro j u hj h
  have k : ∀ {v : Value} {d : Dk}, IsDk w v d → IsDk ((w.setCell ⟨T, 0, none⟩ (.slice b1 m1 k1)).setCell ⟨T, 1, none⟩ (.slice b2 m2 k2)) v d := fun h => (h.setBox hB 0 _).setBox (heap_setCell_same _ _ 0 _ _ (.slice b1 m1 k1) hB) 1 _
  match j, h with
  | 0, h => exact h
  | 1, h => exact h
  | 2, h => exact h
  | 3, h => exact h
  | 4, h => exact k h
  | 5, h => exact h
  | 6, h => exact h
  | 7, ⟨x, h1, h2⟩ => exact ⟨x, h1, k h2⟩
  | 8, ⟨x, h1, h2⟩ => exact ⟨x, h1, k h2⟩
  | 9, h => exact k h
  | 10, h => exact h
  | 11, ⟨T', d0, d1, d2, d3, d4, d5, h1, h2, h3⟩ =>
    by_cases e : T' = T
    · subst e; exact ⟨T', _, _, _, _, _, _, h1, h2, stored2 hB _ _⟩
    · exact ⟨T', d0, d1, d2, d3, d4, d5, h1, h2, by rw [Below.heap_setCell _ _ _ _ e, Below.heap_setCell _ _ _ _ e]; exact h3⟩
  | 12, _ => exact absurd rfl hj
  | 13, h => exact h
  | _ + 14, _ => exact trivial

set_option maxHeartbeats 16000000 in
set_option maxRecDepth 100000 in
theorem twice_walk (v : Value) (d : Dk) (st dr : Int) (w : World) (h : IsDk w v d) (hs0 : -9223372036854775808 ≤ st) (hs1 : st ≤ 9223372036854775807) (hd0 : -9223372036854775808 ≤ dr) (hd1 : dr ≤ 9223372036854775807) :
    Calls Try.prog 10 #[v, .int .i64 st, .int .i64 dr] w fun e w' => e = .returned (.bool true) ∧ Below w.heap.size w w' := by
  have HD0 := hide h
  obtain ⟨x, cx, y, cy, rfl, _, _, _, _⟩ := h
  go_enter Try.func10, Try.ntmps10
  go_wp2_with fail
  refine (flush_any _ d _ (HD0.out.below (below1 _ _))).mono ?_
  rintro e w1 ⟨v1, rfl, hD1, _, hb⟩
  have HD1 := hide hD1
  obtain ⟨e1, e2, e3, e4, rfl, _, _, _, _⟩ := hD1
  have KB := hide (one1 hb)
  have hs1' : w.heap.size < w1.heap.size := by have := hb.size; simp at this; omega
  have HB1 := hide (bthen (below1 _ _) hb)
  obtain ⟨⟨y0, y1⟩, yf⟩ := box2 KB.out
  obtain ⟨D, hD⟩ : ∃ D, D = flushK d := ⟨_, rfl⟩
  have HWR : Hid (scanE D = 0 → D.wr = []) := by rw [hD]; exact scan_wr
  rw [← hD] at HD1 ⊢
  clear hb hD HD0
  generalize flushE d = E0
  generalize hn1 : D.safe.length = n1 at *
  generalize hn2 : D.wr.length = n2 at *
  have HN1 := hide hn1
  have HN2 := hide hn2
  clear hn1 hn2
  go_wp2_with fail
  obtain ⟨W1, hW1⟩ : ∃ W1, W1 = ((w1.setCell ⟨w.heap.size, 0, none⟩ (.slice e1 n1 e2)).setCell ⟨w.heap.size, 1, none⟩ (.slice e3 n2 e4)) := ⟨_, rfl⟩
  have KB1 : Hid (W1.heap[w.heap.size]? = some (.cells #[.slice e1 n1 e2, .slice e3 n2 e4] 69 (0, 0))) := by rw [hW1]; exact stored2 KB.out _ _
  have HD2 : Hid (IsDk W1 (.agg #[.slice e1 n1 e2, .slice e3 n2 e4]) D) := by
    rw [hW1]
    exact (HD1.out.setBox KB.out 0 _).setBox (heap_setCell_same _ _ 0 _ _ (.slice e1 n1 e2) KB.out) 1 _
  have HBW : Hid (Below w.heap.size w W1) := by rw [hW1]; exact (HB1.out.setCell (p := ⟨w.heap.size, 0, none⟩) (by simp) _).setCell (p := ⟨w.heap.size, 1, none⟩) (by simp) _
  have hsW : w.heap.size < W1.heap.size := by rw [hW1]; simpa [World.setCell] using hs1'
  rw [← hW1]
  clear hW1 KB HD1 HB1 y0 y1 yf hs1'
  refine (scan_n _ _ _ _ _ _ D _ HN1.out.symm HN2.out.symm HD2.out).mono ?_
  intro e w3 hP
  obtain ⟨va, vc, rfl, hS3, hb3⟩ := hP.found
  have HS3 := hide hS3
  have KB3 := hide (boxKeep hb3 hsW KB1.out)
  have HB3 := hide hb3
  have hs3 : w.heap.size < w3.heap.size := Nat.lt_of_lt_of_le hsW hb3.size
  clear hP hS3 hb3
  have hll := fndL_len D
  have HRE := hide (told_reachT (d := D))
  by_cases hE : scanE D = 0
  · rw [hE]
    have HOK := hide hE
    have HW0 := hide (HWR.out hE)
    clear hE HWR
    go_wp2_with fail
    refine (tellsK_any _).mono ?_
    rintro e w4 ⟨rfl, hb4⟩
    have KF4 := hide (one1 hb4)
    have HB4 := hide (bthen (below1 _ _) hb4)
    have hs4 : w3.heap.size < w4.heap.size := by have := hb4.size; simp at this; omega
    clear hb4
    obtain ⟨⟨z0, z1, z2⟩, zf⟩ := box3 KF4.out
    go_wp2_with fail
    refine (goods_any va vc (fndL D) _ _ _ (HS3.out.below HB4.out) (Nat.le_trans hll (by decide)) HRE.out).mono ?_
    rintro e w5 ⟨rfl, hb5⟩
    have KF5 := hide (boxKeep hb5 hs4 KF4.out)
    have KB5 := hide (boxKeep (bthen HB4.out hb5) hs3 KB3.out)
    have HB5 := hide (bthen HB4.out hb5)
    have HB6 := hide (bthen (bthen HBW.out HB3.out) HB5.out)
    have hs5 : w3.heap.size < w5.heap.size := by have := hb5.size; omega
    clear hb5 KF4 KB3 z0 z1 z2 zf
    cases hg : (fndL D).all goodX with
    | false =>
      go_wp2_with fail
      refine (tellsK_any _).mono ?_
      rintro e w9 ⟨rfl, hb9⟩
      have HB9 := hide (bthen HB6.out hb9)
      clear hb9
      go_wp2
      go_ret
      exact ⟨rfl, HB9.out⟩
    | true =>
      have HG : Hid (∀ t ∈ fndL D, goodX t = true) := List.all_eq_true.1 hg
      have HFW : Hid (∀ t ∈ fndL D, Few t) := fun t ht => few_good (HG.out t ht)
      have HCK := hide (check_ok HOK.out HG.out)
      clear hg
      obtain ⟨⟨z0, z1, z2⟩, zf⟩ := box3 KF5.out
      obtain ⟨⟨y0, y1⟩, yf⟩ := box2 KB5.out
      go_wp2_with fail
      refine (later_any _ D (fndN D) _ ((HD2.out.below HB3.out).below HB5.out)).mono ?_
      rintro e w6 ⟨rfl, hb6⟩
      have KF6 := hide (boxKeep hb6 hs5 KF5.out)
      have KB6 := hide (boxKeep hb6 (show w.heap.size < w5.heap.size by omega) KB5.out)
      have HBA := hide (bthen HB5.out hb6)
      replace HB6 := hide (bthen HB6.out hb6)
      have hs6 : w3.heap.size < w6.heap.size := by have := hb6.size; omega
      have hs6a : w.heap.size < w6.heap.size := by omega
      clear hb6 KF5 KB5 HB5 hs5 z0 z1 z2 zf y0 y1 yf
      cases hlt : laterB D (fndN D) with
      | true =>
        go_wp2_with fail
        refine (tellsK_any _).mono ?_
        rintro e w9 ⟨rfl, hb9⟩
        have HB9 := hide (bthen HB6.out hb9)
        clear hb9
        go_wp2
        go_ret
        exact ⟨rfl, HB9.out⟩
      | false =>
        have HLT := hide hlt
        clear hlt
        obtain ⟨L, hL⟩ : ∃ L, L = fndL D := ⟨_, rfl⟩
        obtain ⟨N, hN⟩ : ∃ N, N = fndN D := ⟨_, rfl⟩
        obtain ⟨P, hP⟩ : ∃ P, P = fndP D := ⟨_, rfl⟩
        have HSL := hide (HS3.out.below HBA.out)
        have HTW := hide (twice_ok HOK.out HW0.out HG.out HLT.out)
        rw [← hN, ← hP, ← hL] at KF6 HCK HTW ⊢
        rw [← hL] at HSL HFW hll
        have HLE := hide hL
        have HNE := hide hN
        have HPE := hide hP
        clear hL hN hP HS3
        obtain ⟨⟨z0, z1, z2⟩, zf⟩ := box3 KF6.out
        go_wp2_with fail
        refine (replay_any va vc L _ HSL.out (by omega) HFW.out).mono ?_
        rintro e w7 ⟨v7, rfl, hO7, hb7⟩
        obtain ⟨ya, yc, rfl, hS7, _⟩ := SegC.of_owns hO7
        have HS7 := hide hS7
        have KF7 := hide (boxKeep hb7 hs6 KF6.out)
        have KB7 := hide (boxKeep hb7 hs6a KB6.out)
        have HB7 := hide (bthen HBA.out hb7)
        have HBB := hide (bthen HB6.out hb7)
        have hs7 : w3.heap.size < w7.heap.size := by have := hb7.size; omega
        have hs7a : w.heap.size < w7.heap.size := by omega
        clear hb7 hO7 hS7 z0 z1 z2 zf KF6 KB6 HB6 HBA
        obtain ⟨cs, hcs⟩ : ∃ cs, cs = newestL L := ⟨_, rfl⟩
        have hcl : cs.length ≤ 12 := by rw [hcs]; exact asN_length _ 12
        rw [← hcs] at HS7 HCK HTW ⊢
        have HCS := hide hcs
        clear hcs
        obtain ⟨⟨z0, z1, z2⟩, zf⟩ := box3 KF7.out
        go_wp2_with fail
        refine (check_cap ya yc cs P N _ HS7.out (by omega)).mono ?_
        rintro e w8 ⟨sa, sc, rfl, hcap, hS8, hb8⟩
        have HS8 := hide hS8
        have HCR := hide (HS7.out.below hb8)
        have KF8 := hide (boxKeep hb8 hs7 KF7.out)
        have KB8 := hide (boxKeep hb8 hs7a KB7.out)
        have HB8 := hide (bthen HB7.out hb8)
        replace HBB := hide (bthen HBB.out hb8)
        have hs8 : w3.heap.size < w8.heap.size := by have := hb8.size; omega
        have hs8a : w.heap.size < w8.heap.size := by omega
        clear hb8 hS8 z0 z1 z2 zf KF7 KB7 HB7 HS7
        have hlenS : (checkS cs P N).length ≤ 20 := by
          rw [checkS, if_pos HCK.out, homeS, List.length_append, List.length_append, homeM_length]
          split <;> simp <;> omega
        rw [HCK.out]
        obtain ⟨ST, hST⟩ : ∃ ST, ST = checkS cs P N := ⟨_, rfl⟩
        rw [← hST] at HS8 hlenS HTW hcap ⊢
        have HSTE := hide hST
        clear hST HCK
        go_wp2_with fail
        refine (pick_any st _ _ (by omega) (by omega) hs0 hs1).mono ?_
        rintro e w9 ⟨rfl, rfl⟩
        obtain ⟨kn, hkn⟩ : ∃ kn : Nat, st % ((ST.length : Int) + 1) = (kn : Int) := ⟨(st % ((ST.length : Int) + 1)).toNat, by have := Int.emod_nonneg st (show (ST.length : Int) + 1 ≠ 0 by omega); omega⟩
        have hkl : kn ≤ ST.length := by have := Int.emod_lt_of_pos st (show (0 : Int) < (ST.length : Int) + 1 by omega); omega
        rw [hkn]
        clear hkn hs0 hs1
        go_wp2
        rename_i KK hKK
        have hdn := Int.emod_nonneg dr (show (1099511627776 : Int) ≠ 0 by decide)
        have hdl := Int.emod_lt_of_pos dr (show (0 : Int) < 1099511627776 by decide)
        obtain ⟨q, hq⟩ : ∃ q, q = dr % 1099511627776 := ⟨_, rfl⟩
        rw [← hq] at hdn hdl
        have HQ := hide hq
        clear hq
        have TAIL : ∀ (g0 g1 g2 g3 g4 g5 g13 g14 g15 g16 g17 g18 g19 g20 g21 g22 g23 g24 g25 g26 g27 g28 g29 g30 g31 g32 g33 g34 g35 g36 g37 g38 g39 g40 g41 g42 g43 g44 g45 g46 g47 g48 g49 g50 g51 g52 g53 g54 g55 g56 g57 g58 g59 g60 g61 g62 g63 g64 g65 g66 g67 g68 g69 g70 g71 g72 g73 g74 g75 g76 g77 g78 g79 g80 g81 g82 g83 g84 g85 g86 g87 g88 g89 g90 g91 g92 g93 g94 g95 g96 g97 g98 g99 g100 g101 g102 g103 g104 g105 g106 g107 g108 g109 g110 g111 g112 g113 g114 g115 g116 g117 g118 g119 g120 g121 g122 g123 g124 g125 g126 g127 g128 g129 g130 g131 g132 g133 g134 g135 g136 g137 g138 g139 g140 g141 g142 g143 g144 g145 g146 g147 g148 g149 g150 g151 g152 g153 g154 g155 g156 g157 g158 g159 g160 g161 g162 g163 g164 g165 g166 g167 g168 g169 g170 g171 g172 g173 g174 g175 g176 g177 g178 g179 g180 : Value) (W : World) (T : Nat) (X : Dk) (xa : Option Addr) (xn xc : Nat) (xb : Option Addr) (xm xd : Nat), X = crashK (runK D (ST.take kn)) q → IsDk W (.agg #[.slice xa xn xc, .slice xb xm xd]) X → W.heap[T]? = some (.cells #[.slice xa xn xc, .slice xb xm xd] 69 (0, 0)) → w8.heap.size ≤ T → Below w8.heap.size w8 W → KK ⟨#[g0, g1, g2, g3, g4, g5, .bool false, .pointer (some ⟨w3.heap.size, 0, none⟩), .int .i64 0, .slice ya cs.length yc, .slice sa ST.length sc, .int .i64 (kn : Int), .pointer (some ⟨T, 0, none⟩), g13, g14, g15, g16, g17, g18, g19, g20, g21, g22, g23, g24, g25, g26, g27, g28, g29, g30, g31, g32, g33, g34, g35, g36, g37, g38, g39, g40, g41, g42, g43, g44, g45, g46, g47, g48, g49, g50, g51, g52, g53, g54, g55, g56, g57, g58, g59, g60, g61, g62, g63, g64, g65, g66, g67, g68, g69, g70, g71, g72, g73, g74, g75, g76, g77, g78, g79, g80, g81, g82, g83, g84, g85, g86, g87, g88, g89, g90, g91, g92, g93, g94, g95, g96, g97, g98, g99, g100, g101, g102, g103, g104, g105, g106, g107, g108, g109, g110, g111, g112, g113, g114, g115, g116, g117, g118, g119, g120, g121, g122, g123, g124, g125, g126, g127, g128, g129, g130, g131, g132, g133, g134, g135, g136, g137, g138, g139, g140, g141, g142, g143, g144, g145, g146, g147, g148, g149, g150, g151, g152, g153, g154, g155, g156, g157, g158, g159, g160, g161, g162, g163, g164, g165, g166, g167, g168, g169, g170, g171, g172, g173, g174, g175, g176, g177, g178, g179, g180], []⟩ W := by
          intro g0 g1 g2 g3 g4 g5 g13 g14 g15 g16 g17 g18 g19 g20 g21 g22 g23 g24 g25 g26 g27 g28 g29 g30 g31 g32 g33 g34 g35 g36 g37 g38 g39 g40 g41 g42 g43 g44 g45 g46 g47 g48 g49 g50 g51 g52 g53 g54 g55 g56 g57 g58 g59 g60 g61 g62 g63 g64 g65 g66 g67 g68 g69 g70 g71 g72 g73 g74 g75 g76 g77 g78 g79 g80 g81 g82 g83 g84 g85 g86 g87 g88 g89 g90 g91 g92 g93 g94 g95 g96 g97 g98 g99 g100 g101 g102 g103 g104 g105 g106 g107 g108 g109 g110 g111 g112 g113 g114 g115 g116 g117 g118 g119 g120 g121 g122 g123 g124 g125 g126 g127 g128 g129 g130 g131 g132 g133 g134 g135 g136 g137 g138 g139 g140 g141 g142 g143 g144 g145 g146 g147 g148 g149 g150 g151 g152 g153 g154 g155 g156 g157 g158 g159 g160 g161 g162 g163 g164 g165 g166 g167 g168 g169 g170 g171 g172 g173 g174 g175 g176 g177 g178 g179 g180 W T X xa xn xc xb xm xd hX hDX hT hTw hbW
          apply hKK
          obtain ⟨_, hSE, hNX, hPX, hGX, hk7, hY⟩ := HTW.out kn q _ X hkl hdn rfl hX
          have HXN : Hid (xn = X.safe.length ∧ xm = X.wr.length) := by
            obtain ⟨_, _, _, _, he, _⟩ := hDX
            simp only [Value.agg.injEq, Array.mk.injEq, List.cons.injEq, Value.slice.injEq] at he
            exact ⟨he.1.2.1, he.2.1.2.1⟩
          have KT := hide hT
          have HDX := hide hDX
          have KFW := hide (boxKeep hbW hs8 KF8.out)
          have HCW := hide (HCR.out.below hbW)
          have HBZ := hide (bthen HBB.out hbW)
          have hsW1 : w3.heap.size < W.heap.size := Nat.lt_of_lt_of_le hs8 hbW.size
          have hTl : T < W.heap.size := (Array.getElem?_eq_some_iff.1 hT).1
          have hTne : w3.heap.size < T := by omega
          have HSE := hide hSE
          have HNX := hide hNX
          have HPX := hide hPX
          have HGX := hide hGX
          have HK7 := hide hk7
          have HY := hide hY
          clear hT hDX hbW hSE hNX hPX hGX hk7 hY hX hKK KF8 KB8 HB8 HBB HS8 HCR HTW HD2 HBW HB3 HRE HQ HW0 HG HOK HLT hdn hdl
          obtain ⟨⟨t0, t1⟩, tf⟩ := box2 KT.out
          go_wp2_with fail
          refine (scan_n _ _ _ _ _ _ X _ HXN.out.1 HXN.out.2 HDX.out).mono ?_
          intro e w9 hP9
          obtain ⟨xva, xvc, rfl, hS9, hb9⟩ := hP9.found
          have hll9 := fndL_len X
          have HS9 := hide hS9
          have KT9 := hide (boxKeep hb9 hTl KT.out)
          have KF9 := hide (boxKeep hb9 hsW1 KFW.out)
          have HC9 := hide (HCW.out.below hb9)
          have HB9 := hide (bthen HBZ.out hb9)
          have HD9 := hide (HDX.out.below hb9)
          have hs9 : w3.heap.size < w9.heap.size := Nat.lt_of_lt_of_le hsW1 hb9.size
          have hT9 : T < w9.heap.size := Nat.lt_of_lt_of_le hTl hb9.size
          clear hP9 hS9 hb9 KT KFW HCW HBZ HDX t0 t1 tf hsW1 hTl
          have HCKX := hide (check_ok HSE.out HGX.out)
          rw [HNX.out, HPX.out] at HCKX
          rw [HSE.out, HNX.out, HPX.out]
          obtain ⟨LX, hLX⟩ : ∃ LX, LX = fndL X := ⟨_, rfl⟩
          rw [← hLX] at HS9 hll9 HCKX HGX HK7 HY ⊢
          have HFX : Hid (∀ t ∈ LX, Few t) := fun t ht => few_good (HGX.out t ht)
          have HLX := hide hLX
          clear hLX
          obtain ⟨⟨z0, z1, z2⟩, zf⟩ := box3 KF9.out
          go_wp2
          obtain ⟨W9, hW9⟩ : ∃ W9, W9 = w9.alloc (.cells #[.slice xva LX.length xvc, .int .i64 N, .int .i64 P] 72) := ⟨_, rfl⟩
          have KG : Hid (W9.heap[w9.heap.size]? = some (.cells #[.slice xva LX.length xvc, .int .i64 N, .int .i64 P] 72 (0, 0))) := by rw [hW9]; exact heap_alloc_new _ _
          have hb1 : Below w9.heap.size w9 W9 := by rw [hW9]; exact below1 _ _
          have HSX := hide (HS9.out.below hb1)
          have KT10 := hide (boxKeep hb1 hT9 KT9.out)
          have KF10 := hide (boxKeep hb1 hs9 KF9.out)
          have HC10 := hide (HC9.out.below hb1)
          have HB10 := hide (bthen HB9.out hb1)
          have HD10 := hide (HD9.out.below hb1)
          have hsG : w9.heap.size < W9.heap.size := by rw [hW9]; simp
          rw [← hW9]
          clear hW9 hb1 KT9 KF9 HC9 HB9 HD9 HS9 z0 z1 z2 zf
          generalize hG9 : w9.heap.size = G at *
          clear hG9
          obtain ⟨⟨z0, z1, z2⟩, zf⟩ := box3 KG.out
          have HALL : Hid (∀ w', Below W9.heap.size W9 w' → Hid (Below W9.heap.size W9 w') ∧ w'.cell? ⟨G, 0, none⟩ = some (.slice xva LX.length xvc) ∧ w'.cell? ⟨G, 1, none⟩ = some (.int .i64 N) ∧ w'.cell? ⟨G, 2, none⟩ = some (.int .i64 P)) := fun w' hb => ⟨hb, cellKeep hb hsG z0, cellKeep hb hsG z1, cellKeep hb hsG z2⟩
          clear z0 z1 z2 zf
          go_region_held3 (fun w' => Hid (Below W9.heap.size W9 w') ∧ w'.cell? ⟨G, 0, none⟩ = some (.slice xva LX.length xvc) ∧ w'.cell? ⟨G, 1, none⟩ = some (.int .i64 N) ∧ w'.cell? ⟨G, 2, none⟩ = some (.int .i64 P))
            (first | exact HALL.out _ ((Below.refl _ _).drew) | (refine HALL.out _ ?_; assumption))
            (first | (go_at_call 48; (have hnow := (‹Hid (Below W9.heap.size W9 _) ∧ _›).1); have HNOW := hide hnow.out; refine (replay_any xva xvc LX _ (HSX.out.below hnow.out) (by omega) HFX.out).mono ?_; clear hnow; rintro e w10 ⟨v10, rfl, hO10, hb10⟩; obtain ⟨za, zc, rfl, hS10, _⟩ := SegC.of_owns hO10; have HS10 := hide hS10; have hbN := bthen HNOW.out hb10; clear hb10 HNOW hO10 hS10; dsimp only)
                   | (go_at_call 55; (have hnow2 := (‹Hid (Below W9.heap.size W9 _) ∧ _›).1); have HNOW2 := hide hnow2.out; refine (check_cap za zc (newestL LX) P N _ HS10.out (by have := asN_length (newestF LX) 12; unfold newestL; omega)).mono ?_; clear hnow2; rintro e w11 ⟨ua, uc, rfl, _, hS11, hb11⟩; have HS11 := hide hS11; have hbM := bthen HNOW2.out hb11; clear hb11 HNOW2 hS11; dsimp only))
          rw [HCKX.out]
          have hlenX : (checkS (newestL LX) P N).length ≤ 20 := by
            rw [checkS, if_pos HCKX.out, homeS, List.length_append, List.length_append, homeM_length]
            have := asN_length (newestF LX) 12
            unfold newestL
            split <;> simp <;> omega
          obtain ⟨SX, hSX⟩ : ∃ SX, SX = checkS (newestL LX) P N := ⟨_, rfl⟩
          rw [← hSX] at HS11 hlenX HY ⊢
          have KT11 := hide (boxKeep hbM (show T < W9.heap.size by omega) KT10.out)
          have KF11 := hide (boxKeep hbM (show w3.heap.size < W9.heap.size by omega) KF10.out)
          have KG11 := hide (boxKeep hbM hsG KG.out)
          have HC11 := hide (HC10.out.below hbM)
          have HB11 := hide (bthen HB10.out hbM)
          have HD11 := hide (HD10.out.below hbM)
          have hs11 : G < w11.heap.size := Nat.lt_of_lt_of_le hsG hbM.size
          have HRB : Hid (∀ x ∈ cs, 0 ≤ x.1 ∧ x.1 ≤ 11) := by
            intro x hx
            rw [HCS.out] at hx
            exact newestL_in hx
          clear hSX hbM hbN HS10 KT10 KF10 KG HC10 HB10 HD10 HCKX HALL HFX HSX HGX hsG HXN HPX HNX HSE HFW HSL HCS
          rename_i hHeldX
          clear hHeldX
          obtain ⟨⟨t0, t1⟩, tf⟩ := box2 KT11.out
          go_wp2_with fail
          refine (run_any _ X ua uc SX _ HD11.out HS11.out (by omega)).mono ?_
          rintro e w12 ⟨v12, rfl, hD12, hb12⟩
          obtain ⟨Y, hYe⟩ : ∃ Y, Y = runK X SX := ⟨_, rfl⟩
          rw [← hYe] at hD12
          obtain ⟨hYr, hYE, hYL, hYN, hYP⟩ := HY.out Y hYe
          have HYR := hide hYr
          have HD12 := hide hD12
          have KF12 := hide (boxKeep hb12 (show w3.heap.size < w11.heap.size by omega) KF11.out)
          have KG12 := hide (boxKeep hb12 hs11 KG11.out)
          have HC12 := hide (HC11.out.below hb12)
          have HB12 := hide (bthen HB11.out hb12)
          have hs12 : G < w12.heap.size := Nat.lt_of_lt_of_le hs11 hb12.size
          obtain ⟨f1, f2, f3, f4, rfl, _, _, _, _⟩ := hD12
          clear hb12 hYe hYr HY KT11 KF11 KG11 HC11 HB11 HD11 HS11 t0 t1 tf hs11 hlenX
          generalize hn3 : Y.safe.length = n3 at *
          generalize hn4 : Y.wr.length = n4 at *
          have HN3 := hide hn3
          have HN4 := hide hn4
          clear hn3 hn4
          go_wp2_with fail
          refine (scan_n _ _ _ _ _ _ Y _ HN3.out.symm HN4.out.symm (HD12.out.below (below1 _ _))).mono ?_
          intro e w13 hP13
          obtain ⟨yva, yvc, rfl, _, hb13⟩ := hP13.found
          rw [hYE, hYL, hYN, hYP]
          have KY13 := hide (one1 hb13)
          have hb14 := bthen (below1 _ _) hb13
          have KF13 := hide (boxKeep hb14 (show w3.heap.size < w12.heap.size by omega) KF12.out)
          have KG13 := hide (boxKeep hb14 hs12 KG12.out)
          have HC13 := hide (HC12.out.below hb14)
          have HB13 := hide (bthen HB12.out hb14)
          have HD13 := hide (HD12.out.below hb14)
          have hs13 : G < w13.heap.size := Nat.lt_of_lt_of_le hs12 hb14.size
          have hs13y : w12.heap.size < w13.heap.size := by have := hb13.size; simp at this; omega
          clear hP13 hb13 hb14 hYE hYL hYN hYP KF12 KG12 HC12 HB12 HD12 hs12
          generalize hV : w12.heap.size = V at *
          clear hV
          obtain ⟨W13, hW13⟩ : ∃ W13, W13 = w13.alloc (.cells #[.slice yva 0 yvc, .int .i64 N, .int .i64 P] 72) := ⟨_, rfl⟩
          have hb15 : Below w13.heap.size w13 W13 := by rw [hW13]; exact below1 _ _
          have KZ : Hid (W13.heap[w13.heap.size]? = some (.cells #[.slice yva 0 yvc, .int .i64 N, .int .i64 P] 72 (0, 0))) := by rw [hW13]; exact heap_alloc_new _ _
          have KY14 := hide (boxKeep hb15 hs13y KY13.out)
          have KF14 := hide (boxKeep hb15 (show w3.heap.size < w13.heap.size by omega) KF13.out)
          have KG14 := hide (boxKeep hb15 hs13 KG13.out)
          have HC14 := hide (HC13.out.below hb15)
          have HB14 := hide (bthen HB13.out hb15)
          have HD14 := hide (HD13.out.below hb15)
          have hs14 : w13.heap.size < W13.heap.size := by rw [hW13]; simp
          have hcl2 : cs.length ≤ maxLen := Nat.le_trans hcl (by decide)
          go_wp2
          rw [← hW13]
          clear hW13 hb15 KY13 KF13 KG13 HC13 HB13 HD13
          generalize hU : w13.heap.size = U at *
          clear hU
          go_loopw [130] (fun i wr => ∃ k : Nat, k ≤ cs.length ∧ i = .int .i64 (k : Int) ∧ Hid (Below W13.heap.size W13 wr)) (fun i _ => cs.length - (intOf i).toNat)
          case atStart => exact ⟨0, Nat.zero_le _, rfl, Below.refl _ _⟩
          case round =>
            obtain ⟨k, hk, rfl, HBR⟩ := hrel
            by_cases hlt : k < cs.length
            · obtain ⟨b2, off, rfl, hb2, hc2⟩ := HC14.out.resolve_left (by intro e; rw [e] at hlt; simp at hlt)
              obtain ⟨x, hx⟩ : ∃ x, x = cs.getD k (0, ByteArray.empty) := ⟨_, rfl⟩
              obtain ⟨hc3, hc4⟩ := hc2 k hlt
              rw [← hx] at hc3 hc4
              have HX : cs[k]? = some x := by rw [hx]; exact getD_at _ _ _ hlt
              have hbd := HRB.out x (List.mem_of_getElem? HX)
              have HRT := hide (HYR.out x (List.mem_of_getElem? HX))
              have i1 := cellKeep HBR.out hb2 hc3
              have i2 := cellKeep HBR.out hb2 hc4
              have KYR := hide (boxKeep HBR.out (show V < W13.heap.size by omega) KY14.out)
              have HDR := hide (HD14.out.below HBR.out)
              have hsr := HBR.out.size
              have hlt' : (k : Int) < (cs.length : Int) := by omega
              clear hx hc2 hc3 hc4 HX
              obtain ⟨n, s⟩ := x
              obtain ⟨hb0, hb1⟩ : 0 ≤ n ∧ n ≤ 11 := hbd
              have hVr : V < wr.heap.size := by omega
              obtain ⟨⟨y0, y1⟩, yf⟩ := box2 KYR.out
              go_wp2_with fail
              refine (read_any _ Y (25 + n) _ (HDR.out.below (below1 _ _))).mono ?_
              rintro e w15 ⟨rfl, hb15⟩
              rw [HRT.out]
              have HB15 := hide (bthen HBR.out (bthen (below1 _ _) hb15))
              have KC := hide (one1 hb15)
              clear hb15
              obtain ⟨⟨x0, x1⟩, xf⟩ := box2 KC.out
              go_wp2
              go_roundw
              case rel => exact ⟨k + 1, by omega, by go_num, HB15⟩
              case measure => simp [intOf]; omega
            · have e : k = cs.length := by omega
              subst e
              have hsr := HBR.out.size
              have KZR := hide (boxKeep HBR.out hs14 KZ.out)
              have KFR := hide (boxKeep HBR.out (show w3.heap.size < W13.heap.size by omega) KF14.out)
              have KGR := hide (boxKeep HBR.out (show G < W13.heap.size by omega) KG14.out)
              obtain ⟨⟨x0, x1, x2⟩, xf⟩ := box3 KZR.out
              obtain ⟨⟨u0, u1, u2⟩, uf⟩ := box3 KFR.out
              by_cases hkk : kn < ST.length
              · have hkk' : (kn : Int) < (ST.length : Int) := by omega
                go_wp2
                go_ret
                exact ⟨rfl, bthen HB14.out HBR.out⟩
              · have hkk' : ¬ (kn : Int) < (ST.length : Int) := by omega
                have hL0 : LX.length = 0 := by rw [HK7.out.resolve_left hkk]; rfl
                rw [hL0] at KGR
                obtain ⟨⟨r0, r1, r2⟩, rf⟩ := box3 KGR.out
                go_wp2
                go_ret
                exact ⟨rfl, bthen HB14.out HBR.out⟩
        have HTAIL := hide TAIL
        clear TAIL hKK
        have HCE : Hid (crashE (runK D (ST.take kn)) q = 0) := (HTW.out kn q _ _ hkl hdn rfl rfl).1
        have HDD := hide ((HD2.out.below HB3.out).below HB8.out)
        obtain ⟨⟨y0, y1⟩, yf⟩ := box2 KB8.out
        have Y0 := hide y0
        have Y1 := hide y1
        clear y0 y1 yf
        have hkc : kn ≤ sc := by omega
        refine (show ∀ A0 : Act, A0 = _ → Code.wp Try.prog _ _ A0 _ from fun A0 hA0 => ?_) _ rfl
        have hsz : A0.tmps.size = 181 := by rw [hA0]; rfl
        have hdf : A0.defers = [] := by rw [hA0]
        have v3 : A0.eval (.tmp 3) = .pointer (some ⟨w.heap.size, 0, none⟩) := by rw [hA0]; rfl
        have v10 : A0.eval (.tmp 10) = .slice sa ST.length sc := by rw [hA0]; rfl
        have v11 : A0.eval (.tmp 11) = .int .i64 (kn : Int) := by rw [hA0]; rfl
        have v2 : A0.eval (.tmp 2) = .int .i64 dr := by rw [hA0]; rfl
        have v6 : A0.eval (.tmp 6) = .bool false := by rw [hA0]; rfl
        have v7 : A0.eval (.tmp 7) = .pointer (some ⟨w3.heap.size, 0, none⟩) := by rw [hA0]; rfl
        have v9 : A0.eval (.tmp 9) = .slice ya cs.length yc := by rw [hA0]; rfl
        clear hA0
        refine wp_region_slots (fun w' => Below w8.heap.size w8 w') [72, 73, 74, 75, 76, 77, 78, 79, 71, 80, 81, 12, 12, 8] (twPsi w8 (.agg #[.slice e1 n1 e2, .slice e3 n2 e4]) (.slice sa ST.length sc) (.slice sa kn sc) (kn : Int) dr q (runK D (ST.take kn)) (crashK (runK D (ST.take kn)) q)) (by kernel_rfl) (by kernel_rfl) (by kernel_rfl) ((Below.refl _ _).drew) ⟨?_, ?_, ?_, ?_, ?_, ?_, ?_, ?_, ?_, ?_, ?_, ?_, ?_, ?_, trivial⟩ ?_
        · intro a w' hF hR hp
          have z := hF.other 3 rfl
          rw [v3] at z
          have c0 := cellKeep hR hs8a Y0.out
          have c1 := cellKeep hR hs8a Y1.out
          refine op_yields (.agg #[.slice e1 n1 e2, .slice e3 n2 e4]) rfl rfl (by revert z; generalize a.eval = ρ; intro z; simp only [execOp]; go_simp) ⟨_, rfl, hR, ?_, fun _ _ _ h => h⟩
          show twPsi _ _ _ _ _ _ _ _ _ _ ((a.put (some 72) _).eval (.tmp 72)) w'
          rw [at_slot hF hsz (by decide)]
          exact rfl
        · intro a w' hF hR hp
          have z := hF.other 10 rfl
          rw [v10] at z
          refine op_yields (.slice sa ST.length sc) rfl rfl (by revert z; generalize a.eval = ρ; intro z; simp only [execOp]; go_simp) ⟨_, rfl, hR, ?_, fun _ _ _ h => h⟩
          show twPsi _ _ _ _ _ _ _ _ _ _ ((a.put (some 73) _).eval (.tmp 73)) w'
          rw [at_slot hF hsz (by decide)]
          exact rfl
        · intro a w' hF hR hp
          have z := hF.other 11 rfl
          rw [v11] at z
          refine op_yields (.int .i64 (kn : Int)) rfl rfl (by revert z; generalize a.eval = ρ; intro z; simp only [execOp]; go_simp) ⟨_, rfl, hR, ?_, fun _ _ _ h => h⟩
          show twPsi _ _ _ _ _ _ _ _ _ _ ((a.put (some 74) _).eval (.tmp 74)) w'
          rw [at_slot hF hsz (by decide)]
          exact rfl
        · intro a w' hF hR hp
          have p1 : a.eval (.tmp 73) = .slice sa ST.length sc := hp ⟨1, Ground.data⟩ (by simp) rfl
          have p2 : a.eval (.tmp 74) = .int .i64 (kn : Int) := hp ⟨2, Ground.data⟩ (by simp) rfl
          have hkc1 : (kn : Int) ≤ (sc : Int) := by omega
          have hk0 : (0 : Int) ≤ (kn : Int) := by omega
          refine op_yields (.slice sa kn sc) rfl rfl (by revert p1 p2; generalize a.eval = ρ; intro p1 p2; simp only [execOp]; go_simp) ⟨_, rfl, hR, ?_, fun _ _ _ h => h⟩
          show twPsi _ _ _ _ _ _ _ _ _ _ ((a.put (some 75) _).eval (.tmp 75)) w'
          rw [at_slot hF hsz (by decide)]
          exact rfl
        · intro a w' hF hR hp
          have p0 : a.eval (.tmp 72) = .agg #[.slice e1 n1 e2, .slice e3 n2 e4] := hp ⟨0, Ground.data⟩ (by simp) rfl
          have p3 : a.eval (.tmp 75) = .slice sa kn sc := hp ⟨3, Ground.data⟩ (by simp) rfl
          refine op_calls 57 #[.agg #[.slice e1 n1 e2, .slice e3 n2 e4], .slice sa kn sc] rfl rfl (by have pf := Act.eval_func a 57; revert p0 p3 pf; generalize a.eval = ρ; intro p0 p3 pf; simp only [execOp]; go_simp) _ (run_n (.agg #[.slice e1 n1 e2, .slice e3 n2 e4]) D sa kn sc (ST.take kn) _ (by rw [List.length_take]; omega) (HDD.out.below hR) ((HS8.out.below hR).take kn) (by rw [List.length_take]; omega)) ?_
          rintro e w2 ⟨vR, rfl, hDR, hbR⟩
          refine ⟨_, rfl, _, rfl, bthen hR hbR, ?_, twPsi_below hbR⟩
          show twPsi _ _ _ _ _ _ _ _ _ _ ((a.put (some 76) _).eval (.tmp 76)) w2
          rw [at_slot hF hsz (by decide)]
          exact hDR
        · intro a w' hF hR hp
          have z := hF.other 2 rfl
          rw [v2] at z
          refine op_yields (.int .i64 dr) rfl rfl (by revert z; generalize a.eval = ρ; intro z; simp only [execOp]; go_simp) ⟨_, rfl, hR, ?_, fun _ _ _ h => h⟩
          show twPsi _ _ _ _ _ _ _ _ _ _ ((a.put (some 77) _).eval (.tmp 77)) w'
          rw [at_slot hF hsz (by decide)]
          exact rfl
        · intro a w' hF hR hp
          have p5 : a.eval (.tmp 77) = .int .i64 dr := hp ⟨5, Ground.data⟩ (by simp) rfl
          refine op_calls 11 #[.int .i64 dr, .int .i64 1099511627776] rfl rfl (by have pf := Act.eval_func a 11; have pc := Act.eval_const a (.int .i64 1099511627776); revert p5 pf pc; generalize a.eval = ρ; intro p5 pf pc; simp only [execOp]; go_simp) _ (pick_any dr 1099511627776 _ (by decide) (by decide) hd0 hd1) ?_
          rintro e w2 ⟨rfl, rfl⟩
          refine ⟨_, rfl, _, rfl, hR, ?_, fun _ _ _ h => h⟩
          show twPsi _ _ _ _ _ _ _ _ _ _ ((a.put (some 78) _).eval (.tmp 78)) w'
          rw [at_slot hF hsz (by decide)]
          exact congrArg (Value.int .i64) HQ.out.symm
        · intro a w' hF hR hp
          have p4 : IsDk w' (a.eval (.tmp 76)) (runK D (ST.take kn)) := hp ⟨4, Ground.data⟩ (by simp) rfl
          have p6 : a.eval (.tmp 78) = .int .i64 q := hp ⟨6, Ground.data⟩ (by simp) rfl
          refine op_calls 56 #[a.eval (.tmp 76), .int .i64 q] rfl rfl (by have pf := Act.eval_func a 56; revert p6 pf; generalize a.eval = ρ; intro p6 pf; simp only [execOp]; go_simp) _ (crash_any _ (runK D (ST.take kn)) q _ p4 (by omega)) ?_
          rintro e w2 ⟨vC, rfl, hDC, _, hbC⟩
          rw [HCE.out]
          refine ⟨_, rfl, _, rfl, bthen hR hbC, ?_, twPsi_below hbC⟩
          show twPsi _ _ _ _ _ _ _ _ _ _ ((a.put (some 79) _).eval (.tmp 79)) w2
          rw [at_slot hF hsz (by decide)]
          exact ⟨_, rfl, hDC⟩
        · intro a w' hF hR hp
          obtain ⟨vC, p7, hDC⟩ : ∃ v, a.eval (.tmp 79) = .tuple #[v, .int .i64 0] ∧ IsDk w' v (crashK (runK D (ST.take kn)) q) := hp ⟨7, Ground.data⟩ (by simp) rfl
          refine op_yields (.tuple #[vC, .int .i64 0]) rfl rfl (by revert p7; generalize a.eval = ρ; intro p7; simp only [execOp]; go_simp) ⟨_, rfl, hR, ?_, fun _ _ _ h => h⟩
          show twPsi _ _ _ _ _ _ _ _ _ _ ((a.put (some 71) _).eval (.tmp 71)) w'
          rw [at_slot hF hsz (by decide)]
          exact ⟨_, rfl, hDC⟩
        · intro a w' hF hR hp
          obtain ⟨vC, p8, hDC⟩ : ∃ v, a.eval (.tmp 71) = .tuple #[v, .int .i64 0] ∧ IsDk w' v (crashK (runK D (ST.take kn)) q) := hp ⟨8, Ground.data⟩ (by simp) rfl
          refine op_yields (vC) rfl rfl (by revert p8; generalize a.eval = ρ; intro p8; simp only [execOp]; go_simp) ⟨_, rfl, hR, ?_, fun _ _ _ h => h⟩
          show twPsi _ _ _ _ _ _ _ _ _ _ ((a.put (some 80) _).eval (.tmp 80)) w'
          rw [at_slot hF hsz (by decide)]
          exact hDC
        · intro a w' hF hR hp
          obtain ⟨vC, p8, hDC⟩ : ∃ v, a.eval (.tmp 71) = .tuple #[v, .int .i64 0] ∧ IsDk w' v (crashK (runK D (ST.take kn)) q) := hp ⟨8, Ground.data⟩ (by simp) rfl
          refine op_yields (.int .i64 0) rfl rfl (by revert p8; generalize a.eval = ρ; intro p8; simp only [execOp]; go_simp) ⟨_, rfl, hR, ?_, fun _ _ _ h => h⟩
          show twPsi _ _ _ _ _ _ _ _ _ _ ((a.put (some 81) _).eval (.tmp 81)) w'
          rw [at_slot hF hsz (by decide)]
          exact rfl
        · intro a w' hF hR hp
          refine op_runs (.pointer (some ⟨w'.heap.size, 0, none⟩)) rfl rfl (w' := w'.alloc (.cells #[.slice none 0 0, .slice none 0 0] 69)) (by simp only [execOp]; go_simp) ⟨_, rfl, hR.alloc hR.size _, ?_, twPsi_below (below1 _ _)⟩
          show twPsi _ _ _ _ _ _ _ _ _ _ ((a.put (some 12) _).eval (.tmp 12)) _
          rw [at_slot hF hsz (by decide)]
          exact ⟨_, _, _, _, _, _, _, rfl, hR.size, heap_alloc_new _ _⟩
        · intro a w' hF hR hp
          obtain ⟨T, a1, k1, c1, a2, k2, c2, p11, hT, hB⟩ : ∃ T a1 n1 c1 a2 n2 c2, a.eval (.tmp 12) = .pointer (some ⟨T, 0, none⟩) ∧ w8.heap.size ≤ T ∧ w'.heap[T]? = some (.cells #[.slice a1 n1 c1, .slice a2 n2 c2] 69 (0, 0)) := hp ⟨11, Ground.data⟩ (by simp) rfl
          have p9 : IsDk w' (a.eval (.tmp 80)) (crashK (runK D (ST.take kn)) q) := hp ⟨9, Ground.data⟩ (by simp) rfl
          have hD := p9
          obtain ⟨xa, xc, xb, xd, hv, _, _, _, _⟩ := p9
          rw [hv] at hD
          generalize (crashK (runK D (ST.take kn)) q).safe.length = xn at *
          generalize (crashK (runK D (ST.take kn)) q).wr.length = xm at *
          obtain ⟨⟨z0, z1⟩, zf⟩ := box2 hB
          refine op_skips rfl rfl (w' := (w'.setCell ⟨T, 0, none⟩ (.slice xa xn xc)).setCell ⟨T, 1, none⟩ (.slice xb xm xd)) (by revert p11 hv; generalize a.eval = ρ; intro p11 hv; simp only [execOp]; go_simp) ⟨_, rfl, (hR.setCell (p := ⟨T, 0, none⟩) hT _).setCell (p := ⟨T, 1, none⟩) hT _, ?_, twPsi_store hB _ _ _ _ _ _⟩
          show twPsi _ _ _ _ _ _ _ _ _ _ (a.eval (.tmp 12)) _
          rw [p11]
          exact ⟨T, _, _, _, _, _, _, rfl, hT, stored2 hB _ _, (hD.setBox hB 0 _).setBox (heap_setCell_same _ _ 0 _ _ (.slice xa xn xc) hB) 1 _⟩
        · intro a w' hF hR hp
          have p10 : a.eval (.tmp 81) = .int .i64 0 := hp ⟨10, Ground.data⟩ (by simp) rfl
          refine op_yields (.int .i64 0) rfl rfl (by revert p10; generalize a.eval = ρ; intro p10; simp only [execOp]; go_simp) ⟨_, rfl, hR, ?_, fun _ _ _ h => h⟩
          show twPsi _ _ _ _ _ _ _ _ _ _ ((a.put (some 8) _).eval (.tmp 8)) w'
          rw [at_slot hF hsz (by decide)]
          exact rfl
        · intro a W hF hR hp
          obtain ⟨T, a1, k1, c1, a2, k2, c2, p12, hT, hB, hD⟩ : ∃ T a1 n1 c1 a2 n2 c2, a.eval (.tmp 12) = .pointer (some ⟨T, 0, none⟩) ∧ w8.heap.size ≤ T ∧ W.heap[T]? = some (.cells #[.slice a1 n1 c1, .slice a2 n2 c2] 69 (0, 0)) ∧ IsDk W (.agg #[.slice a1 n1 c1, .slice a2 n2 c2]) (crashK (runK D (ST.take kn)) q) := hp 12 (by decide)
          have p13 : a.eval (.tmp 8) = .int .i64 0 := hp 13 (by decide)
          have f6 := (hF.other 6 rfl).trans v6
          have f7 := (hF.other 7 rfl).trans v7
          have f9 := (hF.other 9 rfl).trans v9
          have f10 := (hF.other 10 rfl).trans v10
          have f11 := (hF.other 11 rfl).trans v11
          have hlit : a = ⟨#[a.eval (.tmp 0), a.eval (.tmp 1), a.eval (.tmp 2), a.eval (.tmp 3), a.eval (.tmp 4), a.eval (.tmp 5), a.eval (.tmp 6), a.eval (.tmp 7), a.eval (.tmp 8), a.eval (.tmp 9), a.eval (.tmp 10), a.eval (.tmp 11), a.eval (.tmp 12), a.eval (.tmp 13), a.eval (.tmp 14), a.eval (.tmp 15), a.eval (.tmp 16), a.eval (.tmp 17), a.eval (.tmp 18), a.eval (.tmp 19), a.eval (.tmp 20), a.eval (.tmp 21), a.eval (.tmp 22), a.eval (.tmp 23), a.eval (.tmp 24), a.eval (.tmp 25), a.eval (.tmp 26), a.eval (.tmp 27), a.eval (.tmp 28), a.eval (.tmp 29), a.eval (.tmp 30), a.eval (.tmp 31), a.eval (.tmp 32), a.eval (.tmp 33), a.eval (.tmp 34), a.eval (.tmp 35), a.eval (.tmp 36), a.eval (.tmp 37), a.eval (.tmp 38), a.eval (.tmp 39), a.eval (.tmp 40), a.eval (.tmp 41), a.eval (.tmp 42), a.eval (.tmp 43), a.eval (.tmp 44), a.eval (.tmp 45), a.eval (.tmp 46), a.eval (.tmp 47), a.eval (.tmp 48), a.eval (.tmp 49), a.eval (.tmp 50), a.eval (.tmp 51), a.eval (.tmp 52), a.eval (.tmp 53), a.eval (.tmp 54), a.eval (.tmp 55), a.eval (.tmp 56), a.eval (.tmp 57), a.eval (.tmp 58), a.eval (.tmp 59), a.eval (.tmp 60), a.eval (.tmp 61), a.eval (.tmp 62), a.eval (.tmp 63), a.eval (.tmp 64), a.eval (.tmp 65), a.eval (.tmp 66), a.eval (.tmp 67), a.eval (.tmp 68), a.eval (.tmp 69), a.eval (.tmp 70), a.eval (.tmp 71), a.eval (.tmp 72), a.eval (.tmp 73), a.eval (.tmp 74), a.eval (.tmp 75), a.eval (.tmp 76), a.eval (.tmp 77), a.eval (.tmp 78), a.eval (.tmp 79), a.eval (.tmp 80), a.eval (.tmp 81), a.eval (.tmp 82), a.eval (.tmp 83), a.eval (.tmp 84), a.eval (.tmp 85), a.eval (.tmp 86), a.eval (.tmp 87), a.eval (.tmp 88), a.eval (.tmp 89), a.eval (.tmp 90), a.eval (.tmp 91), a.eval (.tmp 92), a.eval (.tmp 93), a.eval (.tmp 94), a.eval (.tmp 95), a.eval (.tmp 96), a.eval (.tmp 97), a.eval (.tmp 98), a.eval (.tmp 99), a.eval (.tmp 100), a.eval (.tmp 101), a.eval (.tmp 102), a.eval (.tmp 103), a.eval (.tmp 104), a.eval (.tmp 105), a.eval (.tmp 106), a.eval (.tmp 107), a.eval (.tmp 108), a.eval (.tmp 109), a.eval (.tmp 110), a.eval (.tmp 111), a.eval (.tmp 112), a.eval (.tmp 113), a.eval (.tmp 114), a.eval (.tmp 115), a.eval (.tmp 116), a.eval (.tmp 117), a.eval (.tmp 118), a.eval (.tmp 119), a.eval (.tmp 120), a.eval (.tmp 121), a.eval (.tmp 122), a.eval (.tmp 123), a.eval (.tmp 124), a.eval (.tmp 125), a.eval (.tmp 126), a.eval (.tmp 127), a.eval (.tmp 128), a.eval (.tmp 129), a.eval (.tmp 130), a.eval (.tmp 131), a.eval (.tmp 132), a.eval (.tmp 133), a.eval (.tmp 134), a.eval (.tmp 135), a.eval (.tmp 136), a.eval (.tmp 137), a.eval (.tmp 138), a.eval (.tmp 139), a.eval (.tmp 140), a.eval (.tmp 141), a.eval (.tmp 142), a.eval (.tmp 143), a.eval (.tmp 144), a.eval (.tmp 145), a.eval (.tmp 146), a.eval (.tmp 147), a.eval (.tmp 148), a.eval (.tmp 149), a.eval (.tmp 150), a.eval (.tmp 151), a.eval (.tmp 152), a.eval (.tmp 153), a.eval (.tmp 154), a.eval (.tmp 155), a.eval (.tmp 156), a.eval (.tmp 157), a.eval (.tmp 158), a.eval (.tmp 159), a.eval (.tmp 160), a.eval (.tmp 161), a.eval (.tmp 162), a.eval (.tmp 163), a.eval (.tmp 164), a.eval (.tmp 165), a.eval (.tmp 166), a.eval (.tmp 167), a.eval (.tmp 168), a.eval (.tmp 169), a.eval (.tmp 170), a.eval (.tmp 171), a.eval (.tmp 172), a.eval (.tmp 173), a.eval (.tmp 174), a.eval (.tmp 175), a.eval (.tmp 176), a.eval (.tmp 177), a.eval (.tmp 178), a.eval (.tmp 179), a.eval (.tmp 180)], []⟩ := act_lit a 181 (hF.size.trans hsz) (hF.defers.trans hdf)
          rw [f6, f7, f9, f10, f11, p12, p13] at hlit
          exact (congrArg (fun x => KK x W) hlit).mpr (HTAIL.out (a.eval (.tmp 0)) (a.eval (.tmp 1)) (a.eval (.tmp 2)) (a.eval (.tmp 3)) (a.eval (.tmp 4)) (a.eval (.tmp 5)) (a.eval (.tmp 13)) (a.eval (.tmp 14)) (a.eval (.tmp 15)) (a.eval (.tmp 16)) (a.eval (.tmp 17)) (a.eval (.tmp 18)) (a.eval (.tmp 19)) (a.eval (.tmp 20)) (a.eval (.tmp 21)) (a.eval (.tmp 22)) (a.eval (.tmp 23)) (a.eval (.tmp 24)) (a.eval (.tmp 25)) (a.eval (.tmp 26)) (a.eval (.tmp 27)) (a.eval (.tmp 28)) (a.eval (.tmp 29)) (a.eval (.tmp 30)) (a.eval (.tmp 31)) (a.eval (.tmp 32)) (a.eval (.tmp 33)) (a.eval (.tmp 34)) (a.eval (.tmp 35)) (a.eval (.tmp 36)) (a.eval (.tmp 37)) (a.eval (.tmp 38)) (a.eval (.tmp 39)) (a.eval (.tmp 40)) (a.eval (.tmp 41)) (a.eval (.tmp 42)) (a.eval (.tmp 43)) (a.eval (.tmp 44)) (a.eval (.tmp 45)) (a.eval (.tmp 46)) (a.eval (.tmp 47)) (a.eval (.tmp 48)) (a.eval (.tmp 49)) (a.eval (.tmp 50)) (a.eval (.tmp 51)) (a.eval (.tmp 52)) (a.eval (.tmp 53)) (a.eval (.tmp 54)) (a.eval (.tmp 55)) (a.eval (.tmp 56)) (a.eval (.tmp 57)) (a.eval (.tmp 58)) (a.eval (.tmp 59)) (a.eval (.tmp 60)) (a.eval (.tmp 61)) (a.eval (.tmp 62)) (a.eval (.tmp 63)) (a.eval (.tmp 64)) (a.eval (.tmp 65)) (a.eval (.tmp 66)) (a.eval (.tmp 67)) (a.eval (.tmp 68)) (a.eval (.tmp 69)) (a.eval (.tmp 70)) (a.eval (.tmp 71)) (a.eval (.tmp 72)) (a.eval (.tmp 73)) (a.eval (.tmp 74)) (a.eval (.tmp 75)) (a.eval (.tmp 76)) (a.eval (.tmp 77)) (a.eval (.tmp 78)) (a.eval (.tmp 79)) (a.eval (.tmp 80)) (a.eval (.tmp 81)) (a.eval (.tmp 82)) (a.eval (.tmp 83)) (a.eval (.tmp 84)) (a.eval (.tmp 85)) (a.eval (.tmp 86)) (a.eval (.tmp 87)) (a.eval (.tmp 88)) (a.eval (.tmp 89)) (a.eval (.tmp 90)) (a.eval (.tmp 91)) (a.eval (.tmp 92)) (a.eval (.tmp 93)) (a.eval (.tmp 94)) (a.eval (.tmp 95)) (a.eval (.tmp 96)) (a.eval (.tmp 97)) (a.eval (.tmp 98)) (a.eval (.tmp 99)) (a.eval (.tmp 100)) (a.eval (.tmp 101)) (a.eval (.tmp 102)) (a.eval (.tmp 103)) (a.eval (.tmp 104)) (a.eval (.tmp 105)) (a.eval (.tmp 106)) (a.eval (.tmp 107)) (a.eval (.tmp 108)) (a.eval (.tmp 109)) (a.eval (.tmp 110)) (a.eval (.tmp 111)) (a.eval (.tmp 112)) (a.eval (.tmp 113)) (a.eval (.tmp 114)) (a.eval (.tmp 115)) (a.eval (.tmp 116)) (a.eval (.tmp 117)) (a.eval (.tmp 118)) (a.eval (.tmp 119)) (a.eval (.tmp 120)) (a.eval (.tmp 121)) (a.eval (.tmp 122)) (a.eval (.tmp 123)) (a.eval (.tmp 124)) (a.eval (.tmp 125)) (a.eval (.tmp 126)) (a.eval (.tmp 127)) (a.eval (.tmp 128)) (a.eval (.tmp 129)) (a.eval (.tmp 130)) (a.eval (.tmp 131)) (a.eval (.tmp 132)) (a.eval (.tmp 133)) (a.eval (.tmp 134)) (a.eval (.tmp 135)) (a.eval (.tmp 136)) (a.eval (.tmp 137)) (a.eval (.tmp 138)) (a.eval (.tmp 139)) (a.eval (.tmp 140)) (a.eval (.tmp 141)) (a.eval (.tmp 142)) (a.eval (.tmp 143)) (a.eval (.tmp 144)) (a.eval (.tmp 145)) (a.eval (.tmp 146)) (a.eval (.tmp 147)) (a.eval (.tmp 148)) (a.eval (.tmp 149)) (a.eval (.tmp 150)) (a.eval (.tmp 151)) (a.eval (.tmp 152)) (a.eval (.tmp 153)) (a.eval (.tmp 154)) (a.eval (.tmp 155)) (a.eval (.tmp 156)) (a.eval (.tmp 157)) (a.eval (.tmp 158)) (a.eval (.tmp 159)) (a.eval (.tmp 160)) (a.eval (.tmp 161)) (a.eval (.tmp 162)) (a.eval (.tmp 163)) (a.eval (.tmp 164)) (a.eval (.tmp 165)) (a.eval (.tmp 166)) (a.eval (.tmp 167)) (a.eval (.tmp 168)) (a.eval (.tmp 169)) (a.eval (.tmp 170)) (a.eval (.tmp 171)) (a.eval (.tmp 172)) (a.eval (.tmp 173)) (a.eval (.tmp 174)) (a.eval (.tmp 175)) (a.eval (.tmp 176)) (a.eval (.tmp 177)) (a.eval (.tmp 178)) (a.eval (.tmp 179)) (a.eval (.tmp 180)) W T _ a1 k1 c1 a2 k2 c2 rfl hD hB hT hR)
  · have hE' : (scanE D != 0) = true := by simpa using hE
    have HB6 := hide (bthen (bthen HBW.out HB3.out) (below1 w3 (.cells #[.slice va (fndL D).length vc, .int .i64 (fndN D), .int .i64 (fndP D)] 72)))
    clear hE
    generalize scanE D = E at *
    go_wp2_with fail
    refine (tellsK_any _).mono ?_
    rintro e w9 ⟨rfl, hb9⟩
    have HB9 := hide (bthen HB6.out hb9)
    clear hb9
    go_wp2
    go_ret
    exact ⟨rfl, HB9.out⟩

end Go.Proofs.Ytjnpndfpajjihab
