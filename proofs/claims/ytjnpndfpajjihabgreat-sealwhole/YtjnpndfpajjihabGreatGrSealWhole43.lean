/-
  The walks of the statements' own sameCopies, alike and used.
  The walk of the statements' own later.
  Small facts that the walks of RecoverTwice and SealWhole share.
-/
import Derived.Test.YtjnpndfpajjihabGreatGrSealWhole1
import Derived.Test.YtjnpndfpajjihabGreatXSealQ
import Derived.Test.YtjnpndfpajjihabGreatGrSealWhole0
import Derived.Test.YtjnpndfpajjihabGreatGrSealWhole37
import Derived.Test.YtjnpndfpajjihabGreatXTwiceS
namespace Go.Proofs.YtjnpndfpajjihabGreat
open Go.RowKit

set_option maxHeartbeats 1000000 in
theorem keepSame_walk (a : Option Addr) (c : Nat) (a' : Option Addr) (c' : Nat) (l : List (Int × ByteArray)) (w : World) (h : SegW w a l) (h' : SegW w a' l) (hn : l.length ≤ maxLen) :
    Calls Tryz.prog 86 #[.slice a l.length c, .slice a' l.length c'] w fun e w' => e = .returned (.bool true) ∧ Below w.heap.size w w' := by
  unfold maxLen at hn
  have HS := hide h
  have HS' := hide h'
  clear h h'
  go_enter Tryz.func86, Tryz.ntmps86
  go_wp2
  go_loopw [13] (fun i wr => ∃ k q : Nat, k ≤ l.length ∧ i = .int .i64 k ∧ wr = w.drewN q) (fun i _ => l.length - (intOf i).toNat)
  case atStart => exact ⟨0, 0, Nat.zero_le _, rfl, rfl⟩
  case round =>
    obtain ⟨k, q, hk, rfl, rfl⟩ := hrel
    by_cases hlt : k < l.length
    · obtain ⟨b1, o1, rfl, hb1, hc1⟩ := HS.out.resolve_left (by intro e; rw [e] at hlt; simp at hlt)
      obtain ⟨b2, o2, rfl, hb2, hc2⟩ := HS'.out.resolve_left (by intro e; rw [e] at hlt; simp at hlt)
      obtain ⟨g1, g1'⟩ := hc1 k hlt
      obtain ⟨g2, g2'⟩ := hc2 k hlt
      obtain ⟨x, hx⟩ : ∃ x, x = l.getD k (0, ByteArray.empty) := ⟨_, rfl⟩
      rw [← hx] at g1 g1' g2 g2'
      clear hc1 hc2 hx
      obtain ⟨n, s⟩ := x
      have hlt' : (k : Int) < (l.length : Int) := by omega
      go_wp2
      go_quiet (fail)
      go_wp2
      go_roundw
      case rel => exact ⟨k + 1, _, by omega, by go_num, rfl⟩
      case measure => simp [intOf]; omega
    · go_wp2
      go_ret
      exact ⟨rfl, below_drewN (Below.refl _ _) _⟩

set_option maxHeartbeats 2000000 in
set_option maxRecDepth 100000 in
theorem alike_any (v1 v2 : Value) (t u : Tx) (w : World) (h1 : IsTx w v1 t) (h2 : IsTx w v2 u) (eq : u.seq = t.seq) (ei : u.info = t.info) (er : u.rev = t.rev) :
    Calls Tryz.prog 35 #[v1, v2] w fun e w' => e = .returned (.bool true) ∧ Below w.heap.size w w' := by
  obtain ⟨a, c, a', c', b, d, rfl, hm, _, hr, n1, n2, n3⟩ := h1
  obtain ⟨A, C, A', C', B, D, rfl, hM, _, hR, _, _, _⟩ := h2
  rw [ei] at hM
  rw [er] at hR
  rw [eq, ei, er]
  have HM := hide hm
  have HR := hide hr
  have HM' := hide hM
  have HR' := hide hR
  have HN1 := hide n1
  unfold maxLen at n3
  clear hm hr hM hR n1 n2 eq ei er
  go_enter Tryz.func35, Tryz.ntmps35
  go_wp2_with fail
  refine (keepSame_walk _ _ _ _ t.info _ (HM.out.below (bthen (below1 _ _) (below1 _ _))) (HM'.out.below (bthen (below1 _ _) (below1 _ _))) HN1.out).mono ?_
  rintro e w1 ⟨rfl, hb1⟩
  have hs1 : w.heap.size + 1 < w1.heap.size := by have := hb1.size; simp at this; omega
  have hs1' : w.heap.size < w1.heap.size := by omega
  have K1 := hide (two1 hb1)
  have K2 := hide (two2 hb1)
  obtain ⟨⟨x0, x1, x2, x3, x4, x5, x6, x7, x8, x9⟩, _⟩ := box10 K1.out
  obtain ⟨⟨y0, y1, y2, y3, y4, y5, y6, y7, y8, y9⟩, _⟩ := box10 K2.out
  have HB1 := hide (bthen (bthen (below1 _ _) (below1 _ _)) hb1)
  have HR2 := hide (HR.out.below HB1.out)
  have HR2' := hide (HR'.out.below HB1.out)
  clear hb1 x0 x1 x2 x4 x5 x6 x7 x8 x9 y0 y1 y2 y4 y5 y6 y7 y8 y9 K1 K2
  go_wp2
  go_loopw [31] (fun i wr => ∃ k q : Nat, k ≤ t.rev.length ∧ i = .int .i64 k ∧ wr = w1.drewN q) (fun i _ => t.rev.length - (intOf i).toNat)
  case atStart => exact ⟨0, 0, Nat.zero_le _, rfl, rfl⟩
  case round =>
    obtain ⟨k, q, hk, rfl, rfl⟩ := hrel
    by_cases hlt : k < t.rev.length
    · obtain ⟨b1, o1, rfl, hb1, hc1⟩ := HR2.out.resolve_left (by intro e; rw [e] at hlt; simp at hlt)
      obtain ⟨b2, o2, rfl, hb2, hc2⟩ := HR2'.out.resolve_left (by intro e; rw [e] at hlt; simp at hlt)
      have g1 := hc1 k hlt
      have g2 := hc2 k hlt
      obtain ⟨n, hx⟩ : ∃ x, x = t.rev.getD k 0 := ⟨_, rfl⟩
      rw [← hx] at g1 g2
      clear hc1 hc2 hx
      have hlt' : (k : Int) < (t.rev.length : Int) := by omega
      go_wp2
      go_quiet (fail)
      go_wp2
      go_roundw
      case rel => exact ⟨k + 1, _, by omega, by go_num, rfl⟩
      case measure => simp [intOf]; omega
    · go_wp2
      go_ret
      exact ⟨rfl, below_drewN HB1.out _⟩

/-- How many blocks are in use, of numbers alone. -/
def usedV (P p : Int) (n : Nat) : Int := if (P - p) % 24 = 0 ∧ 0 < n then 24 else (P - p) % 24
set_option maxHeartbeats 2000000 in
set_option maxRecDepth 100000 in
theorem used_any (v : Value) (d : Dk) (va : Option Addr) (n vc : Nat) (N P : Int) (w : World) (h : IsDk w v d) (hP0 : 0 ≤ P) (hP1 : P ≤ 23) (hp0 : 0 ≤ (superM d).pos) (hp1 : (superM d).pos ≤ 23) :
    Calls Tryz.prog 31 #[v, .agg #[.slice va n vc, .int .i64 N, .int .i64 P]] w fun e w' => e = .returned (.int .i64 (usedV P (superM d).pos n)) ∧ Below w.heap.size w w' := by
  have HD := hide h
  obtain ⟨x, cx, y, cy, rfl, _, _, _, _⟩ := h
  go_enter Tryz.func31, Tryz.ntmps31
  go_wp2_with fail
  refine (read_any _ d 0 _ (HD.out.below (bthen (below1 _ _) (below1 _ _)))).mono ?_
  rintro e w1 ⟨rfl, hb1⟩
  have hs1 : w.heap.size + 1 < w1.heap.size := by have := hb1.size; simp at this; omega
  have K2 := hide (two2 hb1)
  have HB1 := hide (bthen (bthen (below1 _ _) (below1 _ _)) hb1)
  clear hb1
  generalize readE d 0 = RE
  go_wp2_with fail
  refine (stampDecode_any _ _).mono ?_
  rintro e w2 ⟨v2, rfl, hM, hb2⟩
  obtain ⟨a2, c2, a3, c3, rfl, _, _, _, _⟩ := hM
  have K3 := hide (boxKeep hb2 hs1 K2.out)
  have HB2 := hide (bthen HB1.out hb2)
  have hs2 : w.heap.size + 1 < w2.heap.size := by have := hb2.size; omega
  clear hb2 K2 HB1
  obtain ⟨p, hp⟩ : ∃ p, p = (superM d).pos := ⟨_, rfl⟩
  rw [← hp] at hp0 hp1
  rw [show (stampDec (readT d 0)).1.pos = p from hp.symm]
  have HPP := hide hp
  clear hp
  generalize (stampDec (readT d 0)).1 = M at *
  generalize (stampDec (readT d 0)).2 = er at *
  have hpk0 : -23 ≤ P - p := by omega
  have hpk1 : P - p ≤ 23 := by omega
  obtain ⟨⟨x0, x1, x2⟩, xf⟩ := box3 K3.out
  go_wp2_with fail
  refine (pick_any (P - p) 24 _ (by decide) (by decide) (by omega) (by omega)).mono ?_
  rintro e w3 ⟨rfl, rfl⟩
  obtain ⟨u, hu⟩ : ∃ u, u = (P - p) % 24 := ⟨_, rfl⟩
  have HUV : Hid (usedV P p n = if u = 0 ∧ 0 < n then 24 else u) := by rw [Hid, usedV, hu]
  rw [← hu]
  clear hu
  by_cases h0 : u = 0
  · by_cases hn : 0 < n
    · have hn' : (0 : Int) < (n : Int) := by omega
      have HU2 : Hid (usedV P p n = 24) := by rw [Hid, HUV.out, if_pos ⟨h0, hn⟩]
      clear HUV
      subst h0
      go_wp2
      go_ret
      exact ⟨by rw [← HPP.out, HU2.out]; rfl, bthen HB2.out (below1 _ _)⟩
    · have hn' : ¬ (0 : Int) < (n : Int) := by omega
      have HU2 : Hid (usedV P p n = u) := by rw [Hid, HUV.out, if_neg (fun h => hn h.2)]
      clear HUV
      subst h0
      go_wp2
      go_ret
      exact ⟨by rw [← HPP.out, HU2.out]; rfl, bthen HB2.out (below1 _ _)⟩
  · have h0' : (u == 0) = false := by simpa using h0
    have HU2 : Hid (usedV P p n = u) := by rw [Hid, HUV.out, if_neg (fun h => h0 h.1)]
    clear h0 HUV
    go_wp2
    go_ret
    exact ⟨by rw [← HPP.out, HU2.out]; rfl, bthen HB2.out (below1 _ _)⟩

end Go.Proofs.YtjnpndfpajjihabGreat

namespace Go.Proofs.YtjnpndfpajjihabGreat
open Go.RowKit

theorem later_step (d : Dk) (N : Int) (k : Nat) : ((List.range (k + 1)).any fun i => decide ((stampDec (readT d ((i + 1 : Nat) : Int))).2 = 0) && decide (N ≤ (stampDec (readT d ((i + 1 : Nat) : Int))).1.seq)) = (((List.range k).any fun i => decide ((stampDec (readT d ((i + 1 : Nat) : Int))).2 = 0) && decide (N ≤ (stampDec (readT d ((i + 1 : Nat) : Int))).1.seq)) || (decide ((stampDec (readT d ((k + 1 : Nat) : Int))).2 = 0) && decide (N ≤ (stampDec (readT d ((k + 1 : Nat) : Int))).1.seq))) := by
  rw [List.range_succ, List.any_append]
  simp
theorem later_hit {d : Dk} {N : Int} {k : Nat} (hk : k < 24) (h : (decide ((stampDec (readT d ((k + 1 : Nat) : Int))).2 = 0) && decide (N ≤ (stampDec (readT d ((k + 1 : Nat) : Int))).1.seq)) = true) : laterB d N = true :=
  List.any_eq_true.2 ⟨k, List.mem_range.2 hk, h⟩

set_option maxHeartbeats 4000000 in
set_option maxRecDepth 100000 in
theorem later_any (v : Value) (d : Dk) (N : Int) (w : World) (h : IsDk w v d) :
    Calls Tryz.prog 30 #[v, .int .i64 N] w fun e w' => e = .returned (.bool (laterB d N)) ∧ Below w.heap.size w w' := by
  have HD := hide h
  obtain ⟨x, cx, y, cy, rfl, _, _, _, _⟩ := h
  go_enter Tryz.func30, Tryz.ntmps30
  go_wp2
  go_loopw [5] (fun i wr => ∃ k : Nat, k ≤ 24 ∧ i = .int .i64 ((k + 1 : Nat) : Int) ∧ Hid (((List.range k).any fun i => decide ((stampDec (readT d ((i + 1 : Nat) : Int))).2 = 0) && decide (N ≤ (stampDec (readT d ((i + 1 : Nat) : Int))).1.seq)) = false) ∧ Hid (wr.heap[w.heap.size]? = some (.cells #[.slice x d.safe.length cx, .slice y d.wr.length cy] 58 (0, 0))) ∧ w.heap.size < wr.heap.size ∧ Hid (Below w.heap.size w wr)) (fun i _ => 25 - (intOf i).toNat)
  case atStart => exact ⟨0, Nat.zero_le _, rfl, rfl, heap_alloc_new _ _, by simp, below1 _ _⟩
  case round =>
    obtain ⟨k, hk, rfl, HN, KB, hsz, HB⟩ := hrel
    by_cases hlt : k < 24
    · have hlt' : ((k + 1 : Nat) : Int) ≤ 24 := by omega
      obtain ⟨⟨y0, y1⟩, yf⟩ := box2 KB.out
      have HST := hide (later_step d N k)
      have HHT : Hid ((decide ((stampDec (readT d ((k + 1 : Nat) : Int))).2 = 0) && decide (N ≤ (stampDec (readT d ((k + 1 : Nat) : Int))).1.seq)) = true → laterB d N = true) := later_hit hlt
      obtain ⟨j, hj⟩ : ∃ j : Nat, j = k + 1 := ⟨_, rfl⟩
      rw [← hj] at HST HHT hlt' ⊢
      have HJ := hide hj
      clear hj
      go_wp2_with fail
      refine (read_any _ d (j : Int) _ (HD.out.below HB.out)).mono ?_
      rintro e w1 ⟨rfl, hb1⟩
      have hs1 := hb1.size
      have KB1 := hide (boxKeep hb1 hsz KB.out)
      have HB1 := hide (bthen HB.out hb1)
      clear hb1 y0 y1 yf KB HB
      generalize readE d (j : Int) = RE
      generalize readT d (j : Int) = s at *
      go_wp2_with fail
      refine (stampDecode_any s _).mono ?_
      rintro e w2 ⟨v2, rfl, hM, hb2⟩
      obtain ⟨a2, c2, a3, c3, rfl, _, _, _, _⟩ := hM
      have hs2 := hb2.size
      have KB2 := hide (boxKeep hb2 (show w.heap.size < w1.heap.size by omega) KB1.out)
      have HB2 := hide (bthen HB1.out hb2)
      clear hb2 KB1 HB1
      generalize stampDec s = M at *
      obtain ⟨mk, er⟩ := M
      dsimp only at *
      have hz2 : w.heap.size < w2.heap.size := by omega
      by_cases he : er = 0
      · subst he
        by_cases hq : N ≤ mk.seq
        · have HT : Hid (laterB d N = true) := HHT.out (by simp [hq])
          clear HST HHT HN
          go_wp2
          go_ret
          exact ⟨by rw [HT.out]; rfl, bthen HB2.out (below1 _ _)⟩
        · have HN2 : Hid (((List.range (k + 1)).any fun i => decide ((stampDec (readT d ((i + 1 : Nat) : Int))).2 = 0) && decide (N ≤ (stampDec (readT d ((i + 1 : Nat) : Int))).1.seq)) = false) := by rw [Hid, ← HJ.out, HST.out, HN.out]; simp [hq]
          have hq' : ¬ (N ≤ mk.seq) := hq
          clear HST HHT HN
          have hj24 : j ≤ 24 := by omega
          go_wp2
          go_roundw
          case rel => exact ⟨k + 1, by omega, by rw [HJ.out]; go_num, HN2, boxKeep (below1 _ _) hz2 KB2.out, by simp; omega, bthen HB2.out (below1 _ _)⟩
          case measure => have := HJ.out; simp [intOf]; omega
      · have he' : (er == 0) = false := by simpa using he
        have HN2 : Hid (((List.range (k + 1)).any fun i => decide ((stampDec (readT d ((i + 1 : Nat) : Int))).2 = 0) && decide (N ≤ (stampDec (readT d ((i + 1 : Nat) : Int))).1.seq)) = false) := by rw [Hid, ← HJ.out, HST.out, HN.out]; simp [he]
        clear HST HHT HN
        have hj24 : j ≤ 24 := by omega
        go_wp2
        go_roundw
        case rel => exact ⟨k + 1, by omega, by rw [HJ.out]; go_num, HN2, boxKeep (below1 _ _) hz2 KB2.out, by simp; omega, bthen HB2.out (below1 _ _)⟩
        case measure => have := HJ.out; simp [intOf]; omega
    · have e : k = 24 := by omega
      subst e
      have HT : Hid (laterB d N = false) := HN
      clear HN
      go_wp2
      go_ret
      exact ⟨by rw [HT.out]; rfl, HB.out⟩

end Go.Proofs.YtjnpndfpajjihabGreat

namespace Go.Proofs.YtjnpndfpajjihabGreat
open Go.RowKit

theorem newestL_in {l : List Tx} {x : Int × ByteArray} (h : x ∈ newestL l) : 0 ≤ x.1 ∧ x.1 ≤ 11 := by
  unfold newestL asN at h
  obtain ⟨i, hi, hx⟩ := List.mem_flatMap.1 h
  have hi' := List.mem_range.1 hi
  unfold oneC at hx
  cases hf : newestF l (i : Int) with
  | none => rw [hf] at hx; simp at hx
  | some s => rw [hf] at hx; simp at hx; subst hx; simp; omega
theorem told_reachT {d : Dk} : ∀ t ∈ fndL d, Reached t := by
  intro t ht
  by_cases h : scanE d = 0
  · obtain ⟨h1, h2, h3, _⟩ := (fnd_facts h).1 t ht
    unfold Reached
    rw [h3]
    refine ⟨by omega, by simp, by omega⟩
  · rw [fndL, if_neg h] at ht; cases ht
theorem scan_wr {d : Dk} (h : scanE (flushK d) = 0) : (flushK d).wr = [] := by
  have hg := (scan_good2 h).1
  unfold flushK at hg ⊢
  split
  · rfl
  · rename_i hx
    rw [if_neg hx] at hg
    exact absurd hg hx
theorem SegSt.take {w : World} {a : Option Addr} {l : List St} (h : SegSt w a l) (k : Nat) : SegSt w a (l.take k) := by
  rcases h with rfl | ⟨b, off, rfl, hlt, hc⟩
  · exact .inl (by simp)
  · refine .inr ⟨b, off, rfl, hlt, fun i hi => ?_⟩
    rw [List.length_take] at hi
    have := hc i (by omega)
    have e : (l.take k).getD i st0 = l.getD i st0 := by rw [List.getD, List.getD, List.getElem?_take_of_lt (by omega)]
    rw [e]
    exact this
theorem run_n (v : Value) (d : Dk) (a : Option Addr) (n c : Nat) (l : List St) (w : World) (hl : n = l.length) (h : IsDk w v d) (hS : SegSt w a l) (hn : l.length ≤ 1000) :
    Calls Tryz.prog 34 #[v, .slice a n c] w fun e w' => ∃ v2, e = .returned v2 ∧ IsDk w' v2 (runK d l) ∧ Below w.heap.size w w' := by
  subst hl
  exact run_any v d a c l w h hS hn
/-- What is found, behind a store into an elder block. -/
theorem ScPost.foundB {w w' : World} {d : Dk} {e : Ending} (h : ScPost w w' d e) {B : Nat} (hB : B < w.heap.size) : ∃ va vc, e = .returned (.tuple #[.agg #[.slice va (fndL d).length vc, .int .i64 (fndN d), .int .i64 (fndP d)], .int .i64 (scanE d)]) ∧ SegTx w' va (fndL d) ∧ (∀ k u, SegTx (w'.setCell ⟨B, k, none⟩ u) va (fndL d)) ∧ Below w.heap.size w w' := by
  obtain ⟨v, rfl, hb, h1, h2⟩ := h
  by_cases hE : scanE d = 0
  · obtain ⟨q, va, vc, rfl, hq, hO, hX⟩ := h2 hE
    obtain ⟨a, c, hv, hS, _⟩ := SegTx.of_owns hO hX
    simp only [Value.slice.injEq] at hv
    obtain ⟨rfl, _, rfl⟩ := hv
    have hl : fndL d = q.map (·.t) := by rw [fndL, if_pos hE, hq]
    have hlen : q.length = (scanL d).1.length := by rw [← hq, List.length_map]
    refine ⟨va, vc, ?_, by rw [hl]; exact hS, fun k u => ?_, hb⟩
    · rw [hl, fndN, fndP, if_pos hE, if_pos hE, List.length_map, hlen]
    · have hO2 := ownsRow_setCell_below hO (a := ⟨B, k, none⟩) hB u
      have hX2 : ∀ x ∈ q, OwnR (w'.setCell ⟨B, k, none⟩ u) w.heap.size x := fun x hx => by
        obtain ⟨r1, r2, r3⟩ := hX x hx
        exact ⟨ownsRow_setCell_below r1 (a := ⟨B, k, none⟩) hB u, ownsRow_setCell_below r2 (a := ⟨B, k, none⟩) hB u, ownsRow_setCell_below r3 (a := ⟨B, k, none⟩) hB u⟩
      obtain ⟨a, c, hv, hS2, _⟩ := SegTx.of_owns hO2 hX2
      simp only [Value.slice.injEq] at hv
      obtain ⟨rfl, _, rfl⟩ := hv
      rw [hl]; exact hS2
  · rw [h1 hE]
    refine ⟨none, 0, ?_, .inl (by rw [fndL, if_neg hE]), fun k u => .inl (by rw [fndL, if_neg hE]), hb⟩
    rw [fndL, fndN, fndP, if_neg hE, if_neg hE, if_neg hE]
    rfl
/-- A disk is not touched by a store into a box without texts. -/
theorem IsDk.setFlat {w : World} {v : Value} {d : Dk} {B : Nat} {cs : Array Value} {t : TypeId} (h : IsDk w v d) (hB : w.heap[B]? = some (.cells cs t (0, 0))) (hc : ∀ (o : Nat) (s : ByteArray), cs[o]? ≠ some (.string s)) (k : Nat) (u : Value) : IsDk (w.setCell ⟨B, k, none⟩ u) v d := by
  obtain ⟨a, c, a', c', rfl, hS, hW, l1, l2⟩ := h
  have hcell : ∀ o s, w.cell? ⟨B, o, none⟩ ≠ some (.string s) := by
    intro o s hx
    rw [cell_of_row w _ _ _ _ _ hB] at hx
    exact hc o s hx
  refine ⟨a, c, a', c', rfl, ?_, ?_, l1, l2⟩
  · rcases hS with e | ⟨b, off, rfl, hlt, hq⟩
    · exact .inl e
    · by_cases h0 : d.safe.length = 0
      · exact .inl (List.eq_nil_of_length_eq_zero h0)
      · have hne : b ≠ B := by intro e; subst e; exact hcell _ _ (hq 0 (by omega))
        exact .inr ⟨b, off, rfl, by simpa [World.setCell] using hlt, fun i hi => cellSet (hq i hi) (by simpa using hne)⟩
  · rcases hW with e | ⟨b, off, rfl, hlt, hq⟩
    · exact .inl e
    · by_cases h0 : d.wr.length = 0
      · exact .inl (List.eq_nil_of_length_eq_zero h0)
      · have hne : b ≠ B := by intro e; subst e; exact hcell _ _ (hq 0 (by omega)).2
        exact .inr ⟨b, off, rfl, by simpa [World.setCell] using hlt, fun i hi => ⟨cellSet (hq i hi).1 (by simpa using hne), cellSet (hq i hi).2 (by simpa using hne)⟩⟩

end Go.Proofs.YtjnpndfpajjihabGreat
