/-
  The walks of package txn's named and Open.
  The walk of seal's take.
-/
import Derived.Test.YtjnpndfpajjihabGreatGrSealWhole40
import Derived.Test.YtjnpndfpajjihabGreatGrSealWhole33
namespace Go.Proofs.YtjnpndfpajjihabGreat
open Go.RowKit

set_option maxHeartbeats 1000000 in
theorem named_any (v : Value) (t : Tx) (b : Int) (w : World) (hT : IsTx w v t) :
    Calls Tryz.prog 50 #[v, .int .i64 b] w fun e w' => e = .returned (.bool (namedB t b)) ∧ Below w.heap.size w w' := by
  obtain ⟨a, c, a', c', r, d, rfl, hM, hD, hR, n1, n2, n3⟩ := hT
  have HM := hide hM
  have HR := hide hR
  have N3 := hide n3
  clear hM hD hR n3
  go_enter Tryz.func50, Tryz.ntmps50
  go_wp2_with fail
  refine (holds_any a c t.info b _ (HM.out.below (below1 _ _)) n1).mono ?_
  rintro e w1 ⟨rfl, hb1⟩
  have hs1 : w.heap.size < w1.heap.size := by have := hb1.size; simp at this; omega
  obtain ⟨⟨_, _, _, x3, _⟩, _⟩ := box10 (one1 hb1)
  have HB := hide (bthen (below1 _ _) hb1)
  have HR1 := hide (HR.out.below HB.out)
  clear hb1
  cases hi : (textIn b t.info).isSome with
  | true =>
    have HN : Hid (namedB t b = true) := by rw [Hid, namedB, hi]; rfl
    go_wp2
    go_ret
    exact ⟨by rw [HN.out]; rfl, HB.out⟩
  | false =>
    have HN : Hid (namedB t b = amongB t.rev b) := by rw [Hid, namedB, hi]; rfl
    go_wp2_with fail
    refine (containsI_any r d t.rev b _ HR1.out N3.out).mono ?_
    rintro e w2 ⟨rfl, rfl⟩
    go_wp2
    go_ret
    exact ⟨by rw [HN.out]; rfl, HB.out⟩

set_option maxHeartbeats 400000 in
theorem openLit_any (o : Bool) (l : Int) (W : World) :
    Calls Tryz.prog 104 #[.agg #[.bool o, .int .i64 l]] W fun e w' => e = .returned (.bool o) ∧ Below W.heap.size W w' := by
  go_enter Tryz.func104, Tryz.ntmps104
  go_wp2
  go_ret
  exact ⟨rfl, below1 _ _⟩

/-- Three handles at an address. -/
def SegH (w : World) (B off : Nat) (x0 x1 x2 : Hd) : Prop :=
  B < w.heap.size ∧ (w.cell? ⟨B, off, none⟩ = some (.bool x0.on) ∧ w.cell? ⟨B, off + 1, none⟩ = some (.int .i64 x0.left)) ∧ (w.cell? ⟨B, off + 2, none⟩ = some (.bool x1.on) ∧ w.cell? ⟨B, off + 3, none⟩ = some (.int .i64 x1.left)) ∧ (w.cell? ⟨B, off + 4, none⟩ = some (.bool x2.on) ∧ w.cell? ⟨B, off + 5, none⟩ = some (.int .i64 x2.left))

set_option maxHeartbeats 2000000 in
set_option maxRecDepth 100000 in
theorem idxH_any (B : Nat) (x0 x1 x2 : Hd) (w : World) (h : SegH w B 4 x0 x1 x2) :
    Calls Tryz.prog 141 #[.slice (some ⟨B, 4, none⟩) 3 3, .func (.func 104) #[] #[]] w fun e w' => ∃ i : Int, e = .returned (.int .i64 i) ∧ (x0.on || x1.on || x2.on) = decide (0 ≤ i) ∧ Below w.heap.size w w' := by
  obtain ⟨o0, l0⟩ := x0
  obtain ⟨o1, l1⟩ := x1
  obtain ⟨o2, l2⟩ := x2
  obtain ⟨hB, ⟨a0, b0⟩, ⟨a1, b1⟩, a2, b2⟩ := h
  simp only [Nat.reduceAdd] at a0 a1 a2 b0 b1 b2
  go_enter Tryz.func141, Tryz.ntmps141
  go_wp2
  refine wp_loop_rounds 4 ?_
  rw [rounds_succ]
  go_wp2_with fail
  refine (openLit_any o0 l0 _).mono ?_
  rintro e w1 ⟨rfl, hb1⟩
  cases o0 with
  | true =>
    go_wp2
    go_ret
    exact ⟨_, rfl, by simp, hb1⟩
  | false =>
    have c1 := cellKeep hb1 hB a1
    have d1 := cellKeep hb1 hB b1
    have c2 := cellKeep hb1 hB a2
    have d2 := cellKeep hb1 hB b2
    have hB1 : B < w1.heap.size := Nat.lt_of_lt_of_le hB hb1.size
    clear a0 b0 a1 b1 a2 b2
    go_wp2
    rw [rounds_succ]
    go_wp2_with fail
    refine (openLit_any o1 l1 _).mono ?_
    rintro e w2 ⟨rfl, hb2⟩
    have hb12 := bthen hb1 hb2
    cases o1 with
    | true =>
      go_wp2
      go_ret
      exact ⟨_, rfl, by simp, hb12⟩
    | false =>
      have e2 := cellKeep hb2 hB1 c2
      have f2 := cellKeep hb2 hB1 d2
      clear c1 d1 c2 d2 hb1 hb2
      go_wp2
      rw [rounds_succ]
      go_wp2_with fail
      refine (openLit_any o2 l2 _).mono ?_
      rintro e w3 ⟨rfl, hb3⟩
      have hb13 := bthen hb12 hb3
      clear e2 f2 hb12 hb3
      cases o2 with
      | true =>
        go_wp2
        go_ret
        exact ⟨_, rfl, by simp, hb13⟩
      | false =>
        go_wp2
        rw [rounds_succ]
        go_wp2
        go_ret
        exact ⟨_, rfl, by simp, hb13⟩

set_option maxHeartbeats 1000000 in
theorem containsH_any (B : Nat) (x0 x1 x2 : Hd) (w : World) (h : SegH w B 4 x0 x1 x2) :
    Calls Tryz.prog 103 #[.slice (some ⟨B, 4, none⟩) 3 3, .func (.func 104) #[] #[]] w fun e w' => e = .returned (.bool (x0.on || x1.on || x2.on)) ∧ Below w.heap.size w w' := by
  go_enter Tryz.func103, Tryz.ntmps103
  go_wp2_with fail
  refine (idxH_any B x0 x1 x2 w h).mono ?_
  rintro e w1 ⟨i, rfl, hi, hb1⟩
  have HI := hide hi
  clear hi
  go_wp2
  go_ret
  exact ⟨by rw [HI.out]; rfl, hb1⟩

set_option maxHeartbeats 1000000 in
set_option maxRecDepth 100000 in
theorem tOpenV_any (q : Int) (a : Option Addr) (n c : Nat) (a' : Option Addr) (n' c' : Nat) (r : Option Addr) (m d : Nat) (y0 y1 y2 : Hd) (w : World) :
    Calls Tryz.prog 58 #[.agg #[.int .i64 q, .slice a n c, .slice a' n' c', .slice r m d, .bool y0.on, .int .i64 y0.left, .bool y1.on, .int .i64 y1.left, .bool y2.on, .int .i64 y2.left]] w fun e w' => e = .returned (.bool (y0.on || y1.on || y2.on)) ∧ Below w.heap.size w w' := by
  go_enter Tryz.func58, Tryz.ntmps58
  go_wp2_with fail
  refine (containsH_any w.heap.size y0 y1 y2 _ ⟨by simp, ⟨by simp [go_sem], by simp [go_sem]⟩, ⟨by simp [go_sem], by simp [go_sem]⟩, by simp [go_sem], by simp [go_sem]⟩).mono ?_
  rintro e w1 ⟨rfl, hb1⟩
  go_wp2
  go_ret
  exact ⟨rfl, bthen (below1 _ _) hb1⟩
theorem tOpen_any (v : Value) (t : Tx) (w : World) (hT : IsTx w v t) :
    Calls Tryz.prog 58 #[v] w fun e w' => e = .returned (.bool (openB t)) ∧ Below w.heap.size w w' := by
  obtain ⟨a, c, a', c', r, d, rfl, _, _, _, _, _, _⟩ := hT
  exact tOpenV_any _ _ _ _ _ _ _ _ _ _ t.h0 t.h1 t.h2 w

end Go.Proofs.YtjnpndfpajjihabGreat

namespace Go.Proofs.YtjnpndfpajjihabGreat
open Go.RowKit

/-- What Commit answers first: its error; the ring behind it; the places. -/
def sealE (h u : Int) (t : Tx) : Int := if goodR h u = false ∨ goodX t = false ∨ openB t = true then 2 else takeE h u (needN t.info.length t.rev.length)
def sealH (h u : Int) (t : Tx) : Int := if sealE h u t = 0 then takeH h u (needN t.info.length t.rev.length) else h
def sealU (h u : Int) (t : Tx) : Int := if sealE h u t = 0 then takeU h u (needN t.info.length t.rev.length) else u
def sealP (h u : Int) (t : Tx) : List Int := if sealE h u t = 0 then takeL h u (needN t.info.length t.rev.length) else []

set_option maxHeartbeats 4000000 in
set_option maxRecDepth 100000 in
theorem take_any (h u : Int) (v : Value) (t : Tx) (w : World) (hT : IsTx w v t) (r1 : t.info.length * 24 ≤ 140737488355328) (r2 : t.data.length * 24 ≤ 140737488355328) :
    Calls Tryz.prog 59 #[.agg #[.int .i64 h, .int .i64 u], v] w fun e w' => ∃ a c, e = .returned (.tuple #[.agg #[.int .i64 (sealH h u t), .int .i64 (sealU h u t)], .slice a (sealP h u t).length c, .int .i64 (sealE h u t)]) ∧ (SegI w' a (sealP h u t) ∧ (∀ b off, a = some ⟨b, off, none⟩ → w.heap.size ≤ b) ∧ (sealP h u t).length ≤ c) ∧ Below w.heap.size w w' := by
  have HT := hide hT
  obtain ⟨a0, a1, a2, a3, a4, a5, rfl, _, _, _, n1, n2, n3⟩ := hT
  go_enter Tryz.func59, Tryz.ntmps59
  go_wp2_with fail
  refine (ringGood_any h u _).mono ?_
  rintro e w1 ⟨rfl, hb1⟩
  obtain ⟨K1, K2, K3, hs1⟩ := three1 hb1
  have KR := hide K1
  have KT := hide K2
  have KZ := hide K3
  have hs1' : w.heap.size < w1.heap.size := by omega
  have hs1'' : w.heap.size + 1 < w1.heap.size := by omega
  have HB1 := hide (bthen (bthen (bthen (below1 _ _) (below1 _ _)) (below1 _ _)) hb1)
  clear K1 K2 K3 hb1
  obtain ⟨⟨r0, r1'⟩, _⟩ := box2 KR.out
  obtain ⟨⟨y0, y1⟩, f0, f1⟩ := box2 KZ.out
  obtain ⟨⟨x0, x1, x2, x3, x4, x5, x6, x7, x8, x9⟩, _⟩ := box10 KT.out
  cases hg : goodR h u with
  | false =>
    have HE : Hid (sealE h u t = 2) := by rw [Hid, sealE, if_pos (.inl hg)]
    have HH : Hid (sealH h u t = h ∧ sealU h u t = u ∧ sealP h u t = []) := by simp [Hid, sealH, sealU, sealP, HE.out]
    go_wp2
    refine bodyPost_ret (v := .tuple #[.agg #[.int .i64 h, .int .i64 u], .slice none 0 0, .int .i64 2]) (by simp [results, Tryz.results59, go_sem, y0, y1]) rfl ⟨none, 0, by rw [HE.out, HH.out.1, HH.out.2.1, HH.out.2.2]; rfl, ⟨.inl HH.out.2.2, fun _ _ e => (by cases e), (by rw [HH.out.2.2]; exact Nat.le_refl _)⟩, ?_⟩
    repeat refine Below.setCell ?_ (by simp; try omega) _
    exact HB1.out
  | true =>
    have HG := hide hg
    clear hg
    go_wp2_with fail
    refine (tGood_any _ t _ (HT.out.below HB1.out) r1 r2).mono ?_
    rintro e w2 ⟨rfl, hb2⟩
    replace KR := hide (boxKeep hb2 hs1' KR.out)
    replace KT := hide (boxKeep hb2 hs1'' KT.out)
    replace KZ := hide (boxKeep hb2 hs1 KZ.out)
    have HB2 := hide (bthen HB1.out hb2)
    have hs2 := Nat.lt_of_lt_of_le hs1 hb2.size
    have hs2' : w.heap.size < w2.heap.size := by omega
    have hs2'' : w.heap.size + 1 < w2.heap.size := by omega
    clear hb2 r0 r1' y0 y1 f0 f1 x0 x1 x2 x3 x4 x5 x6 x7 x8 x9 HB1
    obtain ⟨⟨r0, r1'⟩, _⟩ := box2 KR.out
    obtain ⟨⟨y0, y1⟩, f0, f1⟩ := box2 KZ.out
    obtain ⟨⟨x0, x1, x2, x3, x4, x5, x6, x7, x8, x9⟩, _⟩ := box10 KT.out
    cases hx : goodX t with
    | false =>
      have HE : Hid (sealE h u t = 2) := by rw [Hid, sealE, if_pos (.inr (.inl hx))]
      have HH : Hid (sealH h u t = h ∧ sealU h u t = u ∧ sealP h u t = []) := by simp [Hid, sealH, sealU, sealP, HE.out]
      go_wp2
      refine bodyPost_ret (v := .tuple #[.agg #[.int .i64 h, .int .i64 u], .slice none 0 0, .int .i64 2]) (by simp [results, Tryz.results59, go_sem, y0, y1]) rfl ⟨none, 0, by rw [HE.out, HH.out.1, HH.out.2.1, HH.out.2.2]; rfl, ⟨.inl HH.out.2.2, fun _ _ e => (by cases e), (by rw [HH.out.2.2]; exact Nat.le_refl _)⟩, ?_⟩
      repeat refine Below.setCell ?_ (by simp; try omega) _
      exact HB2.out
    | true =>
      have HXG := hide hx
      clear hx
      go_wp2_with fail
      refine (tOpen_any _ t _ (HT.out.below HB2.out)).mono ?_
      rintro e w3 ⟨rfl, hb3⟩
      replace KR := hide (boxKeep hb3 hs2' KR.out)
      replace KT := hide (boxKeep hb3 hs2'' KT.out)
      replace KZ := hide (boxKeep hb3 hs2 KZ.out)
      have HB3 := hide (bthen HB2.out hb3)
      have hs3 := Nat.lt_of_lt_of_le hs2 hb3.size
      have hs3' : w.heap.size < w3.heap.size := by omega
      clear hb3 r0 r1' y0 y1 f0 f1 x0 x1 x2 x3 x4 x5 x6 x7 x8 x9 HB2
      obtain ⟨⟨r0, r1'⟩, _⟩ := box2 KR.out
      obtain ⟨⟨y0, y1⟩, f0, f1⟩ := box2 KZ.out
      obtain ⟨⟨x0, x1, x2, x3, x4, x5, x6, x7, x8, x9⟩, _⟩ := box10 KT.out
      cases ho : openB t with
      | true =>
        have HE : Hid (sealE h u t = 2) := by rw [Hid, sealE, if_pos (.inr (.inr ho))]
        have HH : Hid (sealH h u t = h ∧ sealU h u t = u ∧ sealP h u t = []) := by simp [Hid, sealH, sealU, sealP, HE.out]
        go_wp2
        refine bodyPost_ret (v := .tuple #[.agg #[.int .i64 h, .int .i64 u], .slice none 0 0, .int .i64 2]) (by simp [results, Tryz.results59, go_sem, y0, y1]) rfl ⟨none, 0, by rw [HE.out, HH.out.1, HH.out.2.1, HH.out.2.2]; rfl, ⟨.inl HH.out.2.2, fun _ _ e => (by cases e), (by rw [HH.out.2.2]; exact Nat.le_refl _)⟩, ?_⟩
        repeat refine Below.setCell ?_ (by simp; try omega) _
        exact HB3.out
      | false =>
        have hsm := good_small HXG.out
        have HN : Hid (needE (t.info.length : Int) (t.rev.length : Int) = 0) := by rw [Hid, needE, if_neg]; omega
        have HE : Hid (sealE h u t = takeE h u (needN t.info.length t.rev.length)) := by
          rw [Hid, sealE, if_neg]
          rw [HG.out, HXG.out, ho]; simp
        have HS : Hid (sealH h u t = takeH h u (needN t.info.length t.rev.length) ∧ sealU h u t = takeU h u (needN t.info.length t.rev.length) ∧ sealP h u t = takeL h u (needN t.info.length t.rev.length)) := by
          by_cases e : takeE h u (needN t.info.length t.rev.length) = 0
          · simp [Hid, sealH, sealU, sealP, HE.out, e]
          · simp [Hid, sealH, sealU, sealP, HE.out, takeH, takeU, takeL, e]
        go_wp2_with fail
        refine (ringNeed_any (t.info.length : Int) (t.rev.length : Int) _).mono ?_
        rintro e w4 ⟨rfl, rfl⟩
        rw [HN.out]
        generalize needN (t.info.length : Int) (t.rev.length : Int) = nn at *
        go_wp2_with fail
        refine (ringTake_cap h u nn _).mono ?_
        rintro e w5 ⟨a, c, rfl, hS5, hb5⟩
        have HS5 := hide hS5
        have HB5 := hide (bthen HB3.out hb5)
        have KZ5 := hide (boxKeep hb5 hs3 KZ.out)
        have hs5 := Nat.lt_of_lt_of_le hs3 hb5.size
        clear hS5 hb5 r0 r1' y0 y1 f0 f1 x0 x1 x2 x3 x4 x5 x6 x7 x8 x9
        obtain ⟨⟨y0, y1⟩, f0, f1⟩ := box2 KZ5.out
        generalize takeE h u nn = te at *
        generalize takeH h u nn = th at *
        generalize takeU h u nn = tu at *
        generalize takeL h u nn = tl at *
        go_wp2
        refine bodyPost_ret (v := .tuple #[.agg #[.int .i64 th, .int .i64 tu], .slice a tl.length c, .int .i64 te]) (by simp [results, Tryz.results59, go_sem, y0, y1]) rfl ?_
        rw [HE.out, HS.out.1, HS.out.2.1, HS.out.2.2]
        refine ⟨a, c, rfl, ⟨?_, fun b off e => (by have := HS5.out.2.1 b off e; omega), HS5.out.2.2⟩, ?_⟩
        · refine (HS5.out.1.setNe (fun b off e => ?_) _).setNe (fun b off e => ?_) _
          · have := HS5.out.2.1 b off e; simp; omega
          · have := HS5.out.2.1 b off e; simp; omega
        · repeat refine Below.setCell ?_ (by simp; try omega) _
          exact HB5.out

end Go.Proofs.YtjnpndfpajjihabGreat
