/-
  The walks of package txn's named and Open.
-/
import Derived.Test.YtjnpndfpajjihabGreatTFind
namespace Go.Proofs.YtjnpndfpajjihabGreat
open Go.RowKit

set_option maxHeartbeats 1000000 in
theorem named_any (v : Value) (t : Tx) (b : Int) (w : World) (hT : IsTx w v t) :
    Calls Tryz.prog 50 #[v, .int .i64 b] w fun e w' => e = .returned (.bool (namedB t b)) ∧ Below w.heap.size w w' := by
  obtain ⟨a, c, a', c', r, d, rfl, hM, hD, hR, n1, n2, n3⟩ := hT
  have HM := hide hM
  have HR := hide hR
  have N3 := hide n3
  clear hM hD hR n3
  go_enter Tryz.func50, Tryz.ntmps50
  go_wp2_with fail
  refine (holds_any a c t.info b _ (HM.out.below (below1 _ _)) n1).mono ?_
  rintro e w1 ⟨rfl, hb1⟩
  have hs1 : w.heap.size < w1.heap.size := by have := hb1.size; simp at this; omega
  obtain ⟨⟨_, _, _, x3, _⟩, _⟩ := box10 (one1 hb1)
  have HB := hide (bthen (below1 _ _) hb1)
  have HR1 := hide (HR.out.below HB.out)
  clear hb1
  cases hi : (textIn b t.info).isSome with
  | true =>
    have HN : Hid (namedB t b = true) := by rw [Hid, namedB, hi]; rfl
    go_wp2
    go_ret
    exact ⟨by rw [HN.out]; rfl, HB.out⟩
  | false =>
    have HN : Hid (namedB t b = amongB t.rev b) := by rw [Hid, namedB, hi]; rfl
    go_wp2_with fail
    refine (containsI_any r d t.rev b _ HR1.out N3.out).mono ?_
    rintro e w2 ⟨rfl, rfl⟩
    go_wp2
    go_ret
    exact ⟨by rw [HN.out]; rfl, HB.out⟩

set_option maxHeartbeats 400000 in
theorem openLit_any (o : Bool) (l : Int) (W : World) :
    Calls Tryz.prog 104 #[.agg #[.bool o, .int .i64 l]] W fun e w' => e = .returned (.bool o) ∧ Below W.heap.size W w' := by
  go_enter Tryz.func104, Tryz.ntmps104
  go_wp2
  go_ret
  exact ⟨rfl, below1 _ _⟩

/-- Three handles at an address. -/
def SegH (w : World) (B off : Nat) (x0 x1 x2 : Hd) : Prop :=
  B < w.heap.size ∧ (w.cell? ⟨B, off, none⟩ = some (.bool x0.on) ∧ w.cell? ⟨B, off + 1, none⟩ = some (.int .i64 x0.left)) ∧ (w.cell? ⟨B, off + 2, none⟩ = some (.bool x1.on) ∧ w.cell? ⟨B, off + 3, none⟩ = some (.int .i64 x1.left)) ∧ (w.cell? ⟨B, off + 4, none⟩ = some (.bool x2.on) ∧ w.cell? ⟨B, off + 5, none⟩ = some (.int .i64 x2.left))

set_option maxHeartbeats 2000000 in
set_option maxRecDepth 100000 in
theorem idxH_any (B : Nat) (x0 x1 x2 : Hd) (w : World) (h : SegH w B 4 x0 x1 x2) :
    Calls Tryz.prog 141 #[.slice (some ⟨B, 4, none⟩) 3 3, .func (.func 104) #[] #[]] w fun e w' => ∃ i : Int, e = .returned (.int .i64 i) ∧ (x0.on || x1.on || x2.on) = decide (0 ≤ i) ∧ Below w.heap.size w w' := by
  obtain ⟨o0, l0⟩ := x0
  obtain ⟨o1, l1⟩ := x1
  obtain ⟨o2, l2⟩ := x2
  obtain ⟨hB, ⟨a0, b0⟩, ⟨a1, b1⟩, a2, b2⟩ := h
  simp only [Nat.reduceAdd] at a0 a1 a2 b0 b1 b2
  go_enter Tryz.func141, Tryz.ntmps141
  go_wp2
  refine wp_loop_rounds 4 ?_
  rw [rounds_succ]
  go_wp2_with fail
  refine (openLit_any o0 l0 _).mono ?_
  rintro e w1 ⟨rfl, hb1⟩
  cases o0 with
  | true =>
    go_wp2
    go_ret
    exact ⟨_, rfl, by simp, hb1⟩
  | false =>
    have c1 := cellKeep hb1 hB a1
    have d1 := cellKeep hb1 hB b1
    have c2 := cellKeep hb1 hB a2
    have d2 := cellKeep hb1 hB b2
    have hB1 : B < w1.heap.size := Nat.lt_of_lt_of_le hB hb1.size
    clear a0 b0 a1 b1 a2 b2
    go_wp2
    rw [rounds_succ]
    go_wp2_with fail
    refine (openLit_any o1 l1 _).mono ?_
    rintro e w2 ⟨rfl, hb2⟩
    have hb12 := bthen hb1 hb2
    cases o1 with
    | true =>
      go_wp2
      go_ret
      exact ⟨_, rfl, by simp, hb12⟩
    | false =>
      have e2 := cellKeep hb2 hB1 c2
      have f2 := cellKeep hb2 hB1 d2
      clear c1 d1 c2 d2 hb1 hb2
      go_wp2
      rw [rounds_succ]
      go_wp2_with fail
      refine (openLit_any o2 l2 _).mono ?_
      rintro e w3 ⟨rfl, hb3⟩
      have hb13 := bthen hb12 hb3
      clear e2 f2 hb12 hb3
      cases o2 with
      | true =>
        go_wp2
        go_ret
        exact ⟨_, rfl, by simp, hb13⟩
      | false =>
        go_wp2
        rw [rounds_succ]
        go_wp2
        go_ret
        exact ⟨_, rfl, by simp, hb13⟩

set_option maxHeartbeats 1000000 in
theorem containsH_any (B : Nat) (x0 x1 x2 : Hd) (w : World) (h : SegH w B 4 x0 x1 x2) :
    Calls Tryz.prog 103 #[.slice (some ⟨B, 4, none⟩) 3 3, .func (.func 104) #[] #[]] w fun e w' => e = .returned (.bool (x0.on || x1.on || x2.on)) ∧ Below w.heap.size w w' := by
  go_enter Tryz.func103, Tryz.ntmps103
  go_wp2_with fail
  refine (idxH_any B x0 x1 x2 w h).mono ?_
  rintro e w1 ⟨i, rfl, hi, hb1⟩
  have HI := hide hi
  clear hi
  go_wp2
  go_ret
  exact ⟨by rw [HI.out]; rfl, hb1⟩

set_option maxHeartbeats 1000000 in
set_option maxRecDepth 100000 in
theorem tOpenV_any (q : Int) (a : Option Addr) (n c : Nat) (a' : Option Addr) (n' c' : Nat) (r : Option Addr) (m d : Nat) (y0 y1 y2 : Hd) (w : World) :
    Calls Tryz.prog 58 #[.agg #[.int .i64 q, .slice a n c, .slice a' n' c', .slice r m d, .bool y0.on, .int .i64 y0.left, .bool y1.on, .int .i64 y1.left, .bool y2.on, .int .i64 y2.left]] w fun e w' => e = .returned (.bool (y0.on || y1.on || y2.on)) ∧ Below w.heap.size w w' := by
  go_enter Tryz.func58, Tryz.ntmps58
  go_wp2_with fail
  refine (containsH_any w.heap.size y0 y1 y2 _ ⟨by simp, ⟨by simp [go_sem], by simp [go_sem]⟩, ⟨by simp [go_sem], by simp [go_sem]⟩, by simp [go_sem], by simp [go_sem]⟩).mono ?_
  rintro e w1 ⟨rfl, hb1⟩
  go_wp2
  go_ret
  exact ⟨rfl, bthen (below1 _ _) hb1⟩
theorem tOpen_any (v : Value) (t : Tx) (w : World) (hT : IsTx w v t) :
    Calls Tryz.prog 58 #[v] w fun e w' => e = .returned (.bool (openB t)) ∧ Below w.heap.size w w' := by
  obtain ⟨a, c, a', c', r, d, rfl, _, _, _, _, _, _⟩ := hT
  exact tOpenV_any _ _ _ _ _ _ _ _ _ _ t.h0 t.h1 t.h2 w

end Go.Proofs.YtjnpndfpajjihabGreat
