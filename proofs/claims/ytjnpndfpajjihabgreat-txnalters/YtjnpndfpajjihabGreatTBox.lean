/-
  A transaction in a box of the call's own, with rows of its own; the walk of package txn's fresh.
-/
import Derived.Test.YtjnpndfpajjihabGreatTClone
import Derived.Test.YtjnpndfpajjihabGreatTPure
namespace Go.Proofs.YtjnpndfpajjihabGreat
open Go.RowKit

/-- A transaction in a block, whose rows are the call's own and lie behind it. -/
def BoxTx (w : World) (B : Nat) (t : Tx) (va vd vr : Value) : Prop :=
  w.heap[B]? = some (.cells #[.int .i64 t.seq, va, vd, vr, .bool t.h0.on, .int .i64 t.h0.left, .bool t.h1.on, .int .i64 t.h1.left, .bool t.h2.on, .int .i64 t.h2.left] 28 (0, 0)) ∧
  w.ownsRow (B + 1) 78 2 va t.info.length (cellsC t.info) ∧ w.ownsRow (B + 1) 78 2 vd t.data.length (cellsC t.data) ∧ w.ownsRow (B + 1) 3 1 vr t.rev.length (cellsI t.rev)
theorem BoxTx.lt {w : World} {B : Nat} {t : Tx} {va vd vr : Value} (h : BoxTx w B t va vd vr) : B < w.heap.size := (Array.getElem?_eq_some_iff.1 h.1).1
theorem BoxTx.below {w w' : World} {B : Nat} {t : Tx} {va vd vr : Value} (h : BoxTx w B t va vd vr) (hb : Below w.heap.size w w') : BoxTx w' B t va vd vr :=
  ⟨boxKeep hb h.lt h.1, owns_keep h.2.1 hb, owns_keep h.2.2.1 hb, owns_keep h.2.2.2 hb⟩
/-- Behind a write into the box. -/
theorem BoxTx.set {w : World} {B : Nat} {t t' : Tx} {va vd vr va' vd' vr' : Value} (h : BoxTx w B t va vd vr) (k : Nat) (u : Value)
    (hc : (#[.int .i64 t.seq, va, vd, vr, .bool t.h0.on, .int .i64 t.h0.left, .bool t.h1.on, .int .i64 t.h1.left, .bool t.h2.on, .int .i64 t.h2.left] : Array Value).setIfInBounds k u = #[.int .i64 t'.seq, va', vd', vr', .bool t'.h0.on, .int .i64 t'.h0.left, .bool t'.h1.on, .int .i64 t'.h1.left, .bool t'.h2.on, .int .i64 t'.h2.left])
    (h1 : w.ownsRow (B + 1) 78 2 va' t'.info.length (cellsC t'.info)) (h2 : w.ownsRow (B + 1) 78 2 vd' t'.data.length (cellsC t'.data)) (h3 : w.ownsRow (B + 1) 3 1 vr' t'.rev.length (cellsI t'.rev)) :
    BoxTx (w.setCell ⟨B, k, none⟩ u) B t' va' vd' vr' := by
  refine ⟨?_, ownsRow_setCell_below h1 (by simp) _, ownsRow_setCell_below h2 (by simp) _, ownsRow_setCell_below h3 (by simp) _⟩
  rw [heap_setCell_same w B k _ _ u h.1, ← hc]

theorem BoxTx.is {w : World} {B : Nat} {t : Tx} {va vd vr : Value} (h : BoxTx w B t va vd vr) (n1 : t.info.length ≤ maxLen) (n2 : t.data.length ≤ maxLen) (n3 : t.rev.length ≤ maxLen) :
    IsTx w (.agg #[.int .i64 t.seq, va, vd, vr, .bool t.h0.on, .int .i64 t.h0.left, .bool t.h1.on, .int .i64 t.h1.left, .bool t.h2.on, .int .i64 t.h2.left]) t := by
  obtain ⟨a, c, rfl, h1, _⟩ := SegC.of_owns h.2.1
  obtain ⟨a', c', rfl, h2, _⟩ := SegC.of_owns h.2.2.1
  obtain ⟨r, d, rfl, h3, _⟩ := SegI.of_owns h.2.2.2
  exact ⟨a, c, a', c', r, d, rfl, h1, h2, h3, n1, n2, n3⟩

set_option maxHeartbeats 4000000 in
set_option maxRecDepth 100000 in
theorem fresh_any (v : Value) (t : Tx) (w : World) (hT : IsTx w v t) (r1 : t.info.length ≤ 1000) (r2 : t.data.length ≤ 1000) (r3 : t.rev.length ≤ 1000) :
    Calls Tryz.prog 38 #[v] w fun e w' => ∃ va vd vr, e = .returned (.pointer (some ⟨w.heap.size, 0, none⟩)) ∧ BoxTx w' w.heap.size t va vd vr ∧ Below w.heap.size w w' := by
  obtain ⟨a, c, a', c', r, d, rfl, hM, hD, hR, n1, n2, n3⟩ := hT
  have HM := hide hM
  have HD := hide hD
  have HR := hide hR
  clear hM hD hR
  go_enter Tryz.func38, Tryz.ntmps38
  go_wp2_with fail
  refine (cloneC_any a c t.info _ (HM.out.below (below1 _ _)) n1 (by omega)).mono ?_
  rintro e w1 ⟨v1, rfl, ho1, hb1⟩
  obtain ⟨a1, c1, rfl, _, _⟩ := SegC.of_owns ho1
  have hs1 : w.heap.size < w1.heap.size := by have := hb1.size; simp at this; omega
  have K1 := hide (one1 hb1)
  have HB1 := hide (bthen (below1 _ _) hb1)
  have HO1 : Hid (w1.ownsRow (w.heap.size + 1) 78 2 (.slice a1 t.info.length c1) t.info.length (cellsC t.info)) := owns_base ho1 (by simp)
  clear hb1 ho1
  obtain ⟨⟨x0, x1, x2, x3, x4, x5, x6, x7, x8, x9⟩, ff⟩ := box10 K1.out
  go_wp2_with fail
  refine (cloneC_any a' c' t.data _ (HD.out.below (HB1.out.setCell (p := ⟨w.heap.size, 1, none⟩) (by simp) (.slice a1 t.info.length c1))) n2 (by omega)).mono ?_
  rintro e w2 ⟨v2, rfl, ho2, hb2⟩
  obtain ⟨a2, c2, rfl, _, _⟩ := SegC.of_owns ho2
  have hz2 := hb2.size
  simp only [World.size_setCell] at hz2
  have hs2 : w.heap.size < w2.heap.size := by omega
  have K2 : Hid (w2.heap[w.heap.size]? = some (.cells #[.int .i64 t.seq, .slice a1 t.info.length c1, .slice a' t.data.length c', .slice r t.rev.length d, .bool t.h0.on, .int .i64 t.h0.left, .bool t.h1.on, .int .i64 t.h1.left, .bool t.h2.on, .int .i64 t.h2.left] 28 (0, 0))) := boxKeep hb2 (by simp; omega) (heap_setCell_same w1 w.heap.size 1 _ _ (.slice a1 t.info.length c1) K1.out)
  have HB2 := hide ((HB1.out.setCell (p := ⟨w.heap.size, 1, none⟩) (by simp) (.slice a1 t.info.length c1)).trans (hb2.mono (by simp; omega)))
  have HO12 := hide (owns_keep (ownsRow_setCell_below HO1.out (a := ⟨w.heap.size, 1, none⟩) (by simp) (.slice a1 t.info.length c1)) hb2)
  have HO2 : Hid (w2.ownsRow (w.heap.size + 1) 78 2 (.slice a2 t.data.length c2) t.data.length (cellsC t.data)) := owns_base ho2 (by simp; omega)
  clear hb2 ho2 x0 x1 x2 x3 x4 x5 x6 x7 x8 x9 ff K1 HB1 HO1
  obtain ⟨⟨x0, x1, x2, x3, x4, x5, x6, x7, x8, x9⟩, ff⟩ := box10 K2.out
  go_wp2_with fail
  refine (cloneI_any r d t.rev _ (HR.out.below (HB2.out.setCell (p := ⟨w.heap.size, 2, none⟩) (by simp) (.slice a2 t.data.length c2))) n3 (by omega)).mono ?_
  rintro e w3 ⟨v3, rfl, ho3, hb3⟩
  obtain ⟨a3, c3, rfl, _, _⟩ := SegI.of_owns ho3
  have hz3 := hb3.size
  simp only [World.size_setCell] at hz3
  have hs3 : w.heap.size < w3.heap.size := by omega
  have K3 : Hid (w3.heap[w.heap.size]? = some (.cells #[.int .i64 t.seq, .slice a1 t.info.length c1, .slice a2 t.data.length c2, .slice r t.rev.length d, .bool t.h0.on, .int .i64 t.h0.left, .bool t.h1.on, .int .i64 t.h1.left, .bool t.h2.on, .int .i64 t.h2.left] 28 (0, 0))) := boxKeep hb3 (by simp; omega) (heap_setCell_same w2 w.heap.size 2 _ _ (.slice a2 t.data.length c2) K2.out)
  have HB3 := hide ((HB2.out.setCell (p := ⟨w.heap.size, 2, none⟩) (by simp) (.slice a2 t.data.length c2)).trans (hb3.mono (by simp; omega)))
  have HO13 := hide (owns_keep (ownsRow_setCell_below HO12.out (a := ⟨w.heap.size, 2, none⟩) (by simp) (.slice a2 t.data.length c2)) hb3)
  have HO23 := hide (owns_keep (ownsRow_setCell_below HO2.out (a := ⟨w.heap.size, 2, none⟩) (by simp) (.slice a2 t.data.length c2)) hb3)
  have HO3 : Hid (w3.ownsRow (w.heap.size + 1) 3 1 (.slice a3 t.rev.length c3) t.rev.length (cellsI t.rev)) := owns_base ho3 (by simp; omega)
  clear hb3 ho3 x0 x1 x2 x3 x4 x5 x6 x7 x8 x9 ff K2 HB2 HO12 HO2
  obtain ⟨⟨x0, x1, x2, x3, x4, x5, x6, x7, x8, x9⟩, ff⟩ := box10 K3.out
  go_wp2
  go_ret
  exact ⟨_, _, _, rfl, ⟨heap_setCell_same w3 w.heap.size 3 _ _ (.slice a3 t.rev.length c3) K3.out, ownsRow_setCell_below HO13.out (by simp) _, ownsRow_setCell_below HO23.out (by simp) _, ownsRow_setCell_below HO3.out (by simp) _⟩, HB3.out.setCell (p := ⟨w.heap.size, 3, none⟩) (by simp) (.slice a3 t.rev.length c3)⟩

end Go.Proofs.YtjnpndfpajjihabGreat
