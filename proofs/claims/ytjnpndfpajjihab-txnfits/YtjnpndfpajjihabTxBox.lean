/-
  A transaction in a block, with rows wherever they lie. Nothing of the program is proved here.
-/
import Derived.Test.YtjnpndfpajjihabTBegin
namespace Go.Proofs.Ytjnpndfpajjihab
open Go.RowKit

/-- A transaction in a block. -/
def TxBox (w : World) (B : Nat) (t : Tx) : Prop :=
  ∃ a c a' c' r d, w.heap[B]? = some (.cells #[.int .i64 t.seq, .slice a t.info.length c, .slice a' t.data.length c', .slice r t.rev.length d, .bool t.h0.on, .int .i64 t.h0.left, .bool t.h1.on, .int .i64 t.h1.left, .bool t.h2.on, .int .i64 t.h2.left] 40 (0, 0)) ∧
    IsTx w (.agg #[.int .i64 t.seq, .slice a t.info.length c, .slice a' t.data.length c', .slice r t.rev.length d, .bool t.h0.on, .int .i64 t.h0.left, .bool t.h1.on, .int .i64 t.h1.left, .bool t.h2.on, .int .i64 t.h2.left]) t
theorem TxBox.lt {w : World} {B : Nat} {t : Tx} (h : TxBox w B t) : B < w.heap.size := by
  obtain ⟨_, _, _, _, _, _, h, _⟩ := h
  exact (Array.getElem?_eq_some_iff.1 h).1
theorem TxBox.below {w w' : World} {B : Nat} {t : Tx} (h : TxBox w B t) (hb : Below w.heap.size w w') : TxBox w' B t := by
  have hl := h.lt
  obtain ⟨a, c, a', c', r, d, h1, h2⟩ := h
  exact ⟨a, c, a', c', r, d, boxKeep hb hl h1, h2.below hb⟩
/-- Ten cells written. -/
theorem box10Set {w : World} {B : Nat} {u0 u1 u2 u3 u4 u5 u6 u7 u8 u9 : Value} {t : TypeId} (h : w.heap[B]? = some (.cells #[u0, u1, u2, u3, u4, u5, u6, u7, u8, u9] t (0, 0))) (v0 v1 v2 v3 v4 v5 v6 v7 v8 v9 : Value) :
    ((((((((((w.setCell ⟨B, 0, none⟩ v0).setCell ⟨B, 1, none⟩ v1).setCell ⟨B, 2, none⟩ v2).setCell ⟨B, 3, none⟩ v3).setCell ⟨B, 4, none⟩ v4).setCell ⟨B, 5, none⟩ v5).setCell ⟨B, 6, none⟩ v6).setCell ⟨B, 7, none⟩ v7).setCell ⟨B, 8, none⟩ v8).setCell ⟨B, 9, none⟩ v9).heap[B]? = some (.cells #[v0, v1, v2, v3, v4, v5, v6, v7, v8, v9] t (0, 0)) := by
  have k0 : (w.setCell ⟨B, 0, none⟩ v0).heap[B]? = some (.cells #[v0, u1, u2, u3, u4, u5, u6, u7, u8, u9] t (0, 0)) := heap_setCell_same _ B 0 _ _ v0 h
  have k1 : ((w.setCell ⟨B, 0, none⟩ v0).setCell ⟨B, 1, none⟩ v1).heap[B]? = some (.cells #[v0, v1, u2, u3, u4, u5, u6, u7, u8, u9] t (0, 0)) := heap_setCell_same _ B 1 _ _ v1 k0
  have k2 : (((w.setCell ⟨B, 0, none⟩ v0).setCell ⟨B, 1, none⟩ v1).setCell ⟨B, 2, none⟩ v2).heap[B]? = some (.cells #[v0, v1, v2, u3, u4, u5, u6, u7, u8, u9] t (0, 0)) := heap_setCell_same _ B 2 _ _ v2 k1
  have k3 : ((((w.setCell ⟨B, 0, none⟩ v0).setCell ⟨B, 1, none⟩ v1).setCell ⟨B, 2, none⟩ v2).setCell ⟨B, 3, none⟩ v3).heap[B]? = some (.cells #[v0, v1, v2, v3, u4, u5, u6, u7, u8, u9] t (0, 0)) := heap_setCell_same _ B 3 _ _ v3 k2
  have k4 : (((((w.setCell ⟨B, 0, none⟩ v0).setCell ⟨B, 1, none⟩ v1).setCell ⟨B, 2, none⟩ v2).setCell ⟨B, 3, none⟩ v3).setCell ⟨B, 4, none⟩ v4).heap[B]? = some (.cells #[v0, v1, v2, v3, v4, u5, u6, u7, u8, u9] t (0, 0)) := heap_setCell_same _ B 4 _ _ v4 k3
  have k5 : ((((((w.setCell ⟨B, 0, none⟩ v0).setCell ⟨B, 1, none⟩ v1).setCell ⟨B, 2, none⟩ v2).setCell ⟨B, 3, none⟩ v3).setCell ⟨B, 4, none⟩ v4).setCell ⟨B, 5, none⟩ v5).heap[B]? = some (.cells #[v0, v1, v2, v3, v4, v5, u6, u7, u8, u9] t (0, 0)) := heap_setCell_same _ B 5 _ _ v5 k4
  have k6 : (((((((w.setCell ⟨B, 0, none⟩ v0).setCell ⟨B, 1, none⟩ v1).setCell ⟨B, 2, none⟩ v2).setCell ⟨B, 3, none⟩ v3).setCell ⟨B, 4, none⟩ v4).setCell ⟨B, 5, none⟩ v5).setCell ⟨B, 6, none⟩ v6).heap[B]? = some (.cells #[v0, v1, v2, v3, v4, v5, v6, u7, u8, u9] t (0, 0)) := heap_setCell_same _ B 6 _ _ v6 k5
  have k7 : ((((((((w.setCell ⟨B, 0, none⟩ v0).setCell ⟨B, 1, none⟩ v1).setCell ⟨B, 2, none⟩ v2).setCell ⟨B, 3, none⟩ v3).setCell ⟨B, 4, none⟩ v4).setCell ⟨B, 5, none⟩ v5).setCell ⟨B, 6, none⟩ v6).setCell ⟨B, 7, none⟩ v7).heap[B]? = some (.cells #[v0, v1, v2, v3, v4, v5, v6, v7, u8, u9] t (0, 0)) := heap_setCell_same _ B 7 _ _ v7 k6
  have k8 : (((((((((w.setCell ⟨B, 0, none⟩ v0).setCell ⟨B, 1, none⟩ v1).setCell ⟨B, 2, none⟩ v2).setCell ⟨B, 3, none⟩ v3).setCell ⟨B, 4, none⟩ v4).setCell ⟨B, 5, none⟩ v5).setCell ⟨B, 6, none⟩ v6).setCell ⟨B, 7, none⟩ v7).setCell ⟨B, 8, none⟩ v8).heap[B]? = some (.cells #[v0, v1, v2, v3, v4, v5, v6, v7, v8, u9] t (0, 0)) := heap_setCell_same _ B 8 _ _ v8 k7
  have k9 : ((((((((((w.setCell ⟨B, 0, none⟩ v0).setCell ⟨B, 1, none⟩ v1).setCell ⟨B, 2, none⟩ v2).setCell ⟨B, 3, none⟩ v3).setCell ⟨B, 4, none⟩ v4).setCell ⟨B, 5, none⟩ v5).setCell ⟨B, 6, none⟩ v6).setCell ⟨B, 7, none⟩ v7).setCell ⟨B, 8, none⟩ v8).setCell ⟨B, 9, none⟩ v9).heap[B]? = some (.cells #[v0, v1, v2, v3, v4, v5, v6, v7, v8, v9] t (0, 0)) := heap_setCell_same _ B 9 _ _ v9 k8
  exact k9
theorem IsTx.setFrom {w : World} {v : Value} {t : Tx} {base : Nat} (h : IsTx w v t) (hf : RowsFrom base v t) {p : Addr} (hp : p.block < base) (u : Value) : IsTx (w.setCell p u) v t := by
  obtain ⟨a, c, a', c', r, d, rfl, h1, h2, h3, n⟩ := h
  obtain ⟨b0, b1, b2, b3, b4, b5, e, f1, f2, f3⟩ := hf
  simp only [Value.agg.injEq] at e
  injection e with e
  simp only [List.cons.injEq, Value.slice.injEq, true_and, and_true] at e
  obtain ⟨⟨rfl, rfl⟩, ⟨rfl, rfl⟩, rfl, rfl⟩ := e
  refine ⟨a, c, a', c', r, d, rfl, ?_, ?_, ?_, n⟩
  · exact SegW.setNe h1 (fun b off e => by have := f1 b off e; omega) u
  · exact SegW.setNe h2 (fun b off e => by have := f2 b off e; omega) u
  · exact SegI.setNe h3 (fun b off e => by have := f3 b off e; omega) u
theorem IsTx.set10 {w : World} {v : Value} {t : Tx} {base B : Nat} (h : IsTx w v t) (hf : RowsFrom base v t) (hp : B < base) (v0 v1 v2 v3 v4 v5 v6 v7 v8 v9 : Value) :
    IsTx ((((((((((w.setCell ⟨B, 0, none⟩ v0).setCell ⟨B, 1, none⟩ v1).setCell ⟨B, 2, none⟩ v2).setCell ⟨B, 3, none⟩ v3).setCell ⟨B, 4, none⟩ v4).setCell ⟨B, 5, none⟩ v5).setCell ⟨B, 6, none⟩ v6).setCell ⟨B, 7, none⟩ v7).setCell ⟨B, 8, none⟩ v8).setCell ⟨B, 9, none⟩ v9) v t :=
  (((((((((h.setFrom hf hp v0).setFrom hf hp v1).setFrom hf hp v2).setFrom hf hp v3).setFrom hf hp v4).setFrom hf hp v5).setFrom hf hp v6).setFrom hf hp v7).setFrom hf hp v8).setFrom hf hp v9
theorem Below.set10 {b : Nat} {W w : World} {B : Nat} (h : Below b W w) (hp : b ≤ B) (v0 v1 v2 v3 v4 v5 v6 v7 v8 v9 : Value) :
    Below b W ((((((((((w.setCell ⟨B, 0, none⟩ v0).setCell ⟨B, 1, none⟩ v1).setCell ⟨B, 2, none⟩ v2).setCell ⟨B, 3, none⟩ v3).setCell ⟨B, 4, none⟩ v4).setCell ⟨B, 5, none⟩ v5).setCell ⟨B, 6, none⟩ v6).setCell ⟨B, 7, none⟩ v7).setCell ⟨B, 8, none⟩ v8).setCell ⟨B, 9, none⟩ v9) :=
  (((((((((h.setCell hp v0).setCell hp v1).setCell hp v2).setCell hp v3).setCell hp v4).setCell hp v5).setCell hp v6).setCell hp v7).setCell hp v8).setCell hp v9

/-- Rows that lay in an elder world stay under a write into a later block. -/
theorem IsTx.setOld {w w1 : World} {v : Value} {x t : Tx} (h : IsTx w v x) (h1 : IsTx w1 v t) {p : Addr} (hp : w1.heap.size ≤ p.block) (u : Value) : IsTx (w.setCell p u) v x := by
  obtain ⟨a, c, a', c', r, d, rfl, k1, k2, k3, n⟩ := h
  obtain ⟨b0, b1, b2, b3, b4, b5, e, f1, f2, f3, _⟩ := h1
  simp only [Value.agg.injEq] at e
  injection e with e
  simp only [List.cons.injEq, Value.slice.injEq, and_true] at e
  obtain ⟨_, ⟨rfl, l1, rfl⟩, ⟨rfl, l2, rfl⟩, ⟨rfl, l3, rfl⟩, _⟩ := e
  refine ⟨a, c, a', c', r, d, rfl, ?_, ?_, ?_, n⟩
  · rcases f1 with e | ⟨b, off, e, hlt, _⟩
    · exact .inl (List.eq_nil_of_length_eq_zero (by rw [l1, e]; rfl))
    · exact SegW.setNe k1 (fun b' off' e' => by rw [e] at e'; cases e'; omega) u
  · rcases f2 with e | ⟨b, off, e, hlt, _⟩
    · exact .inl (List.eq_nil_of_length_eq_zero (by rw [l2, e]; rfl))
    · exact SegW.setNe k2 (fun b' off' e' => by rw [e] at e'; cases e'; omega) u
  · rcases f3 with e | ⟨b, off, e, hlt, _⟩
    · exact .inl (List.eq_nil_of_length_eq_zero (by rw [l3, e]; rfl))
    · exact SegI.setNe k3 (fun b' off' e' => by rw [e] at e'; cases e'; omega) u
theorem IsTx.setOld10 {w w1 : World} {v : Value} {x t : Tx} {B : Nat} (h : IsTx w v x) (h1 : IsTx w1 v t) (hp : w1.heap.size ≤ B) (v0 v1 v2 v3 v4 v5 v6 v7 v8 v9 : Value) : IsTx ((((((((((w.setCell ⟨B, 0, none⟩ v0).setCell ⟨B, 1, none⟩ v1).setCell ⟨B, 2, none⟩ v2).setCell ⟨B, 3, none⟩ v3).setCell ⟨B, 4, none⟩ v4).setCell ⟨B, 5, none⟩ v5).setCell ⟨B, 6, none⟩ v6).setCell ⟨B, 7, none⟩ v7).setCell ⟨B, 8, none⟩ v8).setCell ⟨B, 9, none⟩ v9) v x :=
  (((((((((h.setOld h1 hp v0).setOld h1 hp v1).setOld h1 hp v2).setOld h1 hp v3).setOld h1 hp v4).setOld h1 hp v5).setOld h1 hp v6).setOld h1 hp v7).setOld h1 hp v8).setOld h1 hp v9
/-- A box made last; a box made ahead, and written. -/
theorem TxBox.made {w : World} {x : Tx} {g0 : Option Addr} {g1 : Nat} {g2 : Option Addr} {g3 : Nat} {g4 : Option Addr} {g5 : Nat} (h : IsTx w (.agg #[.int .i64 x.seq, .slice g0 x.info.length g1, .slice g2 x.data.length g3, .slice g4 x.rev.length g5, .bool x.h0.on, .int .i64 x.h0.left, .bool x.h1.on, .int .i64 x.h1.left, .bool x.h2.on, .int .i64 x.h2.left]) x) :
    TxBox (w.alloc (.cells #[.int .i64 x.seq, .slice g0 x.info.length g1, .slice g2 x.data.length g3, .slice g4 x.rev.length g5, .bool x.h0.on, .int .i64 x.h0.left, .bool x.h1.on, .int .i64 x.h1.left, .bool x.h2.on, .int .i64 x.h2.left] 40)) w.heap.size x :=
  ⟨g0, g1, g2, g3, g4, g5, heap_alloc_new w _, h.below (below1 _ _)⟩
theorem TxBox.put {w w1 : World} {B base : Nat} {v : Value} {x t : Tx} {g0 : Option Addr} {g1 : Nat} {g2 : Option Addr} {g3 : Nat} {g4 : Option Addr} {g5 : Nat} (h : IsTx w (.agg #[.int .i64 x.seq, .slice g0 x.info.length g1, .slice g2 x.data.length g3, .slice g4 x.rev.length g5, .bool x.h0.on, .int .i64 x.h0.left, .bool x.h1.on, .int .i64 x.h1.left, .bool x.h2.on, .int .i64 x.h2.left]) x)
    (hd : (.agg #[.int .i64 x.seq, .slice g0 x.info.length g1, .slice g2 x.data.length g3, .slice g4 x.rev.length g5, .bool x.h0.on, .int .i64 x.h0.left, .bool x.h1.on, .int .i64 x.h1.left, .bool x.h2.on, .int .i64 x.h2.left] : Value) = v ∨ RowsFrom base (.agg #[.int .i64 x.seq, .slice g0 x.info.length g1, .slice g2 x.data.length g3, .slice g4 x.rev.length g5, .bool x.h0.on, .int .i64 x.h0.left, .bool x.h1.on, .int .i64 x.h1.left, .bool x.h2.on, .int .i64 x.h2.left]) x) (h1 : IsTx w1 v t) (hB1 : w1.heap.size ≤ B) (hB2 : B < base) {u0 u1 u2 u3 u4 u5 u6 u7 u8 u9 : Value} (hK : w.heap[B]? = some (.cells #[u0, u1, u2, u3, u4, u5, u6, u7, u8, u9] 40 (0, 0))) :
    TxBox (((((((((((w.setCell ⟨B, 0, none⟩ (.int .i64 x.seq)).setCell ⟨B, 1, none⟩ (.slice g0 x.info.length g1)).setCell ⟨B, 2, none⟩ (.slice g2 x.data.length g3)).setCell ⟨B, 3, none⟩ (.slice g4 x.rev.length g5)).setCell ⟨B, 4, none⟩ (.bool x.h0.on)).setCell ⟨B, 5, none⟩ (.int .i64 x.h0.left)).setCell ⟨B, 6, none⟩ (.bool x.h1.on)).setCell ⟨B, 7, none⟩ (.int .i64 x.h1.left)).setCell ⟨B, 8, none⟩ (.bool x.h2.on)).setCell ⟨B, 9, none⟩ (.int .i64 x.h2.left))) B x := by
  refine ⟨g0, g1, g2, g3, g4, g5, box10Set hK _ _ _ _ _ _ _ _ _ _, ?_⟩
  rcases hd with e | e
  · rw [← e] at h1
    exact h.setOld10 h1 hB1 _ _ _ _ _ _ _ _ _ _
  · exact h.set10 e hB2 _ _ _ _ _ _ _ _ _ _

/-- The rows of a transaction whose value is written out. -/
theorem IsTx.seg {w : World} {t : Tx} {a : Option Addr} {c : Nat} {a' : Option Addr} {c' : Nat} {r : Option Addr} {d : Nat} (h : IsTx w (.agg #[.int .i64 t.seq, .slice a t.info.length c, .slice a' t.data.length c', .slice r t.rev.length d, .bool t.h0.on, .int .i64 t.h0.left, .bool t.h1.on, .int .i64 t.h1.left, .bool t.h2.on, .int .i64 t.h2.left]) t) :
    SegW w a t.info ∧ t.info.length ≤ maxLen ∧ SegW w a' t.data ∧ t.data.length ≤ maxLen ∧ SegI w r t.rev ∧ t.rev.length ≤ maxLen := by
  obtain ⟨b0, b1, b2, b3, b4, b5, e, f1, f2, f3, n1, n2, n3⟩ := h
  simp only [Value.agg.injEq] at e
  injection e with e
  simp only [List.cons.injEq, Value.slice.injEq, true_and, and_true] at e
  obtain ⟨⟨rfl, rfl⟩, ⟨rfl, rfl⟩, rfl, rfl⟩ := e
  exact ⟨f1, n1, f2, n2, f3, n3⟩

end Go.Proofs.Ytjnpndfpajjihab
