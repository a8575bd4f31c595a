/-
  A transaction in a block, with rows wherever they lie. Nothing of the program is proved here.
  The walk of the document's own Alter: what it refuses ahead, whatever the kind.
  Rows of a transaction that lie behind the call's first blocks; what the document's own Alter leaves.
-/
import Derived.Test.YtjnpndfpajjihabGreatTBegin
import Derived.Test.YtjnpndfpajjihabGreatTRefRests
import Derived.Test.YtjnpndfpajjihabGreatTRefGood
import Derived.Test.YtjnpndfpajjihabGreatTCopy
namespace Go.Proofs.YtjnpndfpajjihabGreat
open Go.RowKit

/-- A transaction in a block. -/
def TxBox (w : World) (B : Nat) (t : Tx) : Prop :=
  ∃ a c a' c' r d, w.heap[B]? = some (.cells #[.int .i64 t.seq, .slice a t.info.length c, .slice a' t.data.length c', .slice r t.rev.length d, .bool t.h0.on, .int .i64 t.h0.left, .bool t.h1.on, .int .i64 t.h1.left, .bool t.h2.on, .int .i64 t.h2.left] 28 (0, 0)) ∧
    IsTx w (.agg #[.int .i64 t.seq, .slice a t.info.length c, .slice a' t.data.length c', .slice r t.rev.length d, .bool t.h0.on, .int .i64 t.h0.left, .bool t.h1.on, .int .i64 t.h1.left, .bool t.h2.on, .int .i64 t.h2.left]) t
theorem TxBox.lt {w : World} {B : Nat} {t : Tx} (h : TxBox w B t) : B < w.heap.size := by
  obtain ⟨_, _, _, _, _, _, h, _⟩ := h
  exact (Array.getElem?_eq_some_iff.1 h).1
theorem TxBox.below {w w' : World} {B : Nat} {t : Tx} (h : TxBox w B t) (hb : Below w.heap.size w w') : TxBox w' B t := by
  have hl := h.lt
  obtain ⟨a, c, a', c', r, d, h1, h2⟩ := h
  exact ⟨a, c, a', c', r, d, boxKeep hb hl h1, h2.below hb⟩
/-- Ten cells written. -/
theorem box10Set {w : World} {B : Nat} {u0 u1 u2 u3 u4 u5 u6 u7 u8 u9 : Value} {t : TypeId} (h : w.heap[B]? = some (.cells #[u0, u1, u2, u3, u4, u5, u6, u7, u8, u9] t (0, 0))) (v0 v1 v2 v3 v4 v5 v6 v7 v8 v9 : Value) :
    ((((((((((w.setCell ⟨B, 0, none⟩ v0).setCell ⟨B, 1, none⟩ v1).setCell ⟨B, 2, none⟩ v2).setCell ⟨B, 3, none⟩ v3).setCell ⟨B, 4, none⟩ v4).setCell ⟨B, 5, none⟩ v5).setCell ⟨B, 6, none⟩ v6).setCell ⟨B, 7, none⟩ v7).setCell ⟨B, 8, none⟩ v8).setCell ⟨B, 9, none⟩ v9).heap[B]? = some (.cells #[v0, v1, v2, v3, v4, v5, v6, v7, v8, v9] t (0, 0)) := by
  have k0 : (w.setCell ⟨B, 0, none⟩ v0).heap[B]? = some (.cells #[v0, u1, u2, u3, u4, u5, u6, u7, u8, u9] t (0, 0)) := heap_setCell_same _ B 0 _ _ v0 h
  have k1 : ((w.setCell ⟨B, 0, none⟩ v0).setCell ⟨B, 1, none⟩ v1).heap[B]? = some (.cells #[v0, v1, u2, u3, u4, u5, u6, u7, u8, u9] t (0, 0)) := heap_setCell_same _ B 1 _ _ v1 k0
  have k2 : (((w.setCell ⟨B, 0, none⟩ v0).setCell ⟨B, 1, none⟩ v1).setCell ⟨B, 2, none⟩ v2).heap[B]? = some (.cells #[v0, v1, v2, u3, u4, u5, u6, u7, u8, u9] t (0, 0)) := heap_setCell_same _ B 2 _ _ v2 k1
  have k3 : ((((w.setCell ⟨B, 0, none⟩ v0).setCell ⟨B, 1, none⟩ v1).setCell ⟨B, 2, none⟩ v2).setCell ⟨B, 3, none⟩ v3).heap[B]? = some (.cells #[v0, v1, v2, v3, u4, u5, u6, u7, u8, u9] t (0, 0)) := heap_setCell_same _ B 3 _ _ v3 k2
  have k4 : (((((w.setCell ⟨B, 0, none⟩ v0).setCell ⟨B, 1, none⟩ v1).setCell ⟨B, 2, none⟩ v2).setCell ⟨B, 3, none⟩ v3).setCell ⟨B, 4, none⟩ v4).heap[B]? = some (.cells #[v0, v1, v2, v3, v4, u5, u6, u7, u8, u9] t (0, 0)) := heap_setCell_same _ B 4 _ _ v4 k3
  have k5 : ((((((w.setCell ⟨B, 0, none⟩ v0).setCell ⟨B, 1, none⟩ v1).setCell ⟨B, 2, none⟩ v2).setCell ⟨B, 3, none⟩ v3).setCell ⟨B, 4, none⟩ v4).setCell ⟨B, 5, none⟩ v5).heap[B]? = some (.cells #[v0, v1, v2, v3, v4, v5, u6, u7, u8, u9] t (0, 0)) := heap_setCell_same _ B 5 _ _ v5 k4
  have k6 : (((((((w.setCell ⟨B, 0, none⟩ v0).setCell ⟨B, 1, none⟩ v1).setCell ⟨B, 2, none⟩ v2).setCell ⟨B, 3, none⟩ v3).setCell ⟨B, 4, none⟩ v4).setCell ⟨B, 5, none⟩ v5).setCell ⟨B, 6, none⟩ v6).heap[B]? = some (.cells #[v0, v1, v2, v3, v4, v5, v6, u7, u8, u9] t (0, 0)) := heap_setCell_same _ B 6 _ _ v6 k5
  have k7 : ((((((((w.setCell ⟨B, 0, none⟩ v0).setCell ⟨B, 1, none⟩ v1).setCell ⟨B, 2, none⟩ v2).setCell ⟨B, 3, none⟩ v3).setCell ⟨B, 4, none⟩ v4).setCell ⟨B, 5, none⟩ v5).setCell ⟨B, 6, none⟩ v6).setCell ⟨B, 7, none⟩ v7).heap[B]? = some (.cells #[v0, v1, v2, v3, v4, v5, v6, v7, u8, u9] t (0, 0)) := heap_setCell_same _ B 7 _ _ v7 k6
  have k8 : (((((((((w.setCell ⟨B, 0, none⟩ v0).setCell ⟨B, 1, none⟩ v1).setCell ⟨B, 2, none⟩ v2).setCell ⟨B, 3, none⟩ v3).setCell ⟨B, 4, none⟩ v4).setCell ⟨B, 5, none⟩ v5).setCell ⟨B, 6, none⟩ v6).setCell ⟨B, 7, none⟩ v7).setCell ⟨B, 8, none⟩ v8).heap[B]? = some (.cells #[v0, v1, v2, v3, v4, v5, v6, v7, v8, u9] t (0, 0)) := heap_setCell_same _ B 8 _ _ v8 k7
  have k9 : ((((((((((w.setCell ⟨B, 0, none⟩ v0).setCell ⟨B, 1, none⟩ v1).setCell ⟨B, 2, none⟩ v2).setCell ⟨B, 3, none⟩ v3).setCell ⟨B, 4, none⟩ v4).setCell ⟨B, 5, none⟩ v5).setCell ⟨B, 6, none⟩ v6).setCell ⟨B, 7, none⟩ v7).setCell ⟨B, 8, none⟩ v8).setCell ⟨B, 9, none⟩ v9).heap[B]? = some (.cells #[v0, v1, v2, v3, v4, v5, v6, v7, v8, v9] t (0, 0)) := heap_setCell_same _ B 9 _ _ v9 k8
  exact k9
theorem IsTx.setFrom {w : World} {v : Value} {t : Tx} {base : Nat} (h : IsTx w v t) (hf : RowsFrom base v t) {p : Addr} (hp : p.block < base) (u : Value) : IsTx (w.setCell p u) v t := by
  obtain ⟨a, c, a', c', r, d, rfl, h1, h2, h3, n⟩ := h
  obtain ⟨b0, b1, b2, b3, b4, b5, e, f1, f2, f3⟩ := hf
  simp only [Value.agg.injEq] at e
  injection e with e
  simp only [List.cons.injEq, Value.slice.injEq, true_and, and_true] at e
  obtain ⟨⟨rfl, rfl⟩, ⟨rfl, rfl⟩, rfl, rfl⟩ := e
  refine ⟨a, c, a', c', r, d, rfl, ?_, ?_, ?_, n⟩
  · exact SegW.setNe h1 (fun b off e => by have := f1 b off e; omega) u
  · exact SegW.setNe h2 (fun b off e => by have := f2 b off e; omega) u
  · exact SegI.setNe h3 (fun b off e => by have := f3 b off e; omega) u
theorem IsTx.set10 {w : World} {v : Value} {t : Tx} {base B : Nat} (h : IsTx w v t) (hf : RowsFrom base v t) (hp : B < base) (v0 v1 v2 v3 v4 v5 v6 v7 v8 v9 : Value) :
    IsTx ((((((((((w.setCell ⟨B, 0, none⟩ v0).setCell ⟨B, 1, none⟩ v1).setCell ⟨B, 2, none⟩ v2).setCell ⟨B, 3, none⟩ v3).setCell ⟨B, 4, none⟩ v4).setCell ⟨B, 5, none⟩ v5).setCell ⟨B, 6, none⟩ v6).setCell ⟨B, 7, none⟩ v7).setCell ⟨B, 8, none⟩ v8).setCell ⟨B, 9, none⟩ v9) v t :=
  (((((((((h.setFrom hf hp v0).setFrom hf hp v1).setFrom hf hp v2).setFrom hf hp v3).setFrom hf hp v4).setFrom hf hp v5).setFrom hf hp v6).setFrom hf hp v7).setFrom hf hp v8).setFrom hf hp v9
theorem Below.set10 {b : Nat} {W w : World} {B : Nat} (h : Below b W w) (hp : b ≤ B) (v0 v1 v2 v3 v4 v5 v6 v7 v8 v9 : Value) :
    Below b W ((((((((((w.setCell ⟨B, 0, none⟩ v0).setCell ⟨B, 1, none⟩ v1).setCell ⟨B, 2, none⟩ v2).setCell ⟨B, 3, none⟩ v3).setCell ⟨B, 4, none⟩ v4).setCell ⟨B, 5, none⟩ v5).setCell ⟨B, 6, none⟩ v6).setCell ⟨B, 7, none⟩ v7).setCell ⟨B, 8, none⟩ v8).setCell ⟨B, 9, none⟩ v9) :=
  (((((((((h.setCell hp v0).setCell hp v1).setCell hp v2).setCell hp v3).setCell hp v4).setCell hp v5).setCell hp v6).setCell hp v7).setCell hp v8).setCell hp v9

/-- Rows that lay in an elder world stay under a write into a later block. -/
theorem IsTx.setOld {w w1 : World} {v : Value} {x t : Tx} (h : IsTx w v x) (h1 : IsTx w1 v t) {p : Addr} (hp : w1.heap.size ≤ p.block) (u : Value) : IsTx (w.setCell p u) v x := by
  obtain ⟨a, c, a', c', r, d, rfl, k1, k2, k3, n⟩ := h
  obtain ⟨b0, b1, b2, b3, b4, b5, e, f1, f2, f3, _⟩ := h1
  simp only [Value.agg.injEq] at e
  injection e with e
  simp only [List.cons.injEq, Value.slice.injEq, and_true] at e
  obtain ⟨_, ⟨rfl, l1, rfl⟩, ⟨rfl, l2, rfl⟩, ⟨rfl, l3, rfl⟩, _⟩ := e
  refine ⟨a, c, a', c', r, d, rfl, ?_, ?_, ?_, n⟩
  · rcases f1 with e | ⟨b, off, e, hlt, _⟩
    · exact .inl (List.eq_nil_of_length_eq_zero (by rw [l1, e]; rfl))
    · exact SegW.setNe k1 (fun b' off' e' => by rw [e] at e'; cases e'; omega) u
  · rcases f2 with e | ⟨b, off, e, hlt, _⟩
    · exact .inl (List.eq_nil_of_length_eq_zero (by rw [l2, e]; rfl))
    · exact SegW.setNe k2 (fun b' off' e' => by rw [e] at e'; cases e'; omega) u
  · rcases f3 with e | ⟨b, off, e, hlt, _⟩
    · exact .inl (List.eq_nil_of_length_eq_zero (by rw [l3, e]; rfl))
    · exact SegI.setNe k3 (fun b' off' e' => by rw [e] at e'; cases e'; omega) u
theorem IsTx.setOld10 {w w1 : World} {v : Value} {x t : Tx} {B : Nat} (h : IsTx w v x) (h1 : IsTx w1 v t) (hp : w1.heap.size ≤ B) (v0 v1 v2 v3 v4 v5 v6 v7 v8 v9 : Value) : IsTx ((((((((((w.setCell ⟨B, 0, none⟩ v0).setCell ⟨B, 1, none⟩ v1).setCell ⟨B, 2, none⟩ v2).setCell ⟨B, 3, none⟩ v3).setCell ⟨B, 4, none⟩ v4).setCell ⟨B, 5, none⟩ v5).setCell ⟨B, 6, none⟩ v6).setCell ⟨B, 7, none⟩ v7).setCell ⟨B, 8, none⟩ v8).setCell ⟨B, 9, none⟩ v9) v x :=
  (((((((((h.setOld h1 hp v0).setOld h1 hp v1).setOld h1 hp v2).setOld h1 hp v3).setOld h1 hp v4).setOld h1 hp v5).setOld h1 hp v6).setOld h1 hp v7).setOld h1 hp v8).setOld h1 hp v9
/-- A box made last; a box made ahead, and written. -/
theorem TxBox.made {w : World} {x : Tx} {g0 : Option Addr} {g1 : Nat} {g2 : Option Addr} {g3 : Nat} {g4 : Option Addr} {g5 : Nat} (h : IsTx w (.agg #[.int .i64 x.seq, .slice g0 x.info.length g1, .slice g2 x.data.length g3, .slice g4 x.rev.length g5, .bool x.h0.on, .int .i64 x.h0.left, .bool x.h1.on, .int .i64 x.h1.left, .bool x.h2.on, .int .i64 x.h2.left]) x) :
    TxBox (w.alloc (.cells #[.int .i64 x.seq, .slice g0 x.info.length g1, .slice g2 x.data.length g3, .slice g4 x.rev.length g5, .bool x.h0.on, .int .i64 x.h0.left, .bool x.h1.on, .int .i64 x.h1.left, .bool x.h2.on, .int .i64 x.h2.left] 28)) w.heap.size x :=
  ⟨g0, g1, g2, g3, g4, g5, heap_alloc_new w _, h.below (below1 _ _)⟩
theorem TxBox.put {w w1 : World} {B base : Nat} {v : Value} {x t : Tx} {g0 : Option Addr} {g1 : Nat} {g2 : Option Addr} {g3 : Nat} {g4 : Option Addr} {g5 : Nat} (h : IsTx w (.agg #[.int .i64 x.seq, .slice g0 x.info.length g1, .slice g2 x.data.length g3, .slice g4 x.rev.length g5, .bool x.h0.on, .int .i64 x.h0.left, .bool x.h1.on, .int .i64 x.h1.left, .bool x.h2.on, .int .i64 x.h2.left]) x)
    (hd : (.agg #[.int .i64 x.seq, .slice g0 x.info.length g1, .slice g2 x.data.length g3, .slice g4 x.rev.length g5, .bool x.h0.on, .int .i64 x.h0.left, .bool x.h1.on, .int .i64 x.h1.left, .bool x.h2.on, .int .i64 x.h2.left] : Value) = v ∨ RowsFrom base (.agg #[.int .i64 x.seq, .slice g0 x.info.length g1, .slice g2 x.data.length g3, .slice g4 x.rev.length g5, .bool x.h0.on, .int .i64 x.h0.left, .bool x.h1.on, .int .i64 x.h1.left, .bool x.h2.on, .int .i64 x.h2.left]) x) (h1 : IsTx w1 v t) (hB1 : w1.heap.size ≤ B) (hB2 : B < base) {u0 u1 u2 u3 u4 u5 u6 u7 u8 u9 : Value} (hK : w.heap[B]? = some (.cells #[u0, u1, u2, u3, u4, u5, u6, u7, u8, u9] 28 (0, 0))) :
    TxBox (((((((((((w.setCell ⟨B, 0, none⟩ (.int .i64 x.seq)).setCell ⟨B, 1, none⟩ (.slice g0 x.info.length g1)).setCell ⟨B, 2, none⟩ (.slice g2 x.data.length g3)).setCell ⟨B, 3, none⟩ (.slice g4 x.rev.length g5)).setCell ⟨B, 4, none⟩ (.bool x.h0.on)).setCell ⟨B, 5, none⟩ (.int .i64 x.h0.left)).setCell ⟨B, 6, none⟩ (.bool x.h1.on)).setCell ⟨B, 7, none⟩ (.int .i64 x.h1.left)).setCell ⟨B, 8, none⟩ (.bool x.h2.on)).setCell ⟨B, 9, none⟩ (.int .i64 x.h2.left))) B x := by
  refine ⟨g0, g1, g2, g3, g4, g5, box10Set hK _ _ _ _ _ _ _ _ _ _, ?_⟩
  rcases hd with e | e
  · rw [← e] at h1
    exact h.setOld10 h1 hB1 _ _ _ _ _ _ _ _ _ _
  · exact h.set10 e hB2 _ _ _ _ _ _ _ _ _ _

/-- The rows of a transaction whose value is written out. -/
theorem IsTx.seg {w : World} {t : Tx} {a : Option Addr} {c : Nat} {a' : Option Addr} {c' : Nat} {r : Option Addr} {d : Nat} (h : IsTx w (.agg #[.int .i64 t.seq, .slice a t.info.length c, .slice a' t.data.length c', .slice r t.rev.length d, .bool t.h0.on, .int .i64 t.h0.left, .bool t.h1.on, .int .i64 t.h1.left, .bool t.h2.on, .int .i64 t.h2.left]) t) :
    SegW w a t.info ∧ t.info.length ≤ maxLen ∧ SegW w a' t.data ∧ t.data.length ≤ maxLen ∧ SegI w r t.rev ∧ t.rev.length ≤ maxLen := by
  obtain ⟨b0, b1, b2, b3, b4, b5, e, f1, f2, f3, n1, n2, n3⟩ := h
  simp only [Value.agg.injEq] at e
  injection e with e
  simp only [List.cons.injEq, Value.slice.injEq, true_and, and_true] at e
  obtain ⟨⟨rfl, rfl⟩, ⟨rfl, rfl⟩, rfl, rfl⟩ := e
  exact ⟨f1, n1, f2, n2, f3, n3⟩


set_option maxHeartbeats 2000000 in
set_option maxRecDepth 100000 in
theorem alter_bad (kind : Int) (v : Value) (t : Tx) (h b : Int) (s : ByteArray) (w : World) (hT : IsTx w v t) (r1 : t.info.length * 24 ≤ 140737488355328) (r2 : t.data.length * 24 ≤ 140737488355328) (hg : goodX t = false) :
    Calls Tryz.prog 9 #[.int .i64 kind, v, .int .i64 h, .int .i64 b, .string s] w fun e w' => ∃ v2, e = .returned (.tuple #[v2, .int .i64 (reachE t h b)]) ∧ IsTx w' v2 (t) ∧ Below w.heap.size w w' ∧ (v2 = v ∨ RowsFrom w.heap.size v2 (t)) := by
  have HT := hide hT
  obtain ⟨a, c, a', c', r, d, rfl, hM, hD, hR, n1, n2, n3⟩ := hT
  have HM := hide hM
  have HD := hide hD
  have HR := hide hR
  have N1 := hide n1
  have N2 := hide n2
  have N3 := hide n3
  clear hM hD hR n1 n2 n3
  go_enter Tryz.func9, Tryz.ntmps9
  go_wp2_with fail
  refine (goodTxn_any _ t _ (HT.out.below (bthen (below1 _ _) (below1 _ _))) r1 r2).mono ?_
  rintro e w1 ⟨rfl, hb1⟩
  have hs1 : w.heap.size + 1 < w1.heap.size := by have := hb1.size; simp at this; omega
  have hs1' : w.heap.size < w1.heap.size := by omega
  have K1 := hide (two1 hb1)
  have K2 := hide (two2 hb1)
  obtain ⟨⟨x0, x1, x2, x3, x4, x5, x6, x7, x8, x9⟩, _⟩ := box10 K1.out
  obtain ⟨⟨y0, y1, y2, y3, y4, y5, y6, y7, y8, y9⟩, ff⟩ := box10 K2.out
  have HB1 := hide (bthen (bthen (below1 _ _) (below1 _ _)) hb1)
  clear hb1
  have HE : Hid (reachE t h b = 2) := by rw [Hid, reachE, if_pos hg]
  have HTT : Hid (t = t) := rfl
  go_wp2
  refine bodyPost_ret (v := .tuple #[.agg #[.int .i64 t.seq, .slice a t.info.length c, .slice a' t.data.length c', .slice r t.rev.length d, .bool t.h0.on, .int .i64 t.h0.left, .bool t.h1.on, .int .i64 t.h1.left, .bool t.h2.on, .int .i64 t.h2.left], .int .i64 2]) (by simp [results, Tryz.results9, go_sem, y0, y1, y2, y3, y4, y5, y6, y7, y8, y9]) rfl ⟨_, by rw [HE.out], ?_⟩
  refine ⟨?_, ?_, .inl rfl⟩
  · skip
    refine HT.out.below ?_
    repeat refine Below.setCell ?_ (by simp) _
    exact HB1.out
  · repeat refine Below.setCell ?_ (by simp) _
    exact HB1.out

set_option maxHeartbeats 2000000 in
set_option maxRecDepth 100000 in
theorem alter_low (kind : Int) (v : Value) (t : Tx) (h b : Int) (s : ByteArray) (w : World) (hT : IsTx w v t) (r1 : t.info.length * 24 ≤ 140737488355328) (r2 : t.data.length * 24 ≤ 140737488355328) (hg : goodX t = true) (hw : h < 0) :
    Calls Tryz.prog 9 #[.int .i64 kind, v, .int .i64 h, .int .i64 b, .string s] w fun e w' => ∃ v2, e = .returned (.tuple #[v2, .int .i64 (reachE t h b)]) ∧ IsTx w' v2 (t) ∧ Below w.heap.size w w' ∧ (v2 = v ∨ RowsFrom w.heap.size v2 (t)) := by
  have HT := hide hT
  obtain ⟨a, c, a', c', r, d, rfl, hM, hD, hR, n1, n2, n3⟩ := hT
  have HM := hide hM
  have HD := hide hD
  have HR := hide hR
  have N1 := hide n1
  have N2 := hide n2
  have N3 := hide n3
  clear hM hD hR n1 n2 n3
  go_enter Tryz.func9, Tryz.ntmps9
  go_wp2_with fail
  refine (goodTxn_any _ t _ (HT.out.below (bthen (below1 _ _) (below1 _ _))) r1 r2).mono ?_
  rintro e w1 ⟨rfl, hb1⟩
  have hs1 : w.heap.size + 1 < w1.heap.size := by have := hb1.size; simp at this; omega
  have hs1' : w.heap.size < w1.heap.size := by omega
  have K1 := hide (two1 hb1)
  have K2 := hide (two2 hb1)
  obtain ⟨⟨x0, x1, x2, x3, x4, x5, x6, x7, x8, x9⟩, _⟩ := box10 K1.out
  obtain ⟨⟨y0, y1, y2, y3, y4, y5, y6, y7, y8, y9⟩, ff⟩ := box10 K2.out
  have HB1 := hide (bthen (bthen (below1 _ _) (below1 _ _)) hb1)
  clear hb1
  have HE : Hid (reachE t h b = 4) := by rw [Hid, reachE, if_neg (by rw [hg]; simp), if_pos (by omega)]
  have HTT : Hid (t = t) := rfl
  go_wp2
  refine bodyPost_ret (v := .tuple #[.agg #[.int .i64 t.seq, .slice a t.info.length c, .slice a' t.data.length c', .slice r t.rev.length d, .bool t.h0.on, .int .i64 t.h0.left, .bool t.h1.on, .int .i64 t.h1.left, .bool t.h2.on, .int .i64 t.h2.left], .int .i64 4]) (by simp [results, Tryz.results9, go_sem, y0, y1, y2, y3, y4, y5, y6, y7, y8, y9]) rfl ⟨_, by rw [HE.out], ?_⟩
  refine ⟨?_, ?_, .inl rfl⟩
  · skip
    refine HT.out.below ?_
    repeat refine Below.setCell ?_ (by simp) _
    exact HB1.out
  · repeat refine Below.setCell ?_ (by simp) _
    exact HB1.out

set_option maxHeartbeats 2000000 in
set_option maxRecDepth 100000 in
theorem alter_high (kind : Int) (v : Value) (t : Tx) (h b : Int) (s : ByteArray) (w : World) (hT : IsTx w v t) (r1 : t.info.length * 24 ≤ 140737488355328) (r2 : t.data.length * 24 ≤ 140737488355328) (hg : goodX t = true) (hw : 2 < h) :
    Calls Tryz.prog 9 #[.int .i64 kind, v, .int .i64 h, .int .i64 b, .string s] w fun e w' => ∃ v2, e = .returned (.tuple #[v2, .int .i64 (reachE t h b)]) ∧ IsTx w' v2 (t) ∧ Below w.heap.size w w' ∧ (v2 = v ∨ RowsFrom w.heap.size v2 (t)) := by
  have HT := hide hT
  obtain ⟨a, c, a', c', r, d, rfl, hM, hD, hR, n1, n2, n3⟩ := hT
  have HM := hide hM
  have HD := hide hD
  have HR := hide hR
  have N1 := hide n1
  have N2 := hide n2
  have N3 := hide n3
  clear hM hD hR n1 n2 n3
  go_enter Tryz.func9, Tryz.ntmps9
  go_wp2_with fail
  refine (goodTxn_any _ t _ (HT.out.below (bthen (below1 _ _) (below1 _ _))) r1 r2).mono ?_
  rintro e w1 ⟨rfl, hb1⟩
  have hs1 : w.heap.size + 1 < w1.heap.size := by have := hb1.size; simp at this; omega
  have hs1' : w.heap.size < w1.heap.size := by omega
  have K1 := hide (two1 hb1)
  have K2 := hide (two2 hb1)
  obtain ⟨⟨x0, x1, x2, x3, x4, x5, x6, x7, x8, x9⟩, _⟩ := box10 K1.out
  obtain ⟨⟨y0, y1, y2, y3, y4, y5, y6, y7, y8, y9⟩, ff⟩ := box10 K2.out
  have HB1 := hide (bthen (bthen (below1 _ _) (below1 _ _)) hb1)
  clear hb1
  have HE : Hid (reachE t h b = 4) := by rw [Hid, reachE, if_neg (by rw [hg]; simp), if_pos (by omega)]
  have HTT : Hid (t = t) := rfl
  have hw2 : ¬ h < 0 := by omega
  go_wp2
  refine bodyPost_ret (v := .tuple #[.agg #[.int .i64 t.seq, .slice a t.info.length c, .slice a' t.data.length c', .slice r t.rev.length d, .bool t.h0.on, .int .i64 t.h0.left, .bool t.h1.on, .int .i64 t.h1.left, .bool t.h2.on, .int .i64 t.h2.left], .int .i64 4]) (by simp [results, Tryz.results9, go_sem, y0, y1, y2, y3, y4, y5, y6, y7, y8, y9]) rfl ⟨_, by rw [HE.out], ?_⟩
  refine ⟨?_, ?_, .inl rfl⟩
  · skip
    refine HT.out.below ?_
    repeat refine Below.setCell ?_ (by simp) _
    exact HB1.out
  · repeat refine Below.setCell ?_ (by simp) _
    exact HB1.out

set_option maxHeartbeats 2000000 in
set_option maxRecDepth 100000 in
theorem alter_off0 (kind : Int) (v : Value) (t : Tx) (b : Int) (s : ByteArray) (w : World) (hT : IsTx w v t) (r1 : t.info.length * 24 ≤ 140737488355328) (r2 : t.data.length * 24 ≤ 140737488355328) (hg : goodX t = true) (ho : t.h0.on = false) :
    Calls Tryz.prog 9 #[.int .i64 kind, v, .int .i64 0, .int .i64 b, .string s] w fun e w' => ∃ v2, e = .returned (.tuple #[v2, .int .i64 (reachE t 0 b)]) ∧ IsTx w' v2 (t) ∧ Below w.heap.size w w' ∧ (v2 = v ∨ RowsFrom w.heap.size v2 (t)) := by
  have HO := hide ho
  clear ho
  have HT := hide hT
  obtain ⟨a, c, a', c', r, d, rfl, hM, hD, hR, n1, n2, n3⟩ := hT
  have HM := hide hM
  have HD := hide hD
  have HR := hide hR
  have N1 := hide n1
  have N2 := hide n2
  have N3 := hide n3
  clear hM hD hR n1 n2 n3
  go_enter Tryz.func9, Tryz.ntmps9
  go_wp2_with fail
  refine (goodTxn_any _ t _ (HT.out.below (bthen (below1 _ _) (below1 _ _))) r1 r2).mono ?_
  rintro e w1 ⟨rfl, hb1⟩
  have hs1 : w.heap.size + 1 < w1.heap.size := by have := hb1.size; simp at this; omega
  have hs1' : w.heap.size < w1.heap.size := by omega
  have K1 := hide (two1 hb1)
  have K2 := hide (two2 hb1)
  obtain ⟨⟨x0, x1, x2, x3, x4, x5, x6, x7, x8, x9⟩, _⟩ := box10 K1.out
  obtain ⟨⟨y0, y1, y2, y3, y4, y5, y6, y7, y8, y9⟩, ff⟩ := box10 K2.out
  have HB1 := hide (bthen (bthen (below1 _ _) (below1 _ _)) hb1)
  clear hb1
  have ho := HO.out
  have HE : Hid (reachE t 0 b = 4) := by rw [Hid, reachE, if_neg (by rw [hg]; simp), if_pos (.inr (.inr (.inl (show (hdAt t 0).on = false from ho))))]
  have HTT : Hid (t = t) := rfl
  go_wp2
  refine bodyPost_ret (v := .tuple #[.agg #[.int .i64 t.seq, .slice a t.info.length c, .slice a' t.data.length c', .slice r t.rev.length d, .bool t.h0.on, .int .i64 t.h0.left, .bool t.h1.on, .int .i64 t.h1.left, .bool t.h2.on, .int .i64 t.h2.left], .int .i64 4]) (by simp [results, Tryz.results9, go_sem, y0, y1, y2, y3, y4, y5, y6, y7, y8, y9, ho]) rfl ⟨_, by rw [HE.out], ?_⟩
  refine ⟨?_, ?_, .inl rfl⟩
  · skip
    refine HT.out.below ?_
    repeat refine Below.setCell ?_ (by simp) _
    exact HB1.out
  · repeat refine Below.setCell ?_ (by simp) _
    exact HB1.out

set_option maxHeartbeats 2000000 in
set_option maxRecDepth 100000 in
theorem alter_nob0 (kind : Int) (v : Value) (t : Tx) (b : Int) (s : ByteArray) (w : World) (hT : IsTx w v t) (r1 : t.info.length * 24 ≤ 140737488355328) (r2 : t.data.length * 24 ≤ 140737488355328) (hg : goodX t = true) (ho : t.h0.on = true) (hb : withinB b 0 11 = false) :
    Calls Tryz.prog 9 #[.int .i64 kind, v, .int .i64 0, .int .i64 b, .string s] w fun e w' => ∃ v2, e = .returned (.tuple #[v2, .int .i64 (reachE t 0 b)]) ∧ IsTx w' v2 (t) ∧ Below w.heap.size w w' ∧ (v2 = v ∨ RowsFrom w.heap.size v2 (t)) := by
  have HO := hide ho
  clear ho
  have HT := hide hT
  obtain ⟨a, c, a', c', r, d, rfl, hM, hD, hR, n1, n2, n3⟩ := hT
  have HM := hide hM
  have HD := hide hD
  have HR := hide hR
  have N1 := hide n1
  have N2 := hide n2
  have N3 := hide n3
  clear hM hD hR n1 n2 n3
  go_enter Tryz.func9, Tryz.ntmps9
  go_wp2_with fail
  refine (goodTxn_any _ t _ (HT.out.below (bthen (below1 _ _) (below1 _ _))) r1 r2).mono ?_
  rintro e w1 ⟨rfl, hb1⟩
  have hs1 : w.heap.size + 1 < w1.heap.size := by have := hb1.size; simp at this; omega
  have hs1' : w.heap.size < w1.heap.size := by omega
  have K1 := hide (two1 hb1)
  have K2 := hide (two2 hb1)
  obtain ⟨⟨x0, x1, x2, x3, x4, x5, x6, x7, x8, x9⟩, _⟩ := box10 K1.out
  obtain ⟨⟨y0, y1, y2, y3, y4, y5, y6, y7, y8, y9⟩, ff⟩ := box10 K2.out
  have HB1 := hide (bthen (bthen (below1 _ _) (below1 _ _)) hb1)
  clear hb1
  have ho := HO.out
  have HE : Hid (reachE t 0 b = 4) := by rw [Hid, reachE, if_neg (by rw [hg]; simp), if_pos]; by_cases e : 0 ≤ b ∧ b ≤ 11; (rw [withinB_iff.2 e] at hb; cases hb); omega
  have HTT : Hid (t = t) := rfl
  go_wp2_with (go_at_call 45; refine (isBlock_any _ _).mono ?_; rintro e w' ⟨rfl, rfl⟩)
  refine bodyPost_ret (v := .tuple #[.agg #[.int .i64 t.seq, .slice a t.info.length c, .slice a' t.data.length c', .slice r t.rev.length d, .bool t.h0.on, .int .i64 t.h0.left, .bool t.h1.on, .int .i64 t.h1.left, .bool t.h2.on, .int .i64 t.h2.left], .int .i64 4]) (by simp [results, Tryz.results9, go_sem, y0, y1, y2, y3, y4, y5, y6, y7, y8, y9, ho]) rfl ⟨_, by rw [HE.out], ?_⟩
  refine ⟨?_, ?_, .inl rfl⟩
  · skip
    refine HT.out.below ?_
    repeat refine Below.setCell ?_ (by simp) _
    exact HB1.out
  · repeat refine Below.setCell ?_ (by simp) _
    exact HB1.out

set_option maxHeartbeats 2000000 in
set_option maxRecDepth 100000 in
theorem alter_off1 (kind : Int) (v : Value) (t : Tx) (b : Int) (s : ByteArray) (w : World) (hT : IsTx w v t) (r1 : t.info.length * 24 ≤ 140737488355328) (r2 : t.data.length * 24 ≤ 140737488355328) (hg : goodX t = true) (ho : t.h1.on = false) :
    Calls Tryz.prog 9 #[.int .i64 kind, v, .int .i64 1, .int .i64 b, .string s] w fun e w' => ∃ v2, e = .returned (.tuple #[v2, .int .i64 (reachE t 1 b)]) ∧ IsTx w' v2 (t) ∧ Below w.heap.size w w' ∧ (v2 = v ∨ RowsFrom w.heap.size v2 (t)) := by
  have HO := hide ho
  clear ho
  have HT := hide hT
  obtain ⟨a, c, a', c', r, d, rfl, hM, hD, hR, n1, n2, n3⟩ := hT
  have HM := hide hM
  have HD := hide hD
  have HR := hide hR
  have N1 := hide n1
  have N2 := hide n2
  have N3 := hide n3
  clear hM hD hR n1 n2 n3
  go_enter Tryz.func9, Tryz.ntmps9
  go_wp2_with fail
  refine (goodTxn_any _ t _ (HT.out.below (bthen (below1 _ _) (below1 _ _))) r1 r2).mono ?_
  rintro e w1 ⟨rfl, hb1⟩
  have hs1 : w.heap.size + 1 < w1.heap.size := by have := hb1.size; simp at this; omega
  have hs1' : w.heap.size < w1.heap.size := by omega
  have K1 := hide (two1 hb1)
  have K2 := hide (two2 hb1)
  obtain ⟨⟨x0, x1, x2, x3, x4, x5, x6, x7, x8, x9⟩, _⟩ := box10 K1.out
  obtain ⟨⟨y0, y1, y2, y3, y4, y5, y6, y7, y8, y9⟩, ff⟩ := box10 K2.out
  have HB1 := hide (bthen (bthen (below1 _ _) (below1 _ _)) hb1)
  clear hb1
  have ho := HO.out
  have HE : Hid (reachE t 1 b = 4) := by rw [Hid, reachE, if_neg (by rw [hg]; simp), if_pos (.inr (.inr (.inl (show (hdAt t 1).on = false from ho))))]
  have HTT : Hid (t = t) := rfl
  go_wp2
  refine bodyPost_ret (v := .tuple #[.agg #[.int .i64 t.seq, .slice a t.info.length c, .slice a' t.data.length c', .slice r t.rev.length d, .bool t.h0.on, .int .i64 t.h0.left, .bool t.h1.on, .int .i64 t.h1.left, .bool t.h2.on, .int .i64 t.h2.left], .int .i64 4]) (by simp [results, Tryz.results9, go_sem, y0, y1, y2, y3, y4, y5, y6, y7, y8, y9, ho]) rfl ⟨_, by rw [HE.out], ?_⟩
  refine ⟨?_, ?_, .inl rfl⟩
  · skip
    refine HT.out.below ?_
    repeat refine Below.setCell ?_ (by simp) _
    exact HB1.out
  · repeat refine Below.setCell ?_ (by simp) _
    exact HB1.out

set_option maxHeartbeats 2000000 in
set_option maxRecDepth 100000 in
theorem alter_nob1 (kind : Int) (v : Value) (t : Tx) (b : Int) (s : ByteArray) (w : World) (hT : IsTx w v t) (r1 : t.info.length * 24 ≤ 140737488355328) (r2 : t.data.length * 24 ≤ 140737488355328) (hg : goodX t = true) (ho : t.h1.on = true) (hb : withinB b 0 11 = false) :
    Calls Tryz.prog 9 #[.int .i64 kind, v, .int .i64 1, .int .i64 b, .string s] w fun e w' => ∃ v2, e = .returned (.tuple #[v2, .int .i64 (reachE t 1 b)]) ∧ IsTx w' v2 (t) ∧ Below w.heap.size w w' ∧ (v2 = v ∨ RowsFrom w.heap.size v2 (t)) := by
  have HO := hide ho
  clear ho
  have HT := hide hT
  obtain ⟨a, c, a', c', r, d, rfl, hM, hD, hR, n1, n2, n3⟩ := hT
  have HM := hide hM
  have HD := hide hD
  have HR := hide hR
  have N1 := hide n1
  have N2 := hide n2
  have N3 := hide n3
  clear hM hD hR n1 n2 n3
  go_enter Tryz.func9, Tryz.ntmps9
  go_wp2_with fail
  refine (goodTxn_any _ t _ (HT.out.below (bthen (below1 _ _) (below1 _ _))) r1 r2).mono ?_
  rintro e w1 ⟨rfl, hb1⟩
  have hs1 : w.heap.size + 1 < w1.heap.size := by have := hb1.size; simp at this; omega
  have hs1' : w.heap.size < w1.heap.size := by omega
  have K1 := hide (two1 hb1)
  have K2 := hide (two2 hb1)
  obtain ⟨⟨x0, x1, x2, x3, x4, x5, x6, x7, x8, x9⟩, _⟩ := box10 K1.out
  obtain ⟨⟨y0, y1, y2, y3, y4, y5, y6, y7, y8, y9⟩, ff⟩ := box10 K2.out
  have HB1 := hide (bthen (bthen (below1 _ _) (below1 _ _)) hb1)
  clear hb1
  have ho := HO.out
  have HE : Hid (reachE t 1 b = 4) := by rw [Hid, reachE, if_neg (by rw [hg]; simp), if_pos]; by_cases e : 0 ≤ b ∧ b ≤ 11; (rw [withinB_iff.2 e] at hb; cases hb); omega
  have HTT : Hid (t = t) := rfl
  go_wp2_with (go_at_call 45; refine (isBlock_any _ _).mono ?_; rintro e w' ⟨rfl, rfl⟩)
  refine bodyPost_ret (v := .tuple #[.agg #[.int .i64 t.seq, .slice a t.info.length c, .slice a' t.data.length c', .slice r t.rev.length d, .bool t.h0.on, .int .i64 t.h0.left, .bool t.h1.on, .int .i64 t.h1.left, .bool t.h2.on, .int .i64 t.h2.left], .int .i64 4]) (by simp [results, Tryz.results9, go_sem, y0, y1, y2, y3, y4, y5, y6, y7, y8, y9, ho]) rfl ⟨_, by rw [HE.out], ?_⟩
  refine ⟨?_, ?_, .inl rfl⟩
  · skip
    refine HT.out.below ?_
    repeat refine Below.setCell ?_ (by simp) _
    exact HB1.out
  · repeat refine Below.setCell ?_ (by simp) _
    exact HB1.out

set_option maxHeartbeats 2000000 in
set_option maxRecDepth 100000 in
theorem alter_off2 (kind : Int) (v : Value) (t : Tx) (b : Int) (s : ByteArray) (w : World) (hT : IsTx w v t) (r1 : t.info.length * 24 ≤ 140737488355328) (r2 : t.data.length * 24 ≤ 140737488355328) (hg : goodX t = true) (ho : t.h2.on = false) :
    Calls Tryz.prog 9 #[.int .i64 kind, v, .int .i64 2, .int .i64 b, .string s] w fun e w' => ∃ v2, e = .returned (.tuple #[v2, .int .i64 (reachE t 2 b)]) ∧ IsTx w' v2 (t) ∧ Below w.heap.size w w' ∧ (v2 = v ∨ RowsFrom w.heap.size v2 (t)) := by
  have HO := hide ho
  clear ho
  have HT := hide hT
  obtain ⟨a, c, a', c', r, d, rfl, hM, hD, hR, n1, n2, n3⟩ := hT
  have HM := hide hM
  have HD := hide hD
  have HR := hide hR
  have N1 := hide n1
  have N2 := hide n2
  have N3 := hide n3
  clear hM hD hR n1 n2 n3
  go_enter Tryz.func9, Tryz.ntmps9
  go_wp2_with fail
  refine (goodTxn_any _ t _ (HT.out.below (bthen (below1 _ _) (below1 _ _))) r1 r2).mono ?_
  rintro e w1 ⟨rfl, hb1⟩
  have hs1 : w.heap.size + 1 < w1.heap.size := by have := hb1.size; simp at this; omega
  have hs1' : w.heap.size < w1.heap.size := by omega
  have K1 := hide (two1 hb1)
  have K2 := hide (two2 hb1)
  obtain ⟨⟨x0, x1, x2, x3, x4, x5, x6, x7, x8, x9⟩, _⟩ := box10 K1.out
  obtain ⟨⟨y0, y1, y2, y3, y4, y5, y6, y7, y8, y9⟩, ff⟩ := box10 K2.out
  have HB1 := hide (bthen (bthen (below1 _ _) (below1 _ _)) hb1)
  clear hb1
  have ho := HO.out
  have HE : Hid (reachE t 2 b = 4) := by rw [Hid, reachE, if_neg (by rw [hg]; simp), if_pos (.inr (.inr (.inl (show (hdAt t 2).on = false from ho))))]
  have HTT : Hid (t = t) := rfl
  go_wp2
  refine bodyPost_ret (v := .tuple #[.agg #[.int .i64 t.seq, .slice a t.info.length c, .slice a' t.data.length c', .slice r t.rev.length d, .bool t.h0.on, .int .i64 t.h0.left, .bool t.h1.on, .int .i64 t.h1.left, .bool t.h2.on, .int .i64 t.h2.left], .int .i64 4]) (by simp [results, Tryz.results9, go_sem, y0, y1, y2, y3, y4, y5, y6, y7, y8, y9, ho]) rfl ⟨_, by rw [HE.out], ?_⟩
  refine ⟨?_, ?_, .inl rfl⟩
  · skip
    refine HT.out.below ?_
    repeat refine Below.setCell ?_ (by simp) _
    exact HB1.out
  · repeat refine Below.setCell ?_ (by simp) _
    exact HB1.out

set_option maxHeartbeats 2000000 in
set_option maxRecDepth 100000 in
theorem alter_nob2 (kind : Int) (v : Value) (t : Tx) (b : Int) (s : ByteArray) (w : World) (hT : IsTx w v t) (r1 : t.info.length * 24 ≤ 140737488355328) (r2 : t.data.length * 24 ≤ 140737488355328) (hg : goodX t = true) (ho : t.h2.on = true) (hb : withinB b 0 11 = false) :
    Calls Tryz.prog 9 #[.int .i64 kind, v, .int .i64 2, .int .i64 b, .string s] w fun e w' => ∃ v2, e = .returned (.tuple #[v2, .int .i64 (reachE t 2 b)]) ∧ IsTx w' v2 (t) ∧ Below w.heap.size w w' ∧ (v2 = v ∨ RowsFrom w.heap.size v2 (t)) := by
  have HO := hide ho
  clear ho
  have HT := hide hT
  obtain ⟨a, c, a', c', r, d, rfl, hM, hD, hR, n1, n2, n3⟩ := hT
  have HM := hide hM
  have HD := hide hD
  have HR := hide hR
  have N1 := hide n1
  have N2 := hide n2
  have N3 := hide n3
  clear hM hD hR n1 n2 n3
  go_enter Tryz.func9, Tryz.ntmps9
  go_wp2_with fail
  refine (goodTxn_any _ t _ (HT.out.below (bthen (below1 _ _) (below1 _ _))) r1 r2).mono ?_
  rintro e w1 ⟨rfl, hb1⟩
  have hs1 : w.heap.size + 1 < w1.heap.size := by have := hb1.size; simp at this; omega
  have hs1' : w.heap.size < w1.heap.size := by omega
  have K1 := hide (two1 hb1)
  have K2 := hide (two2 hb1)
  obtain ⟨⟨x0, x1, x2, x3, x4, x5, x6, x7, x8, x9⟩, _⟩ := box10 K1.out
  obtain ⟨⟨y0, y1, y2, y3, y4, y5, y6, y7, y8, y9⟩, ff⟩ := box10 K2.out
  have HB1 := hide (bthen (bthen (below1 _ _) (below1 _ _)) hb1)
  clear hb1
  have ho := HO.out
  have HE : Hid (reachE t 2 b = 4) := by rw [Hid, reachE, if_neg (by rw [hg]; simp), if_pos]; by_cases e : 0 ≤ b ∧ b ≤ 11; (rw [withinB_iff.2 e] at hb; cases hb); omega
  have HTT : Hid (t = t) := rfl
  go_wp2_with (go_at_call 45; refine (isBlock_any _ _).mono ?_; rintro e w' ⟨rfl, rfl⟩)
  refine bodyPost_ret (v := .tuple #[.agg #[.int .i64 t.seq, .slice a t.info.length c, .slice a' t.data.length c', .slice r t.rev.length d, .bool t.h0.on, .int .i64 t.h0.left, .bool t.h1.on, .int .i64 t.h1.left, .bool t.h2.on, .int .i64 t.h2.left], .int .i64 4]) (by simp [results, Tryz.results9, go_sem, y0, y1, y2, y3, y4, y5, y6, y7, y8, y9, ho]) rfl ⟨_, by rw [HE.out], ?_⟩
  refine ⟨?_, ?_, .inl rfl⟩
  · skip
    refine HT.out.below ?_
    repeat refine Below.setCell ?_ (by simp) _
    exact HB1.out
  · repeat refine Below.setCell ?_ (by simp) _
    exact HB1.out

set_option maxHeartbeats 2000000 in
set_option maxRecDepth 100000 in
theorem alter_no (kind : Int) (v : Value) (t : Tx) (h b : Int) (s : ByteArray) (w : World) (hT : IsTx w v t) (r1 : t.info.length * 24 ≤ 140737488355328) (r2 : t.data.length * 24 ≤ 140737488355328) (hr : ¬ reachE t h b = 0) :
    Calls Tryz.prog 9 #[.int .i64 kind, v, .int .i64 h, .int .i64 b, .string s] w fun e w' => ∃ v2, e = .returned (.tuple #[v2, .int .i64 (reachE t h b)]) ∧ IsTx w' v2 (t) ∧ Below w.heap.size w w' ∧ (v2 = v ∨ RowsFrom w.heap.size v2 (t)) := by
  cases hg : goodX t with
  | false => exact alter_bad kind v t h b s w hT r1 r2 hg
  | true =>
    by_cases h1 : h < 0
    · exact alter_low kind v t h b s w hT r1 r2 hg h1
    · by_cases h2 : 2 < h
      · exact alter_high kind v t h b s w hT r1 r2 hg h2
      · cases hb : withinB b 0 11 with
        | false =>
          have hc : h = 0 ∨ h = 1 ∨ h = 2 := by omega
          rcases hc with rfl | rfl | rfl
          · cases ho : t.h0.on with
            | true => exact alter_nob0 kind v t b s w hT r1 r2 hg ho hb
            | false => exact alter_off0 kind v t b s w hT r1 r2 hg ho
          · cases ho : t.h1.on with
            | true => exact alter_nob1 kind v t b s w hT r1 r2 hg ho hb
            | false => exact alter_off1 kind v t b s w hT r1 r2 hg ho
          · cases ho : t.h2.on with
            | true => exact alter_nob2 kind v t b s w hT r1 r2 hg ho hb
            | false => exact alter_off2 kind v t b s w hT r1 r2 hg ho
        | true =>
          have hbb := withinB_iff.1 hb
          have hc : h = 0 ∨ h = 1 ∨ h = 2 := by omega
          rcases hc with rfl | rfl | rfl
          · cases ho : t.h0.on with
            | true => exact absurd (by rw [reachE, if_neg (by rw [hg]; simp), if_neg]; rw [show (hdAt t 0).on = true from ho]; simp; omega) hr
            | false => exact alter_off0 kind v t b s w hT r1 r2 hg ho
          · cases ho : t.h1.on with
            | true => exact absurd (by rw [reachE, if_neg (by rw [hg]; simp), if_neg]; rw [show (hdAt t 1).on = true from ho]; simp; omega) hr
            | false => exact alter_off1 kind v t b s w hT r1 r2 hg ho
          · cases ho : t.h2.on with
            | true => exact absurd (by rw [reachE, if_neg (by rw [hg]; simp), if_neg]; rw [show (hdAt t 2).on = true from ho]; simp; omega) hr
            | false => exact alter_off2 kind v t b s w hT r1 r2 hg ho


/-- A row of copies, of numbers, whose block is none of the elder ones. -/
def RowC (w : World) (lo : Nat) (v : Value) (l : List (Int × ByteArray)) : Prop := ∃ a c, v = .slice a l.length c ∧ SegW w a l ∧ ∀ b off, a = some ⟨b, off, none⟩ → lo ≤ b
def RowN (w : World) (lo : Nat) (v : Value) (l : List Int) : Prop := ∃ a c, v = .slice a l.length c ∧ SegI w a l ∧ ∀ b off, a = some ⟨b, off, none⟩ → lo ≤ b
theorem RowC.below {w w' : World} {lo : Nat} {v : Value} {l : List (Int × ByteArray)} (h : RowC w lo v l) (hb : Below w.heap.size w w') : RowC w' lo v l := by
  obtain ⟨a, c, e, h1, h2⟩ := h
  exact ⟨a, c, e, h1.below hb, h2⟩
theorem RowN.below {w w' : World} {lo : Nat} {v : Value} {l : List Int} (h : RowN w lo v l) (hb : Below w.heap.size w w') : RowN w' lo v l := by
  obtain ⟨a, c, e, h1, h2⟩ := h
  exact ⟨a, c, e, h1.below hb, h2⟩
theorem RowC.set {w : World} {lo : Nat} {v : Value} {l : List (Int × ByteArray)} (h : RowC w lo v l) {p : Addr} (hp : p.block < lo) (u : Value) : RowC (w.setCell p u) lo v l := by
  obtain ⟨a, c, e, h1, h2⟩ := h
  exact ⟨a, c, e, SegW.setNe h1 (fun b off e => by have := h2 b off e; omega) u, h2⟩
theorem RowN.set {w : World} {lo : Nat} {v : Value} {l : List Int} (h : RowN w lo v l) {p : Addr} (hp : p.block < lo) (u : Value) : RowN (w.setCell p u) lo v l := by
  obtain ⟨a, c, e, h1, h2⟩ := h
  exact ⟨a, c, e, SegI.setNe h1 (fun b off e => by have := h2 b off e; omega) u, h2⟩
theorem RowC.owned {w : World} {base lo n : Nat} {v : Value} {l : List (Int × ByteArray)} (h : w.ownsRow base 78 2 v n (cellsC l)) (h1 : lo ≤ base) : RowC w lo v l := by
  obtain ⟨a, c, e, hs, hb⟩ := SegC.of_owns h
  exact ⟨a, c, e, hs, fun b off e => by have := hb b off e; omega⟩
theorem RowN.owned {w : World} {base lo n : Nat} {v : Value} {l : List Int} (h : w.ownsRow base 3 1 v n (cellsI l)) (h1 : lo ≤ base) : RowN w lo v l := by
  obtain ⟨a, c, e, hs, hb⟩ := SegI.of_owns h
  exact ⟨a, c, e, hs, fun b off e => by have := hb b off e; omega⟩
def Rows3 (w : World) (lo : Nat) (va vd vr : Value) (li ld : List (Int × ByteArray)) (lr : List Int) : Prop := RowC w lo va li ∧ RowC w lo vd ld ∧ RowN w lo vr lr
theorem Rows3.set {w : World} {lo : Nat} {va vd vr : Value} {li ld : List (Int × ByteArray)} {lr : List Int} (h : Rows3 w lo va vd vr li ld lr) {p : Addr} (hp : p.block < lo) (u : Value) : Rows3 (w.setCell p u) lo va vd vr li ld lr :=
  ⟨h.1.set hp u, h.2.1.set hp u, h.2.2.set hp u⟩
theorem Rows3.is {w : World} {lo : Nat} {va vd vr : Value} {li ld : List (Int × ByteArray)} {lr : List Int} {T : Tx} (h : Rows3 w lo va vd vr li ld lr) (n1 : li.length ≤ 1000) (n2 : ld.length ≤ 1000) (n3 : lr.length ≤ 1000) :
    IsTx w (.agg #[.int .i64 T.seq, va, vd, vr, .bool T.h0.on, .int .i64 T.h0.left, .bool T.h1.on, .int .i64 T.h1.left, .bool T.h2.on, .int .i64 T.h2.left]) { T with info := li, data := ld, rev := lr } := by
  obtain ⟨⟨a, c, rfl, h1, _⟩, ⟨a', c', rfl, h2, _⟩, r, d, rfl, h3, _⟩ := h
  exact ⟨a, c, a', c', r, d, rfl, h1, h2, h3, by unfold maxLen; dsimp only; omega, by unfold maxLen; dsimp only; omega, by unfold maxLen; dsimp only; omega⟩
theorem Rows3.from {w : World} {lo base : Nat} {va vd vr : Value} {li ld : List (Int × ByteArray)} {lr : List Int} {T : Tx} (h : Rows3 w lo va vd vr li ld lr) (hb : base ≤ lo) :
    RowsFrom base (.agg #[.int .i64 T.seq, va, vd, vr, .bool T.h0.on, .int .i64 T.h0.left, .bool T.h1.on, .int .i64 T.h1.left, .bool T.h2.on, .int .i64 T.h2.left]) { T with info := li, data := ld, rev := lr } := by
  obtain ⟨⟨a, c, rfl, _, h1⟩, ⟨a', c', rfl, _, h2⟩, r, d, rfl, _, h3⟩ := h
  exact ⟨a, c, a', c', r, d, rfl, fun x o e => Nat.le_trans hb (h1 x o e), fun x o e => Nat.le_trans hb (h2 x o e), fun x o e => Nat.le_trans hb (h3 x o e)⟩
theorem docR_le (l : List Int) (b : Int) (r : Bool) (j : Nat) : (docR l b r j).length ≤ 1 := by
  unfold docR
  split <;> simp
theorem putLe {α : Type} (key : α → Int) (l : List α) (b : Int) (x : α) : (putAt key l b x).length ≤ 2 * l.length + 1 := by
  have h1 := List.length_filter_le (fun y => decide (key y < b)) l
  have h2 := List.length_filter_le (fun y => decide (b < key y)) l
  simp [putAt]; omega
theorem dropLe {α : Type} (key : α → Int) (l : List α) (b : Int) : (dropAt key l b).length ≤ 2 * l.length := by
  have h1 := List.length_filter_le (fun y => decide (key y < b)) l
  have h2 := List.length_filter_le (fun y => decide (b < key y)) l
  simp [dropAt]; omega

theorem hd_left {x : Hd} (h : hdB x = true) : 0 ≤ x.left ∧ x.left ≤ 24 := by
  have := (hdB_iff x).1 h
  omega

theorem RowC.weak {w : World} {lo lo' : Nat} {v : Value} {l : List (Int × ByteArray)} (h : RowC w lo v l) (hl : lo' ≤ lo) : RowC w lo' v l := by
  obtain ⟨a, c, e, h1, h2⟩ := h
  exact ⟨a, c, e, h1, fun b off e => Nat.le_trans hl (h2 b off e)⟩
theorem RowN.weak {w : World} {lo lo' : Nat} {v : Value} {l : List Int} (h : RowN w lo v l) (hl : lo' ≤ lo) : RowN w lo' v l := by
  obtain ⟨a, c, e, h1, h2⟩ := h
  exact ⟨a, c, e, h1, fun b off e => Nat.le_trans hl (h2 b off e)⟩
theorem Rows3.weak {w : World} {lo lo' : Nat} {va vd vr : Value} {li ld : List (Int × ByteArray)} {lr : List Int} (h : Rows3 w lo va vd vr li ld lr) (hl : lo' ≤ lo) : Rows3 w lo' va vd vr li ld lr := ⟨h.1.weak hl, h.2.1.weak hl, h.2.2.weak hl⟩

end Go.Proofs.YtjnpndfpajjihabGreat
