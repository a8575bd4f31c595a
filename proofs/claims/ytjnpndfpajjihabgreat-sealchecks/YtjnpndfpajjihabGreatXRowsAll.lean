/-
  Transactions in a row of memory: ten cells each.
  Transactions in a row of the call's own, whose three rows are the call's own too; one more put behind them.
  The walk of the document's own CopyTxn: the rows that it copies are the call's own.
-/
import Derived.Test.YtjnpndfpajjihabGreatTRows
import Derived.Deep.DeepAppendWide
import Derived.Test.YtjnpndfpajjihabGreatTCopy0
namespace Go.Proofs.YtjnpndfpajjihabGreat
open Go.RowKit

def txz : Tx := ⟨0, [], [], [], ⟨false, 0⟩, ⟨false, 0⟩, ⟨false, 0⟩⟩
/-- The ten cells of a transaction, in a block from a place on. -/
def Ten (w : World) (b o : Nat) (t : Tx) (a : Option Addr) (c : Nat) (a' : Option Addr) (c' : Nat) (r : Option Addr) (d : Nat) : Prop :=
  w.cell? ⟨b, o, none⟩ = some (.int .i64 t.seq) ∧ w.cell? ⟨b, o + 1, none⟩ = some (.slice a t.info.length c) ∧ w.cell? ⟨b, o + 2, none⟩ = some (.slice a' t.data.length c') ∧ w.cell? ⟨b, o + 3, none⟩ = some (.slice r t.rev.length d) ∧ w.cell? ⟨b, o + 4, none⟩ = some (.bool t.h0.on) ∧
    w.cell? ⟨b, o + 5, none⟩ = some (.int .i64 t.h0.left) ∧ w.cell? ⟨b, o + 6, none⟩ = some (.bool t.h1.on) ∧ w.cell? ⟨b, o + 7, none⟩ = some (.int .i64 t.h1.left) ∧ w.cell? ⟨b, o + 8, none⟩ = some (.bool t.h2.on) ∧ w.cell? ⟨b, o + 9, none⟩ = some (.int .i64 t.h2.left)
/-- A transaction in ten cells of a block. -/
def TxAt (w : World) (b o : Nat) (t : Tx) : Prop :=
  ∃ a c a' c' r d, Ten w b o t a c a' c' r d ∧ IsTx w (.agg #[.int .i64 t.seq, .slice a t.info.length c, .slice a' t.data.length c', .slice r t.rev.length d, .bool t.h0.on, .int .i64 t.h0.left, .bool t.h1.on, .int .i64 t.h1.left, .bool t.h2.on, .int .i64 t.h2.left]) t
theorem TxAt.below {w w' : World} {b o : Nat} {t : Tx} (h : TxAt w b o t) (hb : Below w.heap.size w w') (hlt : b < w.heap.size) : TxAt w' b o t := by
  obtain ⟨a, c, a', c', r, d, ⟨h0, h1, h2, h3, h4, h5, h6, h7, h8, h9⟩, hT⟩ := h
  exact ⟨a, c, a', c', r, d, ⟨cellKeep hb hlt h0, cellKeep hb hlt h1, cellKeep hb hlt h2, cellKeep hb hlt h3, cellKeep hb hlt h4, cellKeep hb hlt h5, cellKeep hb hlt h6, cellKeep hb hlt h7, cellKeep hb hlt h8, cellKeep hb hlt h9⟩, hT.below hb⟩
theorem IsTx.rows {w : World} {t : Tx} {q x0 x1 x2 x3 x4 x5 : Value} {a a' r : Option Addr} {n c n' c' m d : Nat} (h : IsTx w (.agg #[q, .slice a n c, .slice a' n' c', .slice r m d, x0, x1, x2, x3, x4, x5]) t) :
    SegW w a t.info ∧ SegW w a' t.data ∧ SegI w r t.rev ∧ t.info.length ≤ maxLen ∧ t.data.length ≤ maxLen ∧ t.rev.length ≤ maxLen := by
  obtain ⟨a2, c2, a3, c3, b2, d2, e, h⟩ := h
  simp only [Value.agg.injEq] at e
  injection e with e
  simp only [List.cons.injEq, Value.slice.injEq, and_true] at e
  obtain ⟨_, ⟨rfl, rfl, rfl⟩, ⟨rfl, rfl, rfl⟩, ⟨rfl, rfl, rfl⟩, _⟩ := e
  exact h
/-- A row of transactions. -/
def SegTx (w : World) (a : Option Addr) (l : List Tx) : Prop :=
  l = [] ∨ ∃ b off, a = some ⟨b, off, none⟩ ∧ b < w.heap.size ∧ ∀ i, i < l.length → TxAt w b (off + i * 10) (l.getD i txz)
theorem SegTx.below {w w' : World} {a : Option Addr} {l : List Tx} (h : SegTx w a l) (hb : Below w.heap.size w w') : SegTx w' a l := by
  rcases h with h | ⟨b, off, rfl, hlt, hc⟩
  · exact .inl h
  · exact .inr ⟨b, off, rfl, Nat.lt_of_lt_of_le hlt hb.size, fun i hi => (hc i hi).below hb hlt⟩
/-- How far the rows of a transaction reach. -/
def Reached (t : Tx) : Prop := t.info.length * 24 ≤ 140737488355328 ∧ t.data.length * 24 ≤ 140737488355328 ∧ t.rev.length * 8 ≤ 140737488355328
theorem tx_at {l : List Tx} {k : Nat} (h : k < l.length) : l[k]? = some (l.getD k txz) := by
  rw [List.getD, List.getElem?_eq_getElem h]; rfl


/-- A transaction, and the values of its three rows. -/
structure RX where
  m : Value
  d : Value
  r : Value
  t : Tx
def cellsX : List RX → List Value
  | [] => []
  | x :: q => .int .i64 x.t.seq :: x.m :: x.d :: x.r :: .bool x.t.h0.on :: .int .i64 x.t.h0.left :: .bool x.t.h1.on :: .int .i64 x.t.h1.left :: .bool x.t.h2.on :: .int .i64 x.t.h2.left :: cellsX q
theorem cellsX_length (q : List RX) : (cellsX q).length = q.length * 10 := by
  induction q with
  | nil => rfl
  | cons x r ih => simp [cellsX, ih]; omega
theorem cellsX_append (q r : List RX) : cellsX (q ++ r) = cellsX q ++ cellsX r := by
  induction q with
  | nil => rfl
  | cons x r ih => simp [cellsX, ih]
theorem cellsX_at (q : List RX) (i : Nat) (x : RX) (h : q[i]? = some x) (j : Nat) (u : Value) (hj : (cellsX [x])[j]? = some u) : (cellsX q)[i * 10 + j]? = some u := by
  have hj10 : j < 10 := by have := (List.getElem?_eq_some_iff.1 hj).1; simpa [cellsX] using this
  induction q generalizing i with
  | nil => simp at h
  | cons y r ih =>
    have e : cellsX (y :: r) = cellsX [y] ++ cellsX r := rfl
    cases i with
    | zero =>
      simp at h
      subst h
      rw [e, List.getElem?_append_left (by simp [cellsX]; omega), Nat.zero_mul, Nat.zero_add]
      exact hj
    | succ i =>
      rw [e, List.getElem?_append_right (by simp [cellsX]; omega)]
      have e2 : (i + 1) * 10 + j - (cellsX [y]).length = i * 10 + j := by simp [cellsX]; omega
      rw [e2]
      exact ih i (by simpa using h)

/-- Its three rows are the call's own. -/
def OwnR (w : World) (base : Nat) (x : RX) : Prop :=
  w.ownsRow base 78 2 x.m x.t.info.length (cellsC x.t.info) ∧ w.ownsRow base 78 2 x.d x.t.data.length (cellsC x.t.data) ∧ w.ownsRow base 3 1 x.r x.t.rev.length (cellsI x.t.rev)
theorem OwnR.below {w w' : World} {base : Nat} {x : RX} (h : OwnR w base x) (hb : Below w.heap.size w w') : OwnR w' base x := ⟨owns_keep h.1 hb, owns_keep h.2.1 hb, owns_keep h.2.2 hb⟩
theorem owns_other {w w' : World} {base base2 : Nat} {e e2 : TypeId} {size size2 : Nat} {v v2 : Value} {n n2 : Nat} {xs xs2 : List Value} (h : w.ownsRow base e size v n xs) (h2 : w.ownsRow base2 e2 size2 v2 n2 xs2) (hne : e ≠ e2) (hg : w.grownBy w' v2.ownBlock) : w'.ownsRow base e size v n xs := by
  refine ⟨h.1, ?_⟩
  rcases h.2 with h0 | ⟨g, cap, cur, hv, hb, hh, r⟩
  · exact .inl h0
  · refine .inr ⟨g, cap, cur, hv, hb, ?_, r⟩
    rw [hg.block g (Array.getElem?_eq_some_iff.1 hh).1 ?_]
    · exact hh
    · intro e3
      rcases h2.2 with ⟨rfl, _⟩ | ⟨g2, cap2, cur2, rfl, _, hh2, _⟩
      · simp [Value.ownBlock] at e3
      · simp only [Value.ownBlock, Option.some.injEq] at e3
        subst e3
        rw [hh] at hh2
        simp only [Option.some.injEq, Obj.cells.injEq] at hh2
        exact hne hh2.2.1
theorem OwnR.grown {w w' : World} {base base2 : Nat} {x : RX} {v2 : Value} {n2 : Nat} {xs2 : List Value} (h : OwnR w base x) (h2 : w.ownsRow base2 28 10 v2 n2 xs2) (hg : w.grownBy w' v2.ownBlock) : OwnR w' base x :=
  ⟨owns_other h.1 h2 (by decide) hg, owns_other h.2.1 h2 (by decide) hg, owns_other h.2.2 h2 (by decide) hg⟩
theorem owns_one {w : World} {base : Nat} {e : TypeId} {size : Nat} {v : Value} {n : Nat} {xs : List Value} (h : w.ownsRow base e size v n xs) : v.oneCell' = true := by
  rcases h.2 with ⟨rfl, _⟩ | ⟨g, cap, cur, rfl, _⟩ <;> rfl
theorem OwnR.one {w : World} {base : Nat} {x : RX} (h : OwnR w base x) : ∀ u ∈ cellsX [x], u.oneCell' = true := by
  intro u hu
  simp only [cellsX, List.mem_cons, List.not_mem_nil, or_false] at hu
  rcases hu with rfl | rfl | rfl | rfl | rfl | rfl | rfl | rfl | rfl | rfl
  · rfl
  · exact owns_one h.1
  · exact owns_one h.2.1
  · exact owns_one h.2.2
  all_goals rfl
/-- The rows of a transaction, as values. -/
theorem OwnR.tx {w : World} {base : Nat} {x : RX} (h : OwnR w base x) : ∃ a c a' c' r d, x.m = .slice a x.t.info.length c ∧ x.d = .slice a' x.t.data.length c' ∧ x.r = .slice r x.t.rev.length d ∧ SegW w a x.t.info ∧ SegW w a' x.t.data ∧ SegI w r x.t.rev ∧ x.t.info.length ≤ c ∧ x.t.data.length ≤ c' ∧ x.t.rev.length ≤ d ∧ c ≤ maxLen ∧ c' ≤ maxLen ∧ d ≤ maxLen := by
  have cap : ∀ {e : TypeId} {size n : Nat} {a : Option Addr} {m c : Nat} {xs : List Value}, w.ownsRow base e size (.slice a m c) n xs → m ≤ c ∧ c ≤ maxLen := by
    intro e size n a m c xs h
    rcases h.2 with ⟨e, _⟩ | ⟨g, cap, cur, e, _, _, h1, h2, _⟩
    · simp only [Value.slice.injEq] at e; unfold maxLen; omega
    · simp only [Value.slice.injEq] at e; omega
  obtain ⟨h1, h2, h3⟩ := h
  obtain ⟨a, c, e1, s1, _⟩ := SegC.of_owns h1
  obtain ⟨a', c', e2, s2, _⟩ := SegC.of_owns h2
  obtain ⟨r, d, e3, s3, _⟩ := SegI.of_owns h3
  rw [e1] at h1; rw [e2] at h2; rw [e3] at h3
  exact ⟨a, c, a', c', r, d, e1, e2, e3, s1, s2, s3, (cap h1).1, (cap h2).1, (cap h3).1, (cap h1).2, (cap h2).2, (cap h3).2⟩
theorem OwnR.is {w : World} {base : Nat} {x : RX} (h : OwnR w base x) : IsTx w (.agg #[.int .i64 x.t.seq, x.m, x.d, x.r, .bool x.t.h0.on, .int .i64 x.t.h0.left, .bool x.t.h1.on, .int .i64 x.t.h1.left, .bool x.t.h2.on, .int .i64 x.t.h2.left]) x.t := by
  obtain ⟨a, c, a', c', r, d, e1, e2, e3, s1, s2, s3, n1, n2, n3, k1, k2, k3⟩ := h.tx
  exact ⟨a, c, a', c', r, d, by rw [e1, e2, e3], s1, s2, s3, by omega, by omega, by omega⟩
/-- A row of the call's own, as a row. -/
theorem SegTx.of_owns {w : World} {base base2 n : Nat} {v : Value} {q : List RX} (h : w.ownsRow base 28 10 v n (cellsX q)) (hq : ∀ x ∈ q, OwnR w base2 x) : ∃ a c, v = .slice a (q.map (·.t)).length c ∧ SegTx w a (q.map (·.t)) ∧ ∀ b off, a = some ⟨b, off, none⟩ → base ≤ b := by
  have hn : q.length = n := by have := h.1; rw [cellsX_length] at this; omega
  subst hn
  rw [List.length_map]
  rcases h.2 with ⟨rfl, h0⟩ | ⟨g, cap, cur, rfl, hb, hg, rest⟩
  · exact ⟨none, 0, by rw [h0], .inl (by rw [List.eq_nil_of_length_eq_zero h0]; rfl), fun _ _ h => by cases h⟩
  · refine ⟨_, cap, rfl, .inr ⟨g, 0, rfl, (Array.getElem?_eq_some_iff.1 hg).1, fun i hi => ?_⟩, fun _ _ h => by cases h; exact hb⟩
    rw [List.length_map] at hi
    obtain ⟨x, hx⟩ : ∃ x, q[i]? = some x := ⟨_, List.getElem?_eq_getElem hi⟩
    have ex : (q.map (·.t)).getD i txz = x.t := by rw [List.getD, List.getElem?_map, hx]; rfl
    rw [ex]
    have hO := hq x (List.mem_of_getElem? hx)
    obtain ⟨a, c, a', c', r, d, e1, e2, e3, s1, s2, s3, n1, n2, n3, k1, k2, k3⟩ := hO.tx
    have cell : ∀ j u, (cellsX [x])[j]? = some u → j < 10 → w.cell? ⟨g, 0 + i * 10 + j, none⟩ = some u := by
      intro j u hj hj10
      rw [Nat.zero_add, h.cellAt (i * 10 + j) (by omega)]
      exact cellsX_at q i x hx j u hj
    refine ⟨a, c, a', c', r, d, ⟨cell 0 _ rfl (by omega), cell 1 _ ?_ (by omega), cell 2 _ ?_ (by omega), cell 3 _ ?_ (by omega), cell 4 _ rfl (by omega), cell 5 _ rfl (by omega), cell 6 _ rfl (by omega), cell 7 _ rfl (by omega), cell 8 _ rfl (by omega), cell 9 _ rfl (by omega)⟩, ⟨a, c, a', c', r, d, rfl, s1, s2, s3, by omega, by omega, by omega⟩⟩
    · rw [← e1]; rfl
    · rw [← e2]; rfl
    · rw [← e3]; rfl

theorem infoX : (Tryz.prog.info? 28).map (fun i => (i.zero, i.size, i.bytes)) = some (some (.agg #[.int .i64 0, .slice none 0 0, .slice none 0 0, .slice none 0 0, .bool false, .int .i64 0, .bool false, .int .i64 0, .bool false, .int .i64 0]), 10, 128) := by kernel_rfl
theorem news10 {w : World} {b : Nat} {x : RX} (h0 : w.cell? ⟨b, 0, none⟩ = some (.int .i64 x.t.seq)) (h1 : w.cell? ⟨b, 1, none⟩ = some x.m) (h2 : w.cell? ⟨b, 2, none⟩ = some x.d) (h3 : w.cell? ⟨b, 3, none⟩ = some x.r)
    (h4 : w.cell? ⟨b, 4, none⟩ = some (.bool x.t.h0.on)) (h5 : w.cell? ⟨b, 5, none⟩ = some (.int .i64 x.t.h0.left)) (h6 : w.cell? ⟨b, 6, none⟩ = some (.bool x.t.h1.on)) (h7 : w.cell? ⟨b, 7, none⟩ = some (.int .i64 x.t.h1.left)) (h8 : w.cell? ⟨b, 8, none⟩ = some (.bool x.t.h2.on)) (h9 : w.cell? ⟨b, 9, none⟩ = some (.int .i64 x.t.h2.left)) :
    ∀ j u, (cellsX [x])[j]? = some u → w.cell? (Addr.add ⟨b, 0, none⟩ j) = some u := by
  intro j u hj
  rw [Addr.add_lit, Nat.zero_add]
  match j, hj with
  | 0, hj => simp [cellsX] at hj; subst hj; exact h0
  | 1, hj => simp [cellsX] at hj; subst hj; exact h1
  | 2, hj => simp [cellsX] at hj; subst hj; exact h2
  | 3, hj => simp [cellsX] at hj; subst hj; exact h3
  | 4, hj => simp [cellsX] at hj; subst hj; exact h4
  | 5, hj => simp [cellsX] at hj; subst hj; exact h5
  | 6, hj => simp [cellsX] at hj; subst hj; exact h6
  | 7, hj => simp [cellsX] at hj; subst hj; exact h7
  | 8, hj => simp [cellsX] at hj; subst hj; exact h8
  | 9, hj => simp [cellsX] at hj; subst hj; exact h9
  | j + 10, hj => simp [cellsX] at hj
/-- append of one transaction onto a row of the call's own. -/
theorem wpList_appX {w : World} {ops : Array Oper} {rest : List Oper} {o : Oper} {a : Act} {Q : Exit → Act → World → Prop} (hgd : o.guard = none) (s x : Operand)
    (ho : o.op = .call { callee := .builtin .append, args := #[s, x], argTypes := #[47, 47] })
    (base : Nat) (v : Value) (q : List RX) (hs : a.eval s = v) (hown : w.ownsRow base 28 10 v q.length (cellsX q)) (b : Nat) (y : RX) (hx : a.eval x = .slice (some ⟨b, 0, none⟩) 1 1)
    (hnews : ∀ j u, (cellsX [y])[j]? = some u → w.cell? (Addr.add ⟨b, 0, none⟩ j) = some u) (hone : ∀ u ∈ cellsX [y], u.oneCell' = true) (h63 : q.length * 128 ≤ 140737488360000) (hbase : base ≤ w.heap.size)
    (h : ∀ v' w', w'.ownsRow base 28 10 v' (q ++ [y]).length (cellsX (q ++ [y])) → w.grownBy w' v.ownBlock → wpList Tryz.prog ops Q rest (a.put o.dst v') w') : wpList Tryz.prog ops Q (o :: rest) a w := by
  obtain ⟨i0, hi, hz0, hz1, hz2⟩ := info_parts infoX
  refine wpList_append_own_wide w hgd s x 47 ho base 28 i0 _ 10 128 Tryz.underlying47 hi hz0 hz1 hz2 rfl (by decide) v q.length (cellsX q) hs hown ⟨b, 0, none⟩ 1 1 (cellsX [y]) hx rfl hnews hone (by unfold maxLen; omega) (by omega) hbase ?_
  intro v' w' k1 k2 _
  refine h v' w' ?_ k2
  rw [cellsX_append, List.length_append]
  exact k1


theorem owns_setNe {w : World} {base : Nat} {e : TypeId} {size : Nat} {v : Value} {n : Nat} {xs : List Value} (h : w.ownsRow base e size v n xs) {p : Addr} (hb : ∀ k, v.ownBlock = some k → k ≠ p.block) (u : Value) : (w.setCell p u).ownsRow base e size v n xs := by
  refine ⟨h.1, ?_⟩
  rcases h.2 with h0 | ⟨g, cap, cur, hv, hg, hh, r⟩
  · exact .inl h0
  · refine .inr ⟨g, cap, cur, hv, hg, ?_, r⟩
    have hne : g ≠ p.block := hb g (by rw [hv]; rfl)
    rw [World.setCell]
    simp only [Array.getElem?_modify]
    rw [if_neg (fun x => hne x.symm)]
    exact hh

set_option maxRecDepth 100000 in
theorem step_copyCO {ops : Array Oper} {o : Oper} {a : Act} {w : World} {K : Act → World → Prop} {Q : Exit → Act → World → Prop} {E : Prop} (hgd : o.guard = none) (s x : Operand)
    (ho : o.op = .call { callee := .builtin .append, args := #[s, x], argTypes := #[22, 22] })
    (hs : a.eval s = .slice none 0 0) (ao : Option Addr) (c : Nat) (l : List (Int × ByteArray)) (hx : a.eval x = .slice ao l.length c) (hS : SegW w ao l) (h63 : l.length ≤ maxLen) (hbytes : l.length * 24 ≤ 140737488355328)
    (h : ∀ a2 c2 w', Hid (w'.ownsRow w.heap.size 78 2 (.slice a2 l.length c2) l.length (cellsC l)) → Below w.heap.size w w' → K (a.put o.dst (.slice a2 l.length c2)) w') :
    if Region.wanted o (yielded ops a.tmps) = true then Oper.wp Tryz.prog o a w K Q else E := by
  obtain ⟨i0, hi, hz0, hz1, hz2⟩ := info_parts infoC
  refine step_copy hgd s x 22 ho 78 i0 (.agg #[.int .i64 0, .string ⟨#[]⟩]) 2 24 Tryz.underlying22 hi hz0 hz1 hz2 rfl (by decide) hs ao l.length c (cellsC l) hx (cellsC_length l) ?_ ?_ (cellsC_one l) h63 hbytes ?_
  · intro h0
    rcases hS with h | ⟨b, off, he, _⟩
    · rw [h]; rfl
    · rw [h0] at he; cases he
  · intro ad h0 j u hj
    rcases hS with h | ⟨b, off, he, hlt, hc⟩
    · rw [h] at hj; simp [cellsC] at hj
    · rw [h0] at he
      cases he
      rw [Addr.add_lit]
      exact SegC.news hc j u hj
  · intro v' w' hown hb
    obtain ⟨a2, c2, rfl, _, _⟩ := SegC.of_owns hown
    exact h a2 c2 w' hown hb
set_option maxRecDepth 100000 in
theorem step_copyIO {ops : Array Oper} {o : Oper} {a : Act} {w : World} {K : Act → World → Prop} {Q : Exit → Act → World → Prop} {E : Prop} (hgd : o.guard = none) (s x : Operand)
    (ho : o.op = .call { callee := .builtin .append, args := #[s, x], argTypes := #[23, 23] })
    (hs : a.eval s = .slice none 0 0) (ao : Option Addr) (c : Nat) (l : List Int) (hx : a.eval x = .slice ao l.length c) (hS : SegI w ao l) (h63 : l.length ≤ maxLen) (hbytes : l.length * 8 ≤ 140737488355328)
    (h : ∀ a2 c2 w', Hid (w'.ownsRow w.heap.size 3 1 (.slice a2 l.length c2) l.length (cellsI l)) → Below w.heap.size w w' → K (a.put o.dst (.slice a2 l.length c2)) w') :
    if Region.wanted o (yielded ops a.tmps) = true then Oper.wp Tryz.prog o a w K Q else E := by
  obtain ⟨i0, hi, hz0, hz1, hz2⟩ := info_parts infoI
  refine step_copy hgd s x 23 ho 3 i0 (.int .i64 0) 1 8 Tryz.underlying23 hi hz0 hz1 hz2 rfl (by decide) hs ao l.length c (cellsI l) hx (cellsI_length l) ?_ ?_ cellsI_one h63 hbytes ?_
  · intro h0
    rcases hS with h | ⟨b, off, he, _⟩
    · rw [h]; rfl
    · rw [h0] at he; cases he
  · intro ad h0 j u hj
    rcases hS with h | ⟨b, off, he, hlt, hc⟩
    · rw [h] at hj; simp [cellsI] at hj
    · rw [h0] at he
      cases he
      rw [Addr.add_lit]
      exact SegI.news hc j u hj
  · intro v' w' hown hb
    obtain ⟨a2, c2, rfl, _, _⟩ := SegI.of_owns hown
    exact h a2 c2 w' hown hb
end Go.Proofs.YtjnpndfpajjihabGreat
