/-
  Steps as plain data and as the cells of a row; what the calls that gather steps leave as it was. Nothing of the program is proved here.
-/
import Derived.Test.YtjnpndfpajjihabGreatTRows
import Derived.RangeFuncBox
import Derived.RangeFuncLeaves
import Derived.Deep.DeepAppendWide
namespace Go.Proofs.YtjnpndfpajjihabGreat
open Go.RowKit

/-- A step: its kind, its place, its text. -/
def St : Type := Int × Int × ByteArray
def st0 : St := (0, 0, ByteArray.empty)
def writeS (p : Int) (s : ByteArray) : St := (1, p, s)
def flushS : St := (2, 0, ⟨#[]⟩)
def cellsSt : List St → List Value
  | [] => []
  | x :: r => .int .i64 x.1 :: .int .i64 x.2.1 :: .string x.2.2 :: cellsSt r
theorem cellsSt_length (l : List St) : (cellsSt l).length = l.length * 3 := by
  induction l with
  | nil => rfl
  | cons x r ih => simp [cellsSt, ih]; omega
theorem cellsSt_append (l r : List St) : cellsSt (l ++ r) = cellsSt l ++ cellsSt r := by
  induction l with
  | nil => rfl
  | cons x r ih => simp [cellsSt, ih]
theorem cellsSt_one (l : List St) : ∀ u ∈ cellsSt l, u.oneCell' = true := by
  induction l with
  | nil => intro u hu; simp [cellsSt] at hu
  | cons x r ih =>
    intro u hu
    simp only [cellsSt, List.mem_cons] at hu
    rcases hu with rfl | rfl | rfl | hu
    · rfl
    · rfl
    · rfl
    · exact ih u hu
theorem cellsSt_at (l : List St) (i : Nat) (h : i < l.length) : (cellsSt l)[i * 3]? = some (.int .i64 (l.getD i st0).1) ∧ (cellsSt l)[i * 3 + 1]? = some (.int .i64 (l.getD i st0).2.1) ∧ (cellsSt l)[i * 3 + 2]? = some (.string (l.getD i st0).2.2) := by
  induction l generalizing i with
  | nil => simp at h
  | cons x r ih =>
    cases i with
    | zero => exact ⟨rfl, rfl, rfl⟩
    | succ i =>
      have e1 : (i + 1) * 3 = i * 3 + 1 + 1 + 1 := by omega
      rw [cellsSt, e1]
      simpa using ih i (by simpa using h)
/-- A row of steps at an address: three cells each. -/
def SegSt (w : World) (a : Option Addr) (l : List St) : Prop :=
  l = [] ∨ ∃ b off, a = some ⟨b, off, none⟩ ∧ b < w.heap.size ∧ ∀ i, i < l.length →
    w.cell? ⟨b, off + i * 3, none⟩ = some (.int .i64 (l.getD i st0).1) ∧ w.cell? ⟨b, off + i * 3 + 1, none⟩ = some (.int .i64 (l.getD i st0).2.1) ∧ w.cell? ⟨b, off + i * 3 + 2, none⟩ = some (.string (l.getD i st0).2.2)
theorem SegSt.below {w w' : World} {a : Option Addr} {l : List St} (h : SegSt w a l) (hb : Below w.heap.size w w') : SegSt w' a l := by
  rcases h with h | ⟨b, off, rfl, hlt, hc⟩
  · exact .inl h
  · exact .inr ⟨b, off, rfl, Nat.lt_of_lt_of_le hlt hb.size, fun i hi => ⟨cellKeep hb hlt (hc i hi).1, cellKeep hb hlt (hc i hi).2.1, cellKeep hb hlt (hc i hi).2.2⟩⟩
theorem SegSt.of_owns {w : World} {base n : Nat} {v : Value} {l : List St} (h : w.ownsRow base 97 3 v n (cellsSt l)) : ∃ a c, v = .slice a l.length c ∧ SegSt w a l ∧ ∀ b off, a = some ⟨b, off, none⟩ → base ≤ b := by
  have hn : l.length = n := by have := h.1; rw [cellsSt_length] at this; omega
  subst hn
  rcases h.2 with ⟨rfl, h0⟩ | ⟨g, cap, cur, rfl, hb, hg, rest⟩
  · exact ⟨none, 0, by rw [h0], .inl (List.eq_nil_of_length_eq_zero h0), fun _ _ h => by cases h⟩
  · refine ⟨_, cap, rfl, .inr ⟨g, 0, rfl, (Array.getElem?_eq_some_iff.1 hg).1, fun i hi => ?_⟩, fun _ _ h => by cases h; exact hb⟩
    have e := cellsSt_at l i hi
    rw [Nat.zero_add, h.cellAt (i * 3) (by omega), h.cellAt (i * 3 + 1) (by omega), h.cellAt (i * 3 + 2) (by omega)]
    exact e
theorem own_cap {w : World} {base : Nat} {e : TypeId} {size : Nat} {v : Value} {n : Nat} {xs : List Value} (h : w.ownsRow base e size v n xs) {a : Option Addr} {k c : Nat} (hv : v = .slice a k c) : k ≤ c := by
  rcases h.2 with ⟨rfl, _⟩ | ⟨g, cap, cur, rfl, _, _, h2, _⟩
  · cases hv; exact Nat.le_refl _
  · cases hv; exact h2
theorem infoSt : (Tryz.prog.info? 97).map (fun i => (i.zero, i.size, i.bytes)) = some (some (.agg #[.int .i64 0, .int .i64 0, .string ⟨#[]⟩]), 3, 32) := by kernel_rfl
theorem news3 {w : World} {b : Nat} {x : St} (h0 : w.cell? ⟨b, 0, none⟩ = some (.int .i64 x.1)) (h1 : w.cell? ⟨b, 1, none⟩ = some (.int .i64 x.2.1)) (h2 : w.cell? ⟨b, 2, none⟩ = some (.string x.2.2)) :
    ∀ j u, (cellsSt [x])[j]? = some u → w.cell? (Addr.add ⟨b, 0, none⟩ j) = some u := by
  intro j u hj
  rw [Addr.add_lit, Nat.zero_add]
  match j, hj with
  | 0, hj => simp [cellsSt] at hj; subst hj; exact h0
  | 1, hj => simp [cellsSt] at hj; subst hj; exact h1
  | 2, hj => simp [cellsSt] at hj; subst hj; exact h2
  | j + 3, hj => simp [cellsSt] at hj

/-- A row of steps of the call's own. -/
def OwnSt (w : World) (base : Nat) (v : Value) (l : List St) : Prop := w.ownsRow base 97 3 v l.length (cellsSt l)
/-- append of one step onto a row of the call's own. -/
theorem wpList_appSt {w : World} {ops : Array Oper} {rest : List Oper} {o : Oper} {a : Act} {Q : Exit → Act → World → Prop} (hgd : o.guard = none) (s x : Operand)
    (ho : o.op = .call { callee := .builtin .append, args := #[s, x], argTypes := #[42, 42] })
    (base : Nat) (v : Value) (l : List St) (hs : a.eval s = v) (hown : w.ownsRow base 97 3 v l.length (cellsSt l)) (b : Nat) (y : St) (hx : a.eval x = .slice (some ⟨b, 0, none⟩) 1 1)
    (h0 : w.cell? ⟨b, 0, none⟩ = some (.int .i64 y.1)) (h1 : w.cell? ⟨b, 1, none⟩ = some (.int .i64 y.2.1)) (h2 : w.cell? ⟨b, 2, none⟩ = some (.string y.2.2)) (h63 : l.length * 24 ≤ 140737488380000) (hbase : base ≤ w.heap.size)
    (h : ∀ v' w', OwnSt w' base v' (l ++ [y]) → w.grownBy w' v.ownBlock → wpList Tryz.prog ops Q rest (a.put o.dst v') w') : wpList Tryz.prog ops Q (o :: rest) a w := by
  obtain ⟨i0, hi, hz0, hz1, hz2⟩ := info_parts infoSt
  refine wpList_append_own_wide w hgd s x 42 ho base 97 i0 (.agg #[.int .i64 0, .int .i64 0, .string ⟨#[]⟩]) 3 32 Tryz.underlying42 hi hz0 hz1 hz2 rfl (by decide) v l.length (cellsSt l) hs hown ⟨b, 0, none⟩ 1 1 (cellsSt [y]) hx rfl (news3 h0 h1 h2) (cellsSt_one _) (by unfold maxLen; omega) (by omega) hbase ?_
  intro v' w' k1 k2 _
  refine h v' w' ?_ k2
  rw [OwnSt, cellsSt_append, List.length_append]
  exact k1
theorem step_appSt {w : World} {ops : Array Oper} {o : Oper} {a : Act} {K : Act → World → Prop} {Q : Exit → Act → World → Prop} {E : Prop} (hgd : o.guard = none) (s x : Operand)
    (ho : o.op = .call { callee := .builtin .append, args := #[s, x], argTypes := #[42, 42] })
    (base : Nat) (v : Value) (l : List St) (hs : a.eval s = v) (hown : w.ownsRow base 97 3 v l.length (cellsSt l)) (b : Nat) (y : St) (hx : a.eval x = .slice (some ⟨b, 0, none⟩) 1 1)
    (h0 : w.cell? ⟨b, 0, none⟩ = some (.int .i64 y.1)) (h1 : w.cell? ⟨b, 1, none⟩ = some (.int .i64 y.2.1)) (h2 : w.cell? ⟨b, 2, none⟩ = some (.string y.2.2)) (h63 : l.length ≤ 1000) (hbase : base ≤ w.heap.size)
    (h : ∀ v' w', OwnSt w' base v' (l ++ [y]) → w.grownBy w' v.ownBlock → K (a.put o.dst v') w') : if Region.wanted o (yielded ops a.tmps) = true then Oper.wp Tryz.prog o a w K Q else E := by
  obtain ⟨i0, hi, hz0, hz1, hz2⟩ := info_parts infoSt
  refine step_app hgd s x 42 ho 97 i0 (.agg #[.int .i64 0, .int .i64 0, .string ⟨#[]⟩]) 3 32 Tryz.underlying42 hi hz0 hz1 hz2 rfl (by decide) base v l.length (cellsSt l) hs hown ⟨b, 0, none⟩ (cellsSt [y]) hx rfl (news3 h0 h1 h2) (cellsSt_one _) h63 (by omega) hbase ?_
  intro v' w' k1 k2
  refine h v' w' ?_ k2
  rw [OwnSt, cellsSt_append, List.length_append]
  exact k1

/-- What is left as it was: all but a box, another box, and rows of steps from a block on. -/
structure Fr (Bs Bp base : Nat) (w w' : World) : Prop where
  os : w'.os = w.os
  tape : w'.tape = w.tape
  output : w'.output = w.output
  size : w.heap.size ≤ w'.heap.size
  low : ∀ k, k < base → k ≠ Bp → k ≠ Bs → w'.heap[k]? = w.heap[k]?
  box : ∀ k o, w.heap[k]? = some o → (∀ cs fr, o ≠ .cells cs 97 fr) → k ≠ Bs → k ≠ Bp → w'.heap[k]? = some o
theorem Fr.of_below {Bs Bp base : Nat} {w w' : World} (hb : Below w.heap.size w w') (hbase : base ≤ w.heap.size) : Fr Bs Bp base w w' :=
  ⟨hb.os, hb.tape, hb.output, hb.size, fun k hk _ _ => hb.block k (by omega), fun k o ho _ _ _ => (hb.block k (Array.getElem?_eq_some_iff.1 ho).1).trans ho⟩
theorem Fr.trans {Bs Bp base : Nat} {w w1 w2 : World} (h : Fr Bs Bp base w w1) (k : Fr Bs Bp base w1 w2) : Fr Bs Bp base w w2 :=
  ⟨k.os.trans h.os, k.tape.trans h.tape, k.output.trans h.output, Nat.le_trans h.size k.size, fun j hj n1 n2 => (k.low j hj n1 n2).trans (h.low j hj n1 n2), fun j o ho hn n1 n2 => k.box j o (h.box j o ho hn n1 n2) hn n1 n2⟩
theorem Fr.grown {Bs Bp base : Nat} {w w' : World} {v : Value} {n : Nat} {xs : List Value} (hown : w.ownsRow base 97 3 v n xs) (hg : w.grownBy w' v.ownBlock) (hbase : base ≤ w.heap.size) : Fr Bs Bp base w w' := by
  have hne : ∀ k, k < base → some k ≠ v.ownBlock := by
    intro k hk e
    have := hown.lt k e.symm
    omega
  refine ⟨hg.os, hg.tape, hg.output, hg.size, fun k hk _ _ => hg.block k (by omega) (hne k hk), fun k o ho hn _ _ => (hg.block k (Array.getElem?_eq_some_iff.1 ho).1 ?_).trans ho⟩
  intro e
  rcases hown.2 with ⟨rfl, _⟩ | ⟨g, cap, cur, rfl, hb, hgb, _⟩
  · simp [Value.ownBlock] at e
  · simp [Value.ownBlock] at e
    subst e
    rw [hgb] at ho
    simp only [Option.some.injEq] at ho
    exact hn _ _ ho.symm
theorem Fr.setS {Bs Bp base : Nat} (w : World) (u : Value) : Fr Bs Bp base w (w.setCell ⟨Bs, 0, none⟩ u) :=
  ⟨rfl, rfl, rfl, by simp [World.setCell], fun k _ _ h => Below.heap_setCell _ _ _ _ h, fun k o ho _ h _ => (Below.heap_setCell _ _ _ _ h).trans ho⟩
theorem Fr.setP {Bs Bp base : Nat} (w : World) (u : Value) : Fr Bs Bp base w (w.setCell ⟨Bp, 0, none⟩ u) :=
  ⟨rfl, rfl, rfl, by simp [World.setCell], fun k _ h _ => Below.heap_setCell _ _ _ _ h, fun k o ho _ _ h => (Below.heap_setCell _ _ _ _ h).trans ho⟩
theorem Fr.below {Bs Bp base n : Nat} {w w' : World} (h : Fr Bs Bp base w w') (h1 : n ≤ base) (h2 : n ≤ Bp) (h3 : n ≤ Bs) : Below n w w' :=
  ⟨h.os, h.tape, h.output, h.size, fun k hk => h.low k (by omega) (by omega) (by omega)⟩
theorem Fr.boxed {Bs Bp base B : Nat} {w w' : World} (h : Fr Bs Bp base w w') {t : TypeId} {v : Value} (hb : Boxed w B t v) (ht : t ≠ 97) (h1 : B ≠ Bs) (h2 : B ≠ Bp) : Boxed w' B t v :=
  h.box B _ hb (fun cs fr e => by simp only [Obj.cells.injEq] at e; exact ht e.2.1) h1 h2
theorem Fr.others {Bs Bp base : Nat} {w w' : World} (h : Fr Bs Bp base w w') (h1 : ∃ t v, Boxed w Bs t v) (h2 : ∃ t v, Boxed w Bp t v) : KeepsOthers w w' := by
  obtain ⟨t1, v1, b1⟩ := h1
  obtain ⟨t2, v2, b2⟩ := h2
  refine ⟨h.size, fun k o ho hc => h.box k o ho (fun cs fr e => by rw [e] at hc; cases hc) ?_ ?_⟩
  · intro e; subst e; rw [b1] at ho; cases ho; cases hc
  · intro e; subst e; rw [b2] at ho; cases ho; cases hc

/-- The steps gathered so far, in a box; the places left, in a box. -/
def StepsAt (w : World) (base Bs : Nat) (l : List St) : Prop := ∃ v, Boxed w Bs 42 v ∧ w.ownsRow base 97 3 v l.length (cellsSt l)
def PlacesAt (w : World) (base Bp : Nat) (l : List Int) : Prop :=
  ∃ a c, Boxed w Bp 23 (.slice a l.length c) ∧ SegI w a l ∧ (∀ b off, a = some ⟨b, off, none⟩ → b < base ∧ b ≠ Bp) ∧ l.length ≤ c ∧ (a = none → l = [])
theorem StepsAt.below {w w' : World} {base Bs : Nat} {l : List St} (h : StepsAt w base Bs l) (hb : Below w.heap.size w w') : StepsAt w' base Bs l := by
  obtain ⟨v, h1, h2⟩ := h
  exact ⟨v, boxKeep hb h1.lt h1, owns_keep h2 hb⟩
theorem PlacesAt.below {w w' : World} {base Bp : Nat} {l : List Int} (h : PlacesAt w base Bp l) (hb : Below w.heap.size w w') : PlacesAt w' base Bp l := by
  obtain ⟨a, c, h1, h2, h3⟩ := h
  exact ⟨a, c, boxKeep hb h1.lt h1, h2.below hb, h3⟩
theorem StepsAt.boxed {w : World} {base Bs : Nat} {l : List St} (h : StepsAt w base Bs l) : ∃ t v, Boxed w Bs t v := by obtain ⟨v, h, _⟩ := h; exact ⟨_, v, h⟩
theorem PlacesAt.boxed {w : World} {base Bp : Nat} {l : List Int} (h : PlacesAt w base Bp l) : ∃ t v, Boxed w Bp t v := by obtain ⟨a, c, h, _⟩ := h; exact ⟨_, _, h⟩
theorem SegI.low {w w' : World} {a : Option Addr} {l : List Int} {Bs Bp base : Nat} (h : SegI w a l) (hf : Fr Bs Bp base w w') (hb : ∀ b off, a = some ⟨b, off, none⟩ → b < base ∧ b ≠ Bp) (hs : base ≤ Bs) : SegI w' a l := by
  rcases h with h | ⟨b, off, rfl, hlt, hc⟩
  · exact .inl h
  · obtain ⟨k1, k2⟩ := hb b off rfl
    refine .inr ⟨b, off, rfl, Nat.lt_of_lt_of_le hlt hf.size, fun i hi => ?_⟩
    exact (World.cell?_of_block (w := w) (a := ⟨b, off + i, none⟩) (hf.low b k1 k2 (by omega))).trans (hc i hi)

end Go.Proofs.YtjnpndfpajjihabGreat
