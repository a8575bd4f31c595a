/-
  The walk of the document's own DecodeMark: what is no mark at first sight.
  The walk of the document's own DecodeMark: a block of a kind that bears nothing but its number.
  Rows of copies: as the cells of a row of the call's own, copied, and past a store.
  What a call that changes one block of its caller's leaves as it was.
  Transactions in a row of memory: ten cells each.
  The walk of the document's own CopyTxn.
  The walk of the document's own CopyTxn.
  The walk of the document's own CopyTxn: the rows that it copies have room for what they hold.
-/
import Derived.Test.YtjnpndfpajjihabGreatGrSealWhole5
import Derived.Test.YtjnpndfpajjihabGreatGrSealWhole3
import Derived.Test.YtjnpndfpajjihabGreatGrSealWhole0
import Derived.Deep.QuietTactic
import Derived.BigQuiet
import Derived.Test.YtjnpndfpajjihabGreatGrSealWhole1
namespace Go.Proofs.YtjnpndfpajjihabGreat
open Go.RowKit

/-- A mark of which nothing is said. -/
def zeroM : Mk := ⟨0, 0, 0, [], []⟩
theorem isZero (w : World) : IsMk w (.agg #[.int .i64 0, .int .i64 0, .int .i64 0, .slice none 0 0, .slice none 0 0]) zeroM := ⟨none, 0, none, 0, rfl, .inl rfl, .inl rfl, Nat.zero_le _, Nat.zero_le _⟩
theorem isZeroN (w : World) (base : Nat) : IsMkN w base (.agg #[.int .i64 0, .int .i64 0, .int .i64 0, .slice none 0 0, .slice none 0 0]) zeroM := ⟨none, 0, none, 0, rfl, .inl rfl, .inl rfl, Nat.zero_le _, Nat.zero_le _, fun _ _ h => (by cases h), fun _ _ h => (by cases h)⟩

/-- The block made first stays under what makes memory alone. -/
theorem keep0 {w w' : World} {o : Obj} (hb : Below (w.alloc o).heap.size (w.alloc o) w') : w'.heap[w.heap.size]? = some o :=
  (hb.block _ (by simp)).trans (heap_alloc_new w o)
end Go.Proofs.YtjnpndfpajjihabGreat

namespace Go.Proofs.YtjnpndfpajjihabGreat
open Go.RowKit

/-- The byte at a place, as a number; the Seq that stands in a block. -/
def at8 (s : ByteArray) (k : Nat) : Int := ((s.get! k).toNat : Int)
def seqOf (s : ByteArray) : Nat → Int
  | 0 => 0
  | k + 1 => 256 * seqOf s k + at8 s (k + 5)
theorem at8_of (s : ByteArray) (k : Nat) (h : k < s.size) : ((s[k]'h).toNat : Int) = at8 s k := by
  unfold at8
  congr 2
  exact (getElem!_pos s.data k h).symm
theorem at8_in (s : ByteArray) (k : Nat) : 0 ≤ at8 s k ∧ at8 s k ≤ 255 := by
  unfold at8
  have := (s.get! k).toNat_lt
  omega
theorem seqOf_in (s : ByteArray) (k : Nat) (h : k ≤ 4) : 0 ≤ seqOf s k ∧ seqOf s k < 256 ^ k := by
  induction k with
  | zero => exact ⟨Int.le_refl _, by show (0 : Int) < 1; decide⟩
  | succ k ih =>
    have := ih (by omega)
    have := at8_in s (k + 5)
    rw [seqOf, Int.pow_succ]
    omega
theorem seqOf_lt (s : ByteArray) (k : Nat) (h : k ≤ 4) : 0 ≤ seqOf s k ∧ seqOf s k ≤ 4294967295 := by
  have h1 := seqOf_in s k h
  have : (256 : Int) ^ k ≤ 256 ^ 4 := by
    match k, h with
    | 0, _ => decide
    | 1, _ => decide
    | 2, _ => decide
    | 3, _ => decide
    | 4, _ => decide
  omega
theorem wrap_at8 (s : ByteArray) (k : Nat) : wrap64 (at8 s k) = at8 s k := by
  have := at8_in s k
  unfold wrap64
  omega

theorem new2 (w : World) (o o2 : Obj) : ((w.alloc o).alloc o2).heap[w.heap.size + 1]? = some o2 := by
  have := heap_alloc_new (w.alloc o) o2
  simpa using this
theorem keepR {w w' : World} {o : Obj} (hb : Below (w.heap.size + 1) (w.alloc o) w') : w'.heap[w.heap.size]? = some o :=
  (hb.block _ (by omega)).trans (heap_alloc_new w o)

/-- What Decode answers of a mark that was read, where what stands behind it is all noughts, or is not. -/
def decOf (m : Mk) (z : Bool) : Mk × Int := if goodM m = 0 ∧ z = true then (m, 0) else (zeroM, 1)
theorem decOf_bad {m : Mk} (z : Bool) (h : ¬ goodM m = 0) : decOf m z = (zeroM, 1) := if_neg fun e => h e.1
theorem decOf_behind (m : Mk) {z : Bool} (h : z = false) : decOf m z = (zeroM, 1) := if_neg fun e => by rw [h] at e; exact absurd e.2 (by decide)
theorem decOf_good {m : Mk} {z : Bool} (h : goodM m = 0) (hz : z = true) : decOf m z = (m, 0) := if_pos ⟨h, hz⟩
end Go.Proofs.YtjnpndfpajjihabGreat

namespace Go.Proofs.YtjnpndfpajjihabGreat
open Go.RowKit

theorem SegW.setNe {w : World} {a : Option Addr} {l : List (Int × ByteArray)} (h : SegW w a l) {p : Addr} (hb : ∀ b off, a = some ⟨b, off, none⟩ → b ≠ p.block) (u : Value) : SegW (w.setCell p u) a l := by
  rcases h with h | ⟨b, off, rfl, hlt, hc⟩
  · exact .inl h
  · have := hb b off rfl
    exact .inr ⟨b, off, rfl, by simpa [World.setCell] using hlt, fun i hi => ⟨cellSet (hc i hi).1 this, cellSet (hc i hi).2 this⟩⟩

def cellsC : List (Int × ByteArray) → List Value
  | [] => []
  | x :: r => .int .i64 x.1 :: .string x.2 :: cellsC r
theorem cellsC_length (l : List (Int × ByteArray)) : (cellsC l).length = l.length * 2 := by
  induction l with
  | nil => rfl
  | cons x r ih => simp [cellsC, ih]; omega
theorem cellsC_append (l r : List (Int × ByteArray)) : cellsC (l ++ r) = cellsC l ++ cellsC r := by
  induction l with
  | nil => rfl
  | cons x r ih => simp [cellsC, ih]
theorem cellsC_one (l : List (Int × ByteArray)) : ∀ u ∈ cellsC l, u.oneCell' = true := by
  induction l with
  | nil => intro u hu; simp [cellsC] at hu
  | cons x r ih =>
    intro u hu
    simp only [cellsC, List.mem_cons] at hu
    rcases hu with rfl | rfl | hu
    · rfl
    · rfl
    · exact ih u hu
theorem cellsC_at (l : List (Int × ByteArray)) (i : Nat) (h : i < l.length) : (cellsC l)[i * 2]? = some (.int .i64 (l.getD i (0, ByteArray.empty)).1) ∧ (cellsC l)[i * 2 + 1]? = some (.string (l.getD i (0, ByteArray.empty)).2) := by
  induction l generalizing i with
  | nil => simp at h
  | cons x r ih =>
    cases i with
    | zero => exact ⟨rfl, rfl⟩
    | succ i =>
      have e1 : (i + 1) * 2 = i * 2 + 1 + 1 := by omega
      have e2 : (i + 1) * 2 + 1 = i * 2 + 1 + 1 + 1 := by omega
      rw [cellsC, e1, List.getElem?_cons_succ, List.getElem?_cons_succ, List.getElem?_cons_succ, List.getElem?_cons_succ]
      simpa using ih i (by simpa using h)
theorem SegC.of_owns {w : World} {base n : Nat} {v : Value} {l : List (Int × ByteArray)} (h : w.ownsRow base 78 2 v n (cellsC l)) : ∃ a c, v = .slice a l.length c ∧ SegW w a l ∧ ∀ b off, a = some ⟨b, off, none⟩ → base ≤ b := by
  have hn : l.length = n := by have := h.1; rw [cellsC_length] at this; omega
  subst hn
  rcases h.2 with ⟨rfl, h0⟩ | ⟨g, cap, cur, rfl, hb, hg, rest⟩
  · exact ⟨none, 0, by rw [h0], .inl (List.eq_nil_of_length_eq_zero h0), fun _ _ h => by cases h⟩
  · refine ⟨_, cap, rfl, .inr ⟨g, 0, rfl, (Array.getElem?_eq_some_iff.1 hg).1, fun i hi => ?_⟩, fun _ _ h => by cases h; exact hb⟩
    have e := cellsC_at l i hi
    rw [Nat.zero_add, h.cellAt (i * 2) (by omega), h.cellAt (i * 2 + 1) (by omega)]
    exact e
theorem infoC : (Tryz.prog.info? 78).map (fun i => (i.zero, i.size, i.bytes)) = some (some (.agg #[.int .i64 0, .string ⟨#[]⟩]), 2, 24) := by kernel_rfl
theorem SegC.news {w : World} {b off : Nat} {l : List (Int × ByteArray)} (hc : ∀ i, i < l.length → w.cell? ⟨b, off + i * 2, none⟩ = some (.int .i64 (l.getD i (0, ByteArray.empty)).1) ∧ w.cell? ⟨b, off + i * 2 + 1, none⟩ = some (.string (l.getD i (0, ByteArray.empty)).2)) (j : Nat) (u : Value) (hj : (cellsC l)[j]? = some u) : w.cell? ⟨b, off + j, none⟩ = some u := by
  have hlt : j < l.length * 2 := by
    have := (List.getElem?_eq_some_iff.1 hj).1
    rw [cellsC_length] at this; omega
  obtain ⟨i, hi⟩ : ∃ i, i = j / 2 := ⟨_, rfl⟩
  have hil : i < l.length := by omega
  have e := cellsC_at l i hil
  have g := hc i hil
  by_cases h0 : j % 2 = 0
  · have hj2 : j = i * 2 := by omega
    rw [hj2] at hj ⊢
    rw [e.1] at hj
    cases hj
    exact g.1
  · have hj2 : j = i * 2 + 1 := by omega
    rw [hj2] at hj ⊢
    rw [e.2] at hj
    cases hj
    have : off + (i * 2 + 1) = off + i * 2 + 1 := by omega
    rw [this]
    exact g.2

theorem step_copyC {ops : Array Oper} {o : Oper} {a : Act} {w : World} {K : Act → World → Prop} {Q : Exit → Act → World → Prop} {E : Prop} (hgd : o.guard = none) (s x : Operand)
    (ho : o.op = .call { callee := .builtin .append, args := #[s, x], argTypes := #[22, 22] })
    (hs : a.eval s = .slice none 0 0) (ao : Option Addr) (c : Nat) (l : List (Int × ByteArray)) (hx : a.eval x = .slice ao l.length c) (hS : SegW w ao l) (h63 : l.length ≤ maxLen) (hbytes : l.length * 24 ≤ 140737488355328)
    (h : ∀ a2 c2 w', Hid (SegW w' a2 l ∧ ∀ b off, a2 = some ⟨b, off, none⟩ → w.heap.size ≤ b ∧ b < w'.heap.size) → Below w.heap.size w w' → K (a.put o.dst (.slice a2 l.length c2)) w') :
    if Region.wanted o (yielded ops a.tmps) = true then Oper.wp Tryz.prog o a w K Q else E := by
  obtain ⟨i0, hi, hz0, hz1, hz2⟩ := info_parts infoC
  refine step_copy hgd s x 22 ho 78 i0 (.agg #[.int .i64 0, .string ⟨#[]⟩]) 2 24 Tryz.underlying22 hi hz0 hz1 hz2 rfl (by decide) hs ao l.length c (cellsC l) hx (cellsC_length l) ?_ ?_ (cellsC_one l) h63 hbytes ?_
  · intro h0
    rcases hS with h | ⟨b, off, he, _⟩
    · rw [h]; rfl
    · rw [h0] at he; cases he
  · intro ad h0 j u hj
    rcases hS with h | ⟨b, off, he, hlt, hc⟩
    · rw [h] at hj; simp [cellsC] at hj
    · rw [h0] at he
      cases he
      rw [Addr.add_lit]
      exact SegC.news hc j u hj
  · intro v' w' hown hb
    obtain ⟨a2, c2, rfl, h2, _⟩ := SegC.of_owns hown
    exact h a2 c2 w' ⟨h2, fun b off e => hown.lt b (by rw [e]; rfl)⟩ hb


end Go.Proofs.YtjnpndfpajjihabGreat

namespace Go.Proofs.YtjnpndfpajjihabGreat
open Go.RowKit

/-- All that lies below a block is as it was, but for one block. -/
structure But (R base : Nat) (w w' : World) : Prop where
  os : w'.os = w.os
  tape : w'.tape = w.tape
  output : w'.output = w.output
  size : w.heap.size ≤ w'.heap.size
  block : ∀ k, k < base → k ≠ R → w'.heap[k]? = w.heap[k]?
theorem But.of_below {R base : Nat} {w w' : World} (h : Below base w w') : But R base w w' := ⟨h.os, h.tape, h.output, h.size, fun k hk _ => h.block k hk⟩
theorem But.trans {R base base2 : Nat} {w w1 w2 : World} (h : But R base w w1) (k : But R base2 w1 w2) (hb : base ≤ base2) : But R base w w2 :=
  ⟨k.os.trans h.os, k.tape.trans h.tape, k.output.trans h.output, Nat.le_trans h.size k.size, fun j hj hn => (k.block j (by omega) hn).trans (h.block j hj hn)⟩
theorem But.cell {R base : Nat} {w w' : World} (h : But R base w w') {b o : Nat} {v : Value} (hb : b < base) (hn : b ≠ R) (hc : w.cell? ⟨b, o, none⟩ = some v) : w'.cell? ⟨b, o, none⟩ = some v :=
  (World.cell?_of_block (h.block b hb hn)).trans hc

theorem owns_but {R base : Nat} {w w' : World} {e : TypeId} {size : Nat} {v : Value} {n : Nat} {xs : List Value} (h : w.ownsRow base e size v n xs) (hb : But R w.heap.size w w') (hR : R < base) : w'.ownsRow base e size v n xs := by
  refine ⟨h.1, ?_⟩
  rcases h.2 with h0 | ⟨g, cap, cur, hv, hg, hh, r⟩
  · exact .inl h0
  · exact .inr ⟨g, cap, cur, hv, hg, (hb.block g (Array.getElem?_eq_some_iff.1 hh).1 (by omega)).trans hh, r⟩

end Go.Proofs.YtjnpndfpajjihabGreat

namespace Go.Proofs.YtjnpndfpajjihabGreat
open Go.RowKit

def txz : Tx := ⟨0, [], [], [], ⟨false, 0⟩, ⟨false, 0⟩, ⟨false, 0⟩⟩
/-- The ten cells of a transaction, in a block from a place on. -/
def Ten (w : World) (b o : Nat) (t : Tx) (a : Option Addr) (c : Nat) (a' : Option Addr) (c' : Nat) (r : Option Addr) (d : Nat) : Prop :=
  w.cell? ⟨b, o, none⟩ = some (.int .i64 t.seq) ∧ w.cell? ⟨b, o + 1, none⟩ = some (.slice a t.info.length c) ∧ w.cell? ⟨b, o + 2, none⟩ = some (.slice a' t.data.length c') ∧ w.cell? ⟨b, o + 3, none⟩ = some (.slice r t.rev.length d) ∧ w.cell? ⟨b, o + 4, none⟩ = some (.bool t.h0.on) ∧
    w.cell? ⟨b, o + 5, none⟩ = some (.int .i64 t.h0.left) ∧ w.cell? ⟨b, o + 6, none⟩ = some (.bool t.h1.on) ∧ w.cell? ⟨b, o + 7, none⟩ = some (.int .i64 t.h1.left) ∧ w.cell? ⟨b, o + 8, none⟩ = some (.bool t.h2.on) ∧ w.cell? ⟨b, o + 9, none⟩ = some (.int .i64 t.h2.left)
/-- A transaction in ten cells of a block. -/
def TxAt (w : World) (b o : Nat) (t : Tx) : Prop :=
  ∃ a c a' c' r d, Ten w b o t a c a' c' r d ∧ IsTx w (.agg #[.int .i64 t.seq, .slice a t.info.length c, .slice a' t.data.length c', .slice r t.rev.length d, .bool t.h0.on, .int .i64 t.h0.left, .bool t.h1.on, .int .i64 t.h1.left, .bool t.h2.on, .int .i64 t.h2.left]) t
theorem TxAt.below {w w' : World} {b o : Nat} {t : Tx} (h : TxAt w b o t) (hb : Below w.heap.size w w') (hlt : b < w.heap.size) : TxAt w' b o t := by
  obtain ⟨a, c, a', c', r, d, ⟨h0, h1, h2, h3, h4, h5, h6, h7, h8, h9⟩, hT⟩ := h
  exact ⟨a, c, a', c', r, d, ⟨cellKeep hb hlt h0, cellKeep hb hlt h1, cellKeep hb hlt h2, cellKeep hb hlt h3, cellKeep hb hlt h4, cellKeep hb hlt h5, cellKeep hb hlt h6, cellKeep hb hlt h7, cellKeep hb hlt h8, cellKeep hb hlt h9⟩, hT.below hb⟩
theorem IsTx.rows {w : World} {t : Tx} {q x0 x1 x2 x3 x4 x5 : Value} {a a' r : Option Addr} {n c n' c' m d : Nat} (h : IsTx w (.agg #[q, .slice a n c, .slice a' n' c', .slice r m d, x0, x1, x2, x3, x4, x5]) t) :
    SegW w a t.info ∧ SegW w a' t.data ∧ SegI w r t.rev ∧ t.info.length ≤ maxLen ∧ t.data.length ≤ maxLen ∧ t.rev.length ≤ maxLen := by
  obtain ⟨a2, c2, a3, c3, b2, d2, e, h⟩ := h
  simp only [Value.agg.injEq] at e
  injection e with e
  simp only [List.cons.injEq, Value.slice.injEq, and_true] at e
  obtain ⟨_, ⟨rfl, rfl, rfl⟩, ⟨rfl, rfl, rfl⟩, ⟨rfl, rfl, rfl⟩, _⟩ := e
  exact h
/-- A row of transactions. -/
def SegTx (w : World) (a : Option Addr) (l : List Tx) : Prop :=
  l = [] ∨ ∃ b off, a = some ⟨b, off, none⟩ ∧ b < w.heap.size ∧ ∀ i, i < l.length → TxAt w b (off + i * 10) (l.getD i txz)
theorem SegTx.below {w w' : World} {a : Option Addr} {l : List Tx} (h : SegTx w a l) (hb : Below w.heap.size w w') : SegTx w' a l := by
  rcases h with h | ⟨b, off, rfl, hlt, hc⟩
  · exact .inl h
  · exact .inr ⟨b, off, rfl, Nat.lt_of_lt_of_le hlt hb.size, fun i hi => (hc i hi).below hb hlt⟩
/-- How far the rows of a transaction reach. -/
def Reached (t : Tx) : Prop := t.info.length * 24 ≤ 140737488355328 ∧ t.data.length * 24 ≤ 140737488355328 ∧ t.rev.length * 8 ≤ 140737488355328
theorem tx_at {l : List Tx} {k : Nat} (h : k < l.length) : l[k]? = some (l.getD k txz) := by
  rw [List.getD, List.getElem?_eq_getElem h]; rfl

end Go.Proofs.YtjnpndfpajjihabGreat

namespace Go.Proofs.YtjnpndfpajjihabGreat
open Go.RowKit

/-- A transaction whose rows lie in memory from a block on. -/
def IsTxN (w : World) (base : Nat) (v : Value) (t : Tx) : Prop :=
  ∃ a c a' c' b d, v = .agg #[.int .i64 t.seq, .slice a t.info.length c, .slice a' t.data.length c', .slice b t.rev.length d, .bool t.h0.on, .int .i64 t.h0.left, .bool t.h1.on, .int .i64 t.h1.left, .bool t.h2.on, .int .i64 t.h2.left] ∧
    (SegW w a t.info ∧ SegW w a' t.data ∧ SegI w b t.rev ∧ t.info.length ≤ maxLen ∧ t.data.length ≤ maxLen ∧ t.rev.length ≤ maxLen) ∧
    (∀ x off, a = some ⟨x, off, none⟩ → base ≤ x) ∧ (∀ x off, a' = some ⟨x, off, none⟩ → base ≤ x) ∧ ∀ x off, b = some ⟨x, off, none⟩ → base ≤ x
theorem IsTxN.is {w : World} {base : Nat} {v : Value} {t : Tx} (h : IsTxN w base v t) : IsTx w v t := by
  obtain ⟨a, c, a', c', b, d, rfl, h, _⟩ := h
  exact ⟨a, c, a', c', b, d, rfl, h⟩
end Go.Proofs.YtjnpndfpajjihabGreat

namespace Go.Proofs.YtjnpndfpajjihabGreat
open Go.RowKit

set_option maxHeartbeats 4000000 in
set_option maxRecDepth 100000 in
theorem copyTxn_any (v : Value) (t : Tx) (w : World) (h : IsTx w v t) (r1 : t.info.length * 24 ≤ 140737488355328) (r2 : t.data.length * 24 ≤ 140737488355328) (r3 : t.rev.length * 8 ≤ 140737488355328) :
    Calls Tryz.prog 7 #[v] w fun e w' => ∃ v2, e = .returned v2 ∧ IsTxN w' w.heap.size v2 t ∧ Below w.heap.size w w' := by
  obtain ⟨a, c, a', c', b, d, rfl, hM, hD, hR, n1, n2, n3⟩ := h
  have HM := hide hM
  have HD := hide hD
  have HR := hide hR
  clear hM hD hR
  go_enter Tryz.func7, Tryz.ntmps7
  go_wp2
  go_region_law (first
    | (refine step_copyC rfl _ (.tmp 4) rfl (by simp [Act.eval, Act.put]) a c t.info (by simp [Act.eval, Act.put]) (HM.out.below (bthen (below1 _ _) (below1 _ _)).drew) n1 r1 ?_; intro a2 c2 w2 HS2 hb2; have hs2 : w.heap.size + 1 < w2.heap.size := (by have := hb2.size; simp at this; omega); have hs2' : w.heap.size < w2.heap.size := (by omega); have hk2 := (bthen ((Below.refl _ _).drew) hb2); obtain ⟨⟨x0, x1, x2, x3, x4, x5, x6, x7, x8, x9⟩, ef⟩ := box10 (two1 hk2))
    | (refine step_copyC rfl _ (.tmp 7) rfl (by simp [Act.eval, Act.put]) a' c' t.data (by simp [Act.eval, Act.put]) (HD.out.below (bthen (bthen (below1 _ _) (below1 _ _)).drew hb2)) n2 r2 ?_; intro a3 c3 w3 HS3 hb3; have hs3 : w.heap.size + 1 < w3.heap.size := (by have := hb3.size; omega); have hs3' : w.heap.size < w3.heap.size := (by omega); have hk3 := bthen hk2 hb3; obtain ⟨⟨z0, z1, z2, z3, z4, z5, z6, z7, z8, z9⟩, df⟩ := box10 (two1 hk3))
    | (refine step_copyI rfl _ (.tmp 10) rfl (by simp [Act.eval]) b d t.rev (by simp [Act.eval, Act.put]) (HR.out.below (bthen (bthen (bthen (below1 _ _) (below1 _ _)).drew hb2) hb3)) n3 r3 ?_; intro a4 c4 w4 HS4 hb4; have hs4 : w.heap.size + 1 < w4.heap.size := (by have := hb4.size; omega); have hs4' : w.heap.size < w4.heap.size := (by omega); have hk4 := bthen hk3 hb4; obtain ⟨⟨u0, u1, u2, u3, u4, u5, u6, u7, u8, u9⟩, gf⟩ := box10 (two1 hk4)))
  all_goals
    obtain ⟨⟨y0, y1, y2, y3, y4, y5, y6, y7, y8, y9⟩, ff⟩ := box10 (two2 hk4)
    have HK := hide hk4
    have N2 : Hid (∀ b off, a2 = some ⟨b, off, none⟩ → w.heap.size + 2 ≤ b) := fun b off e => by have := HS2.out.2 b off e; simp at this; omega
    have N3 : Hid (∀ b off, a3 = some ⟨b, off, none⟩ → w.heap.size + 2 ≤ b) := fun b off e => by have := HS3.out.2 b off e; omega
    have N4 : Hid (∀ b off, a4 = some ⟨b, off, none⟩ → w.heap.size + 2 ≤ b) := fun b off e => by have := HS4.out.2 b off e; omega
    have T2 := hide (HS2.out.1.below (bthen hb3 hb4))
    have T3 := hide (HS3.out.1.below hb4)
    have T4 := hide HS4.out.1
    clear hb2 hb3 hb4 hk2 hk3 hk4 HS2 HS3 HS4 x0 x1 x2 x3 x4 x5 x6 x7 x8 x9 z0 z1 z2 z3 z4 z5 z6 z7 z8 z9 ef df
    go_wp2
    refine bodyPost_ret (v := .agg #[.int .i64 t.seq, .slice a2 t.info.length c2, .slice a3 t.data.length c3, .slice a4 t.rev.length c4, .bool t.h0.on, .int .i64 t.h0.left, .bool t.h1.on, .int .i64 t.h1.left, .bool t.h2.on, .int .i64 t.h2.left]) (by simp [results, Tryz.results7, go_sem, y0, y1, y2, y3, y4, y5, y6, y7, y8, y9]) rfl ⟨_, rfl, ⟨a2, c2, a3, c3, a4, c4, rfl, ⟨?_, ?_, ?_, n1, n2, n3⟩, fun b off e => (by have := N2.out b off e; omega), fun b off e => (by have := N3.out b off e; omega), fun b off e => (by have := N4.out b off e; omega)⟩, ?_⟩
    · repeat refine SegW.setNe ?_ (fun b off e => by have := N2.out b off e; simp; omega) _
      exact T2.out
    · repeat refine SegW.setNe ?_ (fun b off e => by have := N3.out b off e; simp; omega) _
      exact T3.out
    · repeat refine SegI.setNe ?_ (fun b off e => by have := N4.out b off e; simp; omega) _
      exact T4.out
    · have hB : Below w.heap.size w w4 := bthen (bthen (below1 _ _) (below1 _ _)) HK.out
      repeat refine Below.setCell ?_ (by simp) _
      exact hB

end Go.Proofs.YtjnpndfpajjihabGreat

namespace Go.Proofs.YtjnpndfpajjihabGreat
open Go.RowKit

theorem owns_room {w : World} {base sz k n c : Nat} {e : TypeId} {a : Option Addr} {xs : List Value} (h : w.ownsRow base e sz (.slice a n c) k xs) : n ≤ c := by
  rcases h.2 with ⟨e, _⟩ | ⟨g, cap, cur, e, _, _, h1, _⟩
  · simp only [Value.slice.injEq] at e; omega
  · simp only [Value.slice.injEq] at e; omega

set_option maxRecDepth 100000 in
theorem step_copyCR {ops : Array Oper} {o : Oper} {a : Act} {w : World} {K : Act → World → Prop} {Q : Exit → Act → World → Prop} {E : Prop} (hgd : o.guard = none) (s x : Operand)
    (ho : o.op = .call { callee := .builtin .append, args := #[s, x], argTypes := #[22, 22] })
    (hs : a.eval s = .slice none 0 0) (ao : Option Addr) (c : Nat) (l : List (Int × ByteArray)) (hx : a.eval x = .slice ao l.length c) (hS : SegW w ao l) (h63 : l.length ≤ maxLen) (hbytes : l.length * 24 ≤ 140737488355328)
    (h : ∀ a2 c2 w', Hid (SegW w' a2 l ∧ ∀ b off, a2 = some ⟨b, off, none⟩ → w.heap.size ≤ b ∧ b < w'.heap.size) → l.length ≤ c2 → Below w.heap.size w w' → K (a.put o.dst (.slice a2 l.length c2)) w') :
    if Region.wanted o (yielded ops a.tmps) = true then Oper.wp Tryz.prog o a w K Q else E := by
  obtain ⟨i0, hi, hz0, hz1, hz2⟩ := info_parts infoC
  refine step_copy hgd s x 22 ho 78 i0 (.agg #[.int .i64 0, .string ⟨#[]⟩]) 2 24 Tryz.underlying22 hi hz0 hz1 hz2 rfl (by decide) hs ao l.length c (cellsC l) hx (cellsC_length l) ?_ ?_ (cellsC_one l) h63 hbytes ?_
  · intro h0
    rcases hS with h | ⟨b, off, he, _⟩
    · rw [h]; rfl
    · rw [h0] at he; cases he
  · intro ad h0 j u hj
    rcases hS with h | ⟨b, off, he, hlt, hc⟩
    · rw [h] at hj; simp [cellsC] at hj
    · rw [h0] at he
      cases he
      rw [Addr.add_lit]
      exact SegC.news hc j u hj
  · intro v' w' hown hb
    obtain ⟨a2, c2, rfl, h2, _⟩ := SegC.of_owns hown
    exact h a2 c2 w' ⟨h2, fun b off e => hown.lt b (by rw [e]; rfl)⟩ (owns_room hown) hb
set_option maxRecDepth 100000 in
theorem step_copyIR {ops : Array Oper} {o : Oper} {a : Act} {w : World} {K : Act → World → Prop} {Q : Exit → Act → World → Prop} {E : Prop} (hgd : o.guard = none) (s x : Operand)
    (ho : o.op = .call { callee := .builtin .append, args := #[s, x], argTypes := #[23, 23] })
    (hs : a.eval s = .slice none 0 0) (ao : Option Addr) (c : Nat) (l : List Int) (hx : a.eval x = .slice ao l.length c) (hS : SegI w ao l) (h63 : l.length ≤ maxLen) (hbytes : l.length * 8 ≤ 140737488355328)
    (h : ∀ a2 c2 w', Hid (SegI w' a2 l ∧ ∀ b off, a2 = some ⟨b, off, none⟩ → w.heap.size ≤ b ∧ b < w'.heap.size) → l.length ≤ c2 → Below w.heap.size w w' → K (a.put o.dst (.slice a2 l.length c2)) w') :
    if Region.wanted o (yielded ops a.tmps) = true then Oper.wp Tryz.prog o a w K Q else E := by
  obtain ⟨i0, hi, hz0, hz1, hz2⟩ := info_parts infoI
  refine step_copy hgd s x 23 ho 3 i0 (.int .i64 0) 1 8 Tryz.underlying23 hi hz0 hz1 hz2 rfl (by decide) hs ao l.length c (cellsI l) hx (cellsI_length l) ?_ ?_ cellsI_one h63 hbytes ?_
  · intro h0
    rcases hS with h | ⟨b, off, he, _⟩
    · rw [h]; rfl
    · rw [h0] at he; cases he
  · intro ad h0 j u hj
    rcases hS with h | ⟨b, off, he, hlt, hc⟩
    · rw [h] at hj; simp [cellsI] at hj
    · rw [h0] at he
      cases he
      rw [Addr.add_lit]
      exact SegI.news hc j u hj
  · intro v' w' hown hb
    obtain ⟨a2, c2, rfl, h2, _⟩ := SegI.of_owns hown
    exact h a2 c2 w' ⟨h2, fun b off e => hown.lt b (by rw [e]; rfl)⟩ (owns_room hown) hb

set_option maxHeartbeats 4000000 in
set_option maxRecDepth 100000 in
theorem copyTxn_room (v : Value) (t : Tx) (w : World) (h : IsTx w v t) (r1 : t.info.length * 24 ≤ 140737488355328) (r2 : t.data.length * 24 ≤ 140737488355328) (r3 : t.rev.length * 8 ≤ 140737488355328) :
    Calls Tryz.prog 7 #[v] w fun e w' => ∃ v2, e = .returned v2 ∧ (IsTxN w' w.heap.size v2 t ∧ RoomTx v2) ∧ Below w.heap.size w w' := by
  obtain ⟨a, c, a', c', b, d, rfl, hM, hD, hR, n1, n2, n3⟩ := h
  have HM := hide hM
  have HD := hide hD
  have HR := hide hR
  clear hM hD hR
  go_enter Tryz.func7, Tryz.ntmps7
  go_wp2
  go_region_law (first
    | (refine step_copyCR rfl _ (.tmp 4) rfl (by simp [Act.eval, Act.put]) a c t.info (by simp [Act.eval, Act.put]) (HM.out.below (bthen (below1 _ _) (below1 _ _)).drew) n1 r1 ?_; intro a2 c2 w2 HS2 hr2 hb2; have HR2 := hide hr2; clear hr2; have hs2 : w.heap.size + 1 < w2.heap.size := (by have := hb2.size; simp at this; omega); have hs2' : w.heap.size < w2.heap.size := (by omega); have hk2 := (bthen ((Below.refl _ _).drew) hb2); obtain ⟨⟨x0, x1, x2, x3, x4, x5, x6, x7, x8, x9⟩, ef⟩ := box10 (two1 hk2))
    | (refine step_copyCR rfl _ (.tmp 7) rfl (by simp [Act.eval, Act.put]) a' c' t.data (by simp [Act.eval, Act.put]) (HD.out.below (bthen (bthen (below1 _ _) (below1 _ _)).drew hb2)) n2 r2 ?_; intro a3 c3 w3 HS3 hr3 hb3; have HR3 := hide hr3; clear hr3; have hs3 : w.heap.size + 1 < w3.heap.size := (by have := hb3.size; omega); have hs3' : w.heap.size < w3.heap.size := (by omega); have hk3 := bthen hk2 hb3; obtain ⟨⟨z0, z1, z2, z3, z4, z5, z6, z7, z8, z9⟩, df⟩ := box10 (two1 hk3))
    | (refine step_copyIR rfl _ (.tmp 10) rfl (by simp [Act.eval]) b d t.rev (by simp [Act.eval, Act.put]) (HR.out.below (bthen (bthen (bthen (below1 _ _) (below1 _ _)).drew hb2) hb3)) n3 r3 ?_; intro a4 c4 w4 HS4 hr4 hb4; have HR4 := hide hr4; clear hr4; have hs4 : w.heap.size + 1 < w4.heap.size := (by have := hb4.size; omega); have hs4' : w.heap.size < w4.heap.size := (by omega); have hk4 := bthen hk3 hb4; obtain ⟨⟨u0, u1, u2, u3, u4, u5, u6, u7, u8, u9⟩, gf⟩ := box10 (two1 hk4)))
  all_goals
    obtain ⟨⟨y0, y1, y2, y3, y4, y5, y6, y7, y8, y9⟩, ff⟩ := box10 (two2 hk4)
    have HK := hide hk4
    have N2 : Hid (∀ b off, a2 = some ⟨b, off, none⟩ → w.heap.size + 2 ≤ b) := fun b off e => by have := HS2.out.2 b off e; simp at this; omega
    have N3 : Hid (∀ b off, a3 = some ⟨b, off, none⟩ → w.heap.size + 2 ≤ b) := fun b off e => by have := HS3.out.2 b off e; omega
    have N4 : Hid (∀ b off, a4 = some ⟨b, off, none⟩ → w.heap.size + 2 ≤ b) := fun b off e => by have := HS4.out.2 b off e; omega
    have T2 := hide (HS2.out.1.below (bthen hb3 hb4))
    have T3 := hide (HS3.out.1.below hb4)
    have T4 := hide HS4.out.1
    clear hb2 hb3 hb4 hk2 hk3 hk4 HS2 HS3 HS4 x0 x1 x2 x3 x4 x5 x6 x7 x8 x9 z0 z1 z2 z3 z4 z5 z6 z7 z8 z9 ef df
    go_wp2
    refine bodyPost_ret (v := .agg #[.int .i64 t.seq, .slice a2 t.info.length c2, .slice a3 t.data.length c3, .slice a4 t.rev.length c4, .bool t.h0.on, .int .i64 t.h0.left, .bool t.h1.on, .int .i64 t.h1.left, .bool t.h2.on, .int .i64 t.h2.left]) (by simp [results, Tryz.results7, go_sem, y0, y1, y2, y3, y4, y5, y6, y7, y8, y9]) rfl ⟨_, rfl, ⟨⟨a2, c2, a3, c3, a4, c4, rfl, ⟨?_, ?_, ?_, n1, n2, n3⟩, fun b off e => (by have := N2.out b off e; omega), fun b off e => (by have := N3.out b off e; omega), fun b off e => (by have := N4.out b off e; omega)⟩, ⟨_, _, _, _, _, _, _, _, _, _, _, _, _, _, _, _, rfl, HR2.out, HR3.out, HR4.out⟩⟩, ?_⟩
    · repeat refine SegW.setNe ?_ (fun b off e => by have := N2.out b off e; simp; omega) _
      exact T2.out
    · repeat refine SegW.setNe ?_ (fun b off e => by have := N3.out b off e; simp; omega) _
      exact T3.out
    · repeat refine SegI.setNe ?_ (fun b off e => by have := N4.out b off e; simp; omega) _
      exact T4.out
    · have hB : Below w.heap.size w w4 := bthen (bthen (below1 _ _) (below1 _ _)) HK.out
      repeat refine Below.setCell ?_ (by simp) _
      exact hB

end Go.Proofs.YtjnpndfpajjihabGreat
