/-
  Rows of numbers and of tags: as the cells of a row of the call's own, copied, and past a store. Nothing of the program is proved here.
  What two new blocks hold behind a call. Nothing of the program is proved here.
  A mark whose rows lie in memory from a block on. Nothing of the program is proved here.
  The walk of the document's own GoodMark: marks whose form is right.
  A block as a copy in the log, and back. Nothing of the program is proved here.
  The walk of the document's own DecodeMark: what is no mark at first sight.
  The walk of the document's own noughts.
  The walk of the document's own DecodeMark: a block of a kind that bears nothing but its number.
-/
import Derived.Test.YtjnpndfpajjihabGreatGrSealWhole4
import Derived.Test.YtjnpndfpajjihabGreatGrSealWhole1
import Derived.Test.YtjnpndfpajjihabGreatGrSealWhole0
import Derived.Deep.QuietTactic
import Derived.BigQuiet
namespace Go.Proofs.YtjnpndfpajjihabGreat
open Go.RowKit

theorem SegT.setNe {w : World} {a : Option Addr} {l : List (Int × Bool)} (h : SegT w a l) {p : Addr} (hb : ∀ b off, a = some ⟨b, off, none⟩ → b ≠ p.block) (u : Value) : SegT (w.setCell p u) a l := by
  rcases h with h | ⟨b, off, rfl, hlt, hc⟩
  · exact .inl h
  · have := hb b off rfl
    exact .inr ⟨b, off, rfl, by simpa [World.setCell] using hlt, fun i hi => ⟨cellSet (hc i hi).1 this, cellSet (hc i hi).2 this⟩⟩

def cellsT : List (Int × Bool) → List Value
  | [] => []
  | x :: r => .int .i64 x.1 :: .bool x.2 :: cellsT r
theorem cellsT_length (l : List (Int × Bool)) : (cellsT l).length = l.length * 2 := by
  induction l with
  | nil => rfl
  | cons x r ih => simp [cellsT, ih]; omega
theorem cellsT_append (l r : List (Int × Bool)) : cellsT (l ++ r) = cellsT l ++ cellsT r := by
  induction l with
  | nil => rfl
  | cons x r ih => simp [cellsT, ih]
theorem cellsT_one (l : List (Int × Bool)) : ∀ u ∈ cellsT l, u.oneCell' = true := by
  induction l with
  | nil => intro u hu; simp [cellsT] at hu
  | cons x r ih =>
    intro u hu
    simp only [cellsT, List.mem_cons] at hu
    rcases hu with rfl | rfl | hu
    · rfl
    · rfl
    · exact ih u hu
theorem cellsT_at (l : List (Int × Bool)) (i : Nat) (h : i < l.length) : (cellsT l)[i * 2]? = some (.int .i64 (l.getD i (0, false)).1) ∧ (cellsT l)[i * 2 + 1]? = some (.bool (l.getD i (0, false)).2) := by
  induction l generalizing i with
  | nil => simp at h
  | cons x r ih =>
    cases i with
    | zero => exact ⟨rfl, rfl⟩
    | succ i =>
      have e1 : (i + 1) * 2 = i * 2 + 1 + 1 := by omega
      have e2 : (i + 1) * 2 + 1 = i * 2 + 1 + 1 + 1 := by omega
      rw [cellsT, e1, List.getElem?_cons_succ, List.getElem?_cons_succ, List.getElem?_cons_succ, List.getElem?_cons_succ]
      simpa using ih i (by simpa using h)
theorem SegT.of_owns {w : World} {base n : Nat} {v : Value} {l : List (Int × Bool)} (h : w.ownsRow base 162 2 v n (cellsT l)) : ∃ a c, v = .slice a l.length c ∧ SegT w a l ∧ ∀ b off, a = some ⟨b, off, none⟩ → base ≤ b := by
  have hn : l.length = n := by have := h.1; rw [cellsT_length] at this; omega
  subst hn
  rcases h.2 with ⟨rfl, h0⟩ | ⟨g, cap, cur, rfl, hb, hg, rest⟩
  · exact ⟨none, 0, by rw [h0], .inl (List.eq_nil_of_length_eq_zero h0), fun _ _ h => by cases h⟩
  · refine ⟨_, cap, rfl, .inr ⟨g, 0, rfl, (Array.getElem?_eq_some_iff.1 hg).1, fun i hi => ?_⟩, fun _ _ h => by cases h; exact hb⟩
    have e := cellsT_at l i hi
    rw [Nat.zero_add, h.cellAt (i * 2) (by omega), h.cellAt (i * 2 + 1) (by omega)]
    exact e
theorem infoT : (Tryz.prog.info? 162).map (fun i => (i.zero, i.size, i.bytes)) = some (some (.agg #[.int .i64 0, .bool false]), 2, 16) := by kernel_rfl

theorem SegT.news {w : World} {b off : Nat} {l : List (Int × Bool)} (hc : ∀ i, i < l.length → w.cell? ⟨b, off + i * 2, none⟩ = some (.int .i64 (l.getD i (0, false)).1) ∧ w.cell? ⟨b, off + i * 2 + 1, none⟩ = some (.bool (l.getD i (0, false)).2)) (j : Nat) (u : Value) (hj : (cellsT l)[j]? = some u) : w.cell? ⟨b, off + j, none⟩ = some u := by
  have hlt : j < l.length * 2 := by
    have := (List.getElem?_eq_some_iff.1 hj).1
    rw [cellsT_length] at this; omega
  obtain ⟨i, hi⟩ : ∃ i, i = j / 2 := ⟨_, rfl⟩
  have hil : i < l.length := by omega
  have e := cellsT_at l i hil
  have g := hc i hil
  by_cases h0 : j % 2 = 0
  · have hj2 : j = i * 2 := by omega
    rw [hj2] at hj ⊢
    rw [e.1] at hj
    cases hj
    exact g.1
  · have hj2 : j = i * 2 + 1 := by omega
    rw [hj2] at hj ⊢
    rw [e.2] at hj
    cases hj
    have : off + (i * 2 + 1) = off + i * 2 + 1 := by omega
    rw [this]
    exact g.2

theorem step_copyT {ops : Array Oper} {o : Oper} {a : Act} {w : World} {K : Act → World → Prop} {Q : Exit → Act → World → Prop} {E : Prop} (hgd : o.guard = none) (s x : Operand)
    (ho : o.op = .call { callee := .builtin .append, args := #[s, x], argTypes := #[101, 101] })
    (hs : a.eval s = .slice none 0 0) (ao : Option Addr) (c : Nat) (l : List (Int × Bool)) (hx : a.eval x = .slice ao l.length c) (hS : SegT w ao l) (h63 : l.length ≤ maxLen) (hbytes : l.length * 16 ≤ 140737488355328)
    (h : ∀ a2 c2 w', Hid (SegT w' a2 l ∧ ∀ b off, a2 = some ⟨b, off, none⟩ → w.heap.size ≤ b ∧ b < w'.heap.size) → Below w.heap.size w w' → K (a.put o.dst (.slice a2 l.length c2)) w') :
    if Region.wanted o (yielded ops a.tmps) = true then Oper.wp Tryz.prog o a w K Q else E := by
  obtain ⟨i0, hi, hz0, hz1, hz2⟩ := info_parts infoT
  refine step_copy hgd s x 101 ho 162 i0 (.agg #[.int .i64 0, .bool false]) 2 16 Tryz.underlying101 hi hz0 hz1 hz2 rfl (by decide) hs ao l.length c (cellsT l) hx (cellsT_length l) ?_ ?_ (cellsT_one l) h63 hbytes ?_
  · intro h0
    rcases hS with h | ⟨b, off, he, _⟩
    · rw [h]; rfl
    · rw [h0] at he; cases he
  · intro ad h0 j u hj
    rcases hS with h | ⟨b, off, he, hlt, hc⟩
    · rw [h] at hj; simp [cellsT] at hj
    · rw [h0] at he
      cases he
      rw [Addr.add_lit]
      exact SegT.news hc j u hj
  · intro v' w' hown hb
    obtain ⟨a2, c2, rfl, h2, _⟩ := SegT.of_owns hown
    exact h a2 c2 w' ⟨h2, fun b off e => hown.lt b (by rw [e]; rfl)⟩ hb

end Go.Proofs.YtjnpndfpajjihabGreat

namespace Go.Proofs.YtjnpndfpajjihabGreat
open Go.RowKit

/-- Blocks made first and second stay under what makes memory alone. -/
theorem keep1 {w w' : World} {o o2 : Obj} (hb : Below ((w.alloc o).alloc o2).heap.size ((w.alloc o).alloc o2) w') : w'.heap[w.heap.size]? = some o :=
  (hb.block _ (by simp; omega)).trans ((Below.heap_alloc _ _ _ (by simp)).trans (heap_alloc_new w o))
theorem keep2 {w w' : World} {o o2 : Obj} (hb : Below ((w.alloc o).alloc o2).heap.size ((w.alloc o).alloc o2) w') : w'.heap[w.heap.size + 1]? = some o2 := by
  have := heap_alloc_new (w.alloc o) o2
  simp at this
  exact (hb.block _ (by simp)).trans (by simpa using this)

end Go.Proofs.YtjnpndfpajjihabGreat

namespace Go.Proofs.YtjnpndfpajjihabGreat
open Go.RowKit

/-- A mark whose rows lie in memory from a block on. -/
def IsMkN (w : World) (base : Nat) (v : Value) (m : Mk) : Prop :=
  ∃ a c a' c', v = .agg #[.int .i64 m.kind, .int .i64 m.seq, .int .i64 m.pos, .slice a m.tags.length c, .slice a' m.blocks.length c'] ∧ SegT w a m.tags ∧ SegI w a' m.blocks ∧ m.tags.length ≤ maxLen ∧ m.blocks.length ≤ maxLen ∧
    (∀ b off, a = some ⟨b, off, none⟩ → base ≤ b) ∧ ∀ b off, a' = some ⟨b, off, none⟩ → base ≤ b
theorem IsMkN.is {w : World} {base : Nat} {v : Value} {m : Mk} (h : IsMkN w base v m) : IsMk w v m := by
  obtain ⟨a, c, a', c', rfl, h1, h2, h3, h4, _⟩ := h
  exact ⟨a, c, a', c', rfl, h1, h2, h3, h4⟩

end Go.Proofs.YtjnpndfpajjihabGreat

namespace Go.Proofs.YtjnpndfpajjihabGreat
open Go.RowKit

/-- The numbers of the first tags. -/
def tagNums (l : List (Int × Bool)) (k : Nat) : List Int := (l.take k).map (·.1)

/-- What Good answers of a descriptor whose form is right. -/
def tagsE (l : List (Int × Bool)) : Int := if (l.length < 1 ∨ 10 < l.length) ∨ rises (l.map (·.1)) = false then 2 else 0
end Go.Proofs.YtjnpndfpajjihabGreat

namespace Go.Proofs.YtjnpndfpajjihabGreat
open Go.RowKit

/-- Does a text begin with Magic? What Escape and Unescape make of it. -/
def isMagic (s : ByteArray) : Bool := if 4 ≤ s.size then ((s.extract 0 4).toList == [87, 66, 75, 49]) else false
def escT (s : ByteArray) : ByteArray := if isMagic s then (⟨#[0, 0, 0, 0]⟩ : ByteArray) ++ s.extract 4 s.size else s
def unescT (s : ByteArray) (e : Bool) : ByteArray := if e = false ∨ s.size < 4 then s else (⟨#[87, 66, 75, 49]⟩ : ByteArray) ++ s.extract 4 s.size

end Go.Proofs.YtjnpndfpajjihabGreat

namespace Go.Proofs.YtjnpndfpajjihabGreat
open Go.RowKit

/-- A mark of which nothing is said. -/
def zeroM : Mk := ⟨0, 0, 0, [], []⟩
theorem isZero (w : World) : IsMk w (.agg #[.int .i64 0, .int .i64 0, .int .i64 0, .slice none 0 0, .slice none 0 0]) zeroM := ⟨none, 0, none, 0, rfl, .inl rfl, .inl rfl, Nat.zero_le _, Nat.zero_le _⟩
theorem isZeroN (w : World) (base : Nat) : IsMkN w base (.agg #[.int .i64 0, .int .i64 0, .int .i64 0, .slice none 0 0, .slice none 0 0]) zeroM := ⟨none, 0, none, 0, rfl, .inl rfl, .inl rfl, Nat.zero_le _, Nat.zero_le _, fun _ _ h => (by cases h), fun _ _ h => (by cases h)⟩

/-- The block made first stays under what makes memory alone. -/
theorem keep0 {w w' : World} {o : Obj} (hb : Below (w.alloc o).heap.size (w.alloc o) w') : w'.heap[w.heap.size]? = some o :=
  (hb.block _ (by simp)).trans (heap_alloc_new w o)
end Go.Proofs.YtjnpndfpajjihabGreat

namespace Go.Proofs.YtjnpndfpajjihabGreat
open Go.RowKit

/-- Are all bytes from a place on noughts? -/
def zeroFrom (s : ByteArray) (k : Nat) : Bool := (s.data.toList.drop k).all (· == 0)

theorem zero_yes (s : ByteArray) (k : Nat) (h : k < s.size) (hz : s[k] = 0) : zeroFrom s k = zeroFrom s (k + 1) := by
  have e : s.data.toList.drop k = s[k] :: s.data.toList.drop (k + 1) := by rw [List.drop_eq_getElem_cons (by simpa using h)]; rfl
  rw [zeroFrom, e, List.all_cons, hz]; rfl
theorem zero_no (s : ByteArray) (k : Nat) (h : k < s.size) (hz : ¬ s[k] = 0) : zeroFrom s k = false := by
  have e : s.data.toList.drop k = s[k] :: s.data.toList.drop (k + 1) := by rw [List.drop_eq_getElem_cons (by simpa using h)]; rfl
  rw [zeroFrom, e, List.all_cons]
  simp [hz]
theorem zero_end (s : ByteArray) (k : Nat) (h : s.size ≤ k) : zeroFrom s k = true := by
  have hl : s.data.toList.length = s.size := rfl
  rw [zeroFrom, List.drop_eq_nil_of_le (by omega)]; rfl
end Go.Proofs.YtjnpndfpajjihabGreat

namespace Go.Proofs.YtjnpndfpajjihabGreat
open Go.RowKit

/-- The byte at a place, as a number; the Seq that stands in a block. -/
def at8 (s : ByteArray) (k : Nat) : Int := ((s.get! k).toNat : Int)
def seqOf (s : ByteArray) : Nat → Int
  | 0 => 0
  | k + 1 => 256 * seqOf s k + at8 s (k + 5)
theorem at8_of (s : ByteArray) (k : Nat) (h : k < s.size) : ((s[k]'h).toNat : Int) = at8 s k := by
  unfold at8
  congr 2
  exact (getElem!_pos s.data k h).symm
theorem at8_in (s : ByteArray) (k : Nat) : 0 ≤ at8 s k ∧ at8 s k ≤ 255 := by
  unfold at8
  have := (s.get! k).toNat_lt
  omega
theorem seqOf_in (s : ByteArray) (k : Nat) (h : k ≤ 4) : 0 ≤ seqOf s k ∧ seqOf s k < 256 ^ k := by
  induction k with
  | zero => exact ⟨Int.le_refl _, by show (0 : Int) < 1; decide⟩
  | succ k ih =>
    have := ih (by omega)
    have := at8_in s (k + 5)
    rw [seqOf, Int.pow_succ]
    omega
theorem seqOf_lt (s : ByteArray) (k : Nat) (h : k ≤ 4) : 0 ≤ seqOf s k ∧ seqOf s k ≤ 4294967295 := by
  have h1 := seqOf_in s k h
  have : (256 : Int) ^ k ≤ 256 ^ 4 := by
    match k, h with
    | 0, _ => decide
    | 1, _ => decide
    | 2, _ => decide
    | 3, _ => decide
    | 4, _ => decide
  omega
theorem wrap_at8 (s : ByteArray) (k : Nat) : wrap64 (at8 s k) = at8 s k := by
  have := at8_in s k
  unfold wrap64
  omega

theorem new2 (w : World) (o o2 : Obj) : ((w.alloc o).alloc o2).heap[w.heap.size + 1]? = some o2 := by
  have := heap_alloc_new (w.alloc o) o2
  simpa using this
theorem keepR {w w' : World} {o : Obj} (hb : Below (w.heap.size + 1) (w.alloc o) w') : w'.heap[w.heap.size]? = some o :=
  (hb.block _ (by omega)).trans (heap_alloc_new w o)

/-- What Decode answers of a mark that was read, where what stands behind it is all noughts, or is not. -/
def decOf (m : Mk) (z : Bool) : Mk × Int := if goodM m = 0 ∧ z = true then (m, 0) else (zeroM, 1)
theorem decOf_bad {m : Mk} (z : Bool) (h : ¬ goodM m = 0) : decOf m z = (zeroM, 1) := if_neg fun e => h e.1
theorem decOf_behind (m : Mk) {z : Bool} (h : z = false) : decOf m z = (zeroM, 1) := if_neg fun e => by rw [h] at e; exact absurd e.2 (by decide)
theorem decOf_good {m : Mk} {z : Bool} (h : goodM m = 0) (hz : z = true) : decOf m z = (m, 0) := if_pos ⟨h, hz⟩
end Go.Proofs.YtjnpndfpajjihabGreat
