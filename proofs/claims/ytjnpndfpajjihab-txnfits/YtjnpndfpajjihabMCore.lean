/-
  What a mark is, as plain data, and how it lies in memory. Nothing of the program is proved here.
-/
import Derived.Test.YtjnpndfpajjihabBase
namespace Go.Proofs.Ytjnpndfpajjihab
open Go.RowKit

/-- A mark as plain data. -/
structure Mk where
  kind : Int
  seq : Int
  pos : Int
  tags : List (Int × Bool)
  blocks : List Int

/-- A row of numbers at an address; a row of tags: two cells each. -/
def SegI (w : World) (a : Option Addr) (l : List Int) : Prop :=
  l = [] ∨ ∃ b off, a = some ⟨b, off, none⟩ ∧ b < w.heap.size ∧ ∀ i, i < l.length → w.cell? ⟨b, off + i, none⟩ = some (.int .i64 (l.getD i 0))
def SegT (w : World) (a : Option Addr) (l : List (Int × Bool)) : Prop :=
  l = [] ∨ ∃ b off, a = some ⟨b, off, none⟩ ∧ b < w.heap.size ∧ ∀ i, i < l.length →
    w.cell? ⟨b, off + i * 2, none⟩ = some (.int .i64 (l.getD i (0, false)).1) ∧ w.cell? ⟨b, off + i * 2 + 1, none⟩ = some (.bool (l.getD i (0, false)).2)

/-- A value that is a mark, in a world. -/
def IsMk (w : World) (v : Value) (m : Mk) : Prop :=
  ∃ a c a' c', v = .agg #[.int .i64 m.kind, .int .i64 m.seq, .int .i64 m.pos, .slice a m.tags.length c, .slice a' m.blocks.length c'] ∧ SegT w a m.tags ∧ SegI w a' m.blocks ∧ m.tags.length ≤ maxLen ∧ m.blocks.length ≤ maxLen

theorem SegI.below {w w' : World} {a : Option Addr} {l : List Int} (h : SegI w a l) (hb : Below w.heap.size w w') : SegI w' a l := by
  rcases h with h | ⟨b, off, rfl, hlt, hc⟩
  · exact .inl h
  · exact .inr ⟨b, off, rfl, Nat.lt_of_lt_of_le hlt hb.size, fun i hi => cellKeep hb hlt (hc i hi)⟩
theorem SegT.below {w w' : World} {a : Option Addr} {l : List (Int × Bool)} (h : SegT w a l) (hb : Below w.heap.size w w') : SegT w' a l := by
  rcases h with h | ⟨b, off, rfl, hlt, hc⟩
  · exact .inl h
  · exact .inr ⟨b, off, rfl, Nat.lt_of_lt_of_le hlt hb.size, fun i hi => ⟨cellKeep hb hlt (hc i hi).1, cellKeep hb hlt (hc i hi).2⟩⟩
theorem IsMk.below {w w' : World} {v : Value} {m : Mk} (h : IsMk w v m) (hb : Below w.heap.size w w') : IsMk w' v m := by
  obtain ⟨a, c, a', c', rfl, hs, hw, h1, h2⟩ := h
  exact ⟨a, c, a', c', rfl, hs.below hb, hw.below hb, h1, h2⟩

theorem getD_at {α : Type} (l : List α) (k : Nat) (z : α) (h : k < l.length) : l[k]? = some (l.getD k z) := by
  rw [List.getElem?_eq_getElem h, List.getD, List.getElem?_eq_getElem h]; rfl

/-- Do numbers rise, each a block, from behind one on? -/
def risesFrom : Int → List Int → Bool
  | _, [] => true
  | q, b :: r => if b ≤ q ∨ 11 < b then false else risesFrom b r
def rises (l : List Int) : Bool := risesFrom (-1) l
/-- The last of numbers, else another. -/
def lastNum (q : Int) : List Int → Int
  | [] => q
  | b :: r => lastNum b r

theorem lastNum_snoc (q : Int) (l : List Int) (b : Int) : lastNum q (l ++ [b]) = b := by
  induction l generalizing q with
  | nil => rfl
  | cons x r ih => exact ih x
theorem rises_snoc (q : Int) (l : List Int) (b : Int) : risesFrom q (l ++ [b]) = (risesFrom q l && !decide (b ≤ lastNum q l ∨ 11 < b)) := by
  induction l generalizing q with
  | nil => by_cases h : b ≤ q ∨ 11 < b <;> simp [risesFrom, lastNum, h]
  | cons x r ih =>
    by_cases h : x ≤ q ∨ 11 < x
    · simp [risesFrom, h]
    · simp only [List.cons_append, risesFrom, if_neg h, lastNum]
      exact ih x
theorem rises_no (q : Int) (l : List Int) (k : Nat) (h : risesFrom q (l.take k) = false) : risesFrom q l = false := by
  induction l generalizing q k with
  | nil => simp at h; exact h
  | cons x r ih =>
    cases k with
    | zero => simp [risesFrom] at h
    | succ k =>
      rw [List.take_succ_cons] at h
      by_cases e : x ≤ q ∨ 11 < x
      · simp [risesFrom, e]
      · simp only [risesFrom, if_neg e] at h ⊢
        exact ih x k h

/-- What Good answers. -/
def goodM (m : Mk) : Int :=
  if m.kind < 1 ∨ 4 < m.kind then 3
  else if m.seq < 1 ∨ 2147483647 < m.seq ∨ m.pos < 0 ∨ 23 < m.pos then 2
  else if (m.kind ≠ 1 ∧ m.pos ≠ 0) ∨ (m.kind ≠ 2 ∧ m.tags ≠ []) ∨ (m.kind ≠ 3 ∧ m.blocks ≠ []) then 1
  else if (m.kind = 2 ∧ (m.tags.length < 1 ∨ 10 < m.tags.length)) ∨ (m.kind = 3 ∧ (m.blocks.length < 1 ∨ 20 < m.blocks.length)) ∨ rises (m.tags.map (·.1)) = false ∨ rises m.blocks = false then 2
  else 0

end Go.Proofs.Ytjnpndfpajjihab
