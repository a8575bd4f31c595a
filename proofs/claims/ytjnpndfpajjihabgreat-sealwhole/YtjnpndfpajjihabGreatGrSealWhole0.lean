/-
  Small laws on worlds that all walks use: what stays when only new memory is made. Nothing of the program is proved here.
  What a disk is, as plain data, and how it lies in memory: the words that the walks of package disk speak. Nothing of the program is proved here.
  What a mark is, as plain data, and how it lies in memory. Nothing of the program is proved here.
  Numbers and copies looked for in lists. Nothing of the program is proved here.
-/
import Derived.Test.YtjnpndfpajjihabGreatProg
import Derived.WalkKit
import Derived.WalkSpells
import Derived.WalkLawsBesides
import Derived.Deep.QuietTactic
import Derived.BigQuiet
namespace Go.Proofs.YtjnpndfpajjihabGreat
open Go.RowKit

theorem hide {p : Prop} (h : p) : Hid p := h

theorem cellKeep {w w' : World} (hb : Below w.heap.size w w') {b o : Nat} {v : Value} (hlt : b < w.heap.size) (hc : w.cell? ⟨b, o, none⟩ = some v) : w'.cell? ⟨b, o, none⟩ = some v :=
  (hb.cell (p := ⟨b, o, none⟩) hlt).trans hc

theorem frozKeep {w w' : World} (hb : Below w.heap.size w w') {b o : Nat} {v : Bool} (hlt : b < w.heap.size) (hc : w.frozen? ⟨b, o, none⟩ = v) : w'.frozen? ⟨b, o, none⟩ = v :=
  (hb.frozen (p := ⟨b, o, none⟩) hlt).trans hc

theorem bcell {W w1 : World} (hb : Below W.heap.size W w1) : (∀ b o, b < W.heap.size → w1.cell? ⟨b, o, none⟩ = W.cell? ⟨b, o, none⟩) ∧ (∀ b o, b < W.heap.size → w1.frozen? ⟨b, o, none⟩ = W.frozen? ⟨b, o, none⟩) :=
  ⟨fun b o h => hb.cell (p := ⟨b, o, none⟩) h, fun b o h => hb.frozen (p := ⟨b, o, none⟩) h⟩

theorem below1 (w : World) (o : Obj) : Below w.heap.size w (w.alloc o) := (Below.refl _ _).alloc (Nat.le_refl _) _

theorem bthen {a b c : World} (h : Below a.heap.size a b) (k : Below b.heap.size b c) : Below a.heap.size a c := h.trans (k.mono h.size)

theorem owns_keep {w w' : World} {base : Nat} {e : TypeId} {size : Nat} {v : Value} {n : Nat} {xs : List Value} (h : w.ownsRow base e size v n xs) (hb : Below w.heap.size w w') : w'.ownsRow base e size v n xs := by
  refine ⟨h.1, ?_⟩
  rcases h.2 with h0 | ⟨g, cap, cur, hv, hg, hh, r⟩
  · exact .inl h0
  · exact .inr ⟨g, cap, cur, hv, hg, by rw [hb.block g (Array.getElem?_eq_some_iff.1 hh).1]; exact hh, r⟩

theorem owns_base {w : World} {b b' : Nat} {e : TypeId} {size : Nat} {v : Value} {n : Nat} {xs : List Value} (h : w.ownsRow b e size v n xs) (hb : b' ≤ b) : w.ownsRow b' e size v n xs := by
  refine ⟨h.1, ?_⟩
  rcases h.2 with h0 | ⟨g, cap, cur, hv, hg, r⟩
  · exact .inl h0
  · exact .inr ⟨g, cap, cur, hv, by omega, r⟩

theorem cellSet {w : World} {b o : Nat} {v : Value} {p : Addr} {u : Value} (h : w.cell? ⟨b, o, none⟩ = some v) (hne : b ≠ p.block) : (w.setCell p u).cell? ⟨b, o, none⟩ = some v :=
  (World.cell?_of_block (w := w) (a := ⟨b, o, none⟩) (Below.heap_setCell _ _ _ _ hne)).trans h
theorem frozSet {w : World} {b o : Nat} {v : Bool} {p : Addr} {u : Value} (h : w.frozen? ⟨b, o, none⟩ = v) (hne : b ≠ p.block) : (w.setCell p u).frozen? ⟨b, o, none⟩ = v :=
  (World.frozen?_of_block (w := w) (a := ⟨b, o, none⟩) (Below.heap_setCell _ _ _ _ hne)).trans h

/-- A row of the call's own is no block of another type. -/
theorem owns_ne {w : World} {base : Nat} {e e' : TypeId} {size : Nat} {v : Value} {n : Nat} {xs : List Value} (h : w.ownsRow base e size v n xs) {B : Nat} {cs : Array Value} (hB : w.heap[B]? = some (.cells cs e' (0, 0))) (hne : e ≠ e') :
    ∀ k, v.ownBlock = some k → k ≠ B := by
  intro k hk e0
  subst e0
  rcases h.2 with ⟨rfl, _⟩ | ⟨g, cap, cur, rfl, hb, hg, _⟩
  · simp [Value.ownBlock] at hk
  · simp [Value.ownBlock] at hk
    subst hk
    rw [hB] at hg
    simp only [Option.some.injEq, Obj.cells.injEq] at hg
    exact hne hg.2.1.symm


end Go.Proofs.YtjnpndfpajjihabGreat

namespace Go.Proofs.YtjnpndfpajjihabGreat
open Go.RowKit

/-- A disk as plain data: the safe texts, and the writes (place, text). -/
structure Dk where
  safe : List ByteArray
  wr : List (Int × ByteArray)

/-- A row of texts at an address. -/
def SegS (w : World) (a : Option Addr) (ss : List ByteArray) : Prop :=
  ss = [] ∨ ∃ b off, a = some ⟨b, off, none⟩ ∧ b < w.heap.size ∧ ∀ i, i < ss.length → w.cell? ⟨b, off + i, none⟩ = some (.string (ss.getD i ByteArray.empty))

/-- A row of writes at an address: two cells each. -/
def SegW (w : World) (a : Option Addr) (ws : List (Int × ByteArray)) : Prop :=
  ws = [] ∨ ∃ b off, a = some ⟨b, off, none⟩ ∧ b < w.heap.size ∧ ∀ i, i < ws.length →
    w.cell? ⟨b, off + i * 2, none⟩ = some (.int .i64 (ws.getD i (0, ByteArray.empty)).1) ∧ w.cell? ⟨b, off + i * 2 + 1, none⟩ = some (.string (ws.getD i (0, ByteArray.empty)).2)

/-- A value that is a disk, in a world. -/
def IsDk (w : World) (v : Value) (d : Dk) : Prop :=
  ∃ a c a' c', v = .agg #[.slice a d.safe.length c, .slice a' d.wr.length c'] ∧ SegS w a d.safe ∧ SegW w a' d.wr ∧ d.safe.length ≤ maxLen ∧ d.wr.length ≤ maxLen

theorem SegS.below {w w' : World} {a : Option Addr} {ss : List ByteArray} (h : SegS w a ss) (hb : Below w.heap.size w w') : SegS w' a ss := by
  rcases h with h | ⟨b, off, rfl, hlt, hc⟩
  · exact .inl h
  · exact .inr ⟨b, off, rfl, Nat.lt_of_lt_of_le hlt hb.size, fun i hi => (hb.cell (p := ⟨b, off + i, none⟩) hlt).trans (hc i hi)⟩

theorem SegW.below {w w' : World} {a : Option Addr} {ws : List (Int × ByteArray)} (h : SegW w a ws) (hb : Below w.heap.size w w') : SegW w' a ws := by
  rcases h with h | ⟨b, off, rfl, hlt, hc⟩
  · exact .inl h
  · exact .inr ⟨b, off, rfl, Nat.lt_of_lt_of_le hlt hb.size, fun i hi =>
      ⟨(hb.cell (p := ⟨b, off + i * 2, none⟩) hlt).trans (hc i hi).1, (hb.cell (p := ⟨b, off + i * 2 + 1, none⟩) hlt).trans (hc i hi).2⟩⟩

theorem SegS.setCell {w : World} {a : Option Addr} {ss : List ByteArray} {base : Nat} (h : SegS w a ss) (hb : ∀ b off, a = some ⟨b, off, none⟩ → base ≤ b) {p : Addr} (hp : p.block < base) (u : Value) : SegS (w.setCell p u) a ss := by
  rcases h with h | ⟨b, off, rfl, hlt, hc⟩
  · exact .inl h
  · have := hb b off rfl
    exact .inr ⟨b, off, rfl, by simpa [World.setCell] using hlt, fun i hi => (World.cell?_of_block (w := w) (a := ⟨b, off + i, none⟩) (Below.heap_setCell _ _ _ _ (by simp; omega))).trans (hc i hi)⟩

theorem SegW.setCell {w : World} {a : Option Addr} {ws : List (Int × ByteArray)} {base : Nat} (h : SegW w a ws) (hb : ∀ b off, a = some ⟨b, off, none⟩ → base ≤ b) {p : Addr} (hp : p.block < base) (u : Value) : SegW (w.setCell p u) a ws := by
  rcases h with h | ⟨b, off, rfl, hlt, hc⟩
  · exact .inl h
  · have := hb b off rfl
    exact .inr ⟨b, off, rfl, by simpa [World.setCell] using hlt, fun i hi =>
      ⟨(World.cell?_of_block (w := w) (a := ⟨b, off + i * 2, none⟩) (Below.heap_setCell _ _ _ _ (by simp; omega))).trans (hc i hi).1,
        (World.cell?_of_block (w := w) (a := ⟨b, off + i * 2 + 1, none⟩) (Below.heap_setCell _ _ _ _ (by simp; omega))).trans (hc i hi).2⟩⟩

theorem IsDk.below {w w' : World} {v : Value} {d : Dk} (h : IsDk w v d) (hb : Below w.heap.size w w') : IsDk w' v d := by
  obtain ⟨a, c, a', c', rfl, hs, hw, h1, h2⟩ := h
  exact ⟨a, c, a', c', rfl, hs.below hb, hw.below hb, h1, h2⟩

/-- Is it a place? -/
def placeB (n : Int) : Bool := decide (0 ≤ n) && decide (n < 37)
/-- Has a text the size of a block? -/
def fitsB (s : ByteArray) : Bool := (s.size : Int) == 32
/-- Is a write to a place, of a block? -/
def wrB (x : Int × ByteArray) : Bool := placeB x.1 && fitsB x.2
/-- Is it a disk? -/
def goodB (d : Dk) : Bool := decide (d.safe.length = 37) && decide (d.wr.length ≤ 200) && d.safe.all fitsB && d.wr.all wrB
/-- The text of the last of these writes to a place; else another. -/
def lastIn (n : Int) (dflt : ByteArray) : List (Int × ByteArray) → ByteArray
  | [] => dflt
  | x :: r => lastIn n (if x.1 = n then x.2 else dflt) r
/-- A block as it is. -/
def lastOf (d : Dk) (n : Int) : ByteArray := lastIn n (d.safe.getD n.toNat ByteArray.empty) d.wr

end Go.Proofs.YtjnpndfpajjihabGreat

namespace Go.Proofs.YtjnpndfpajjihabGreat
open Go.RowKit

/-- A mark as plain data. -/
structure Mk where
  kind : Int
  seq : Int
  pos : Int
  tags : List (Int × Bool)
  blocks : List Int

/-- A row of numbers at an address; a row of tags: two cells each. -/
def SegI (w : World) (a : Option Addr) (l : List Int) : Prop :=
  l = [] ∨ ∃ b off, a = some ⟨b, off, none⟩ ∧ b < w.heap.size ∧ ∀ i, i < l.length → w.cell? ⟨b, off + i, none⟩ = some (.int .i64 (l.getD i 0))
def SegT (w : World) (a : Option Addr) (l : List (Int × Bool)) : Prop :=
  l = [] ∨ ∃ b off, a = some ⟨b, off, none⟩ ∧ b < w.heap.size ∧ ∀ i, i < l.length →
    w.cell? ⟨b, off + i * 2, none⟩ = some (.int .i64 (l.getD i (0, false)).1) ∧ w.cell? ⟨b, off + i * 2 + 1, none⟩ = some (.bool (l.getD i (0, false)).2)

/-- A value that is a mark, in a world. -/
def IsMk (w : World) (v : Value) (m : Mk) : Prop :=
  ∃ a c a' c', v = .agg #[.int .i64 m.kind, .int .i64 m.seq, .int .i64 m.pos, .slice a m.tags.length c, .slice a' m.blocks.length c'] ∧ SegT w a m.tags ∧ SegI w a' m.blocks ∧ m.tags.length ≤ maxLen ∧ m.blocks.length ≤ maxLen

theorem SegI.below {w w' : World} {a : Option Addr} {l : List Int} (h : SegI w a l) (hb : Below w.heap.size w w') : SegI w' a l := by
  rcases h with h | ⟨b, off, rfl, hlt, hc⟩
  · exact .inl h
  · exact .inr ⟨b, off, rfl, Nat.lt_of_lt_of_le hlt hb.size, fun i hi => cellKeep hb hlt (hc i hi)⟩
theorem SegT.below {w w' : World} {a : Option Addr} {l : List (Int × Bool)} (h : SegT w a l) (hb : Below w.heap.size w w') : SegT w' a l := by
  rcases h with h | ⟨b, off, rfl, hlt, hc⟩
  · exact .inl h
  · exact .inr ⟨b, off, rfl, Nat.lt_of_lt_of_le hlt hb.size, fun i hi => ⟨cellKeep hb hlt (hc i hi).1, cellKeep hb hlt (hc i hi).2⟩⟩
theorem IsMk.below {w w' : World} {v : Value} {m : Mk} (h : IsMk w v m) (hb : Below w.heap.size w w') : IsMk w' v m := by
  obtain ⟨a, c, a', c', rfl, hs, hw, h1, h2⟩ := h
  exact ⟨a, c, a', c', rfl, hs.below hb, hw.below hb, h1, h2⟩

theorem getD_at {α : Type} (l : List α) (k : Nat) (z : α) (h : k < l.length) : l[k]? = some (l.getD k z) := by
  rw [List.getElem?_eq_getElem h, List.getD, List.getElem?_eq_getElem h]; rfl

/-- Do numbers rise, each a block, from behind one on? -/
def risesFrom : Int → List Int → Bool
  | _, [] => true
  | q, b :: r => if b ≤ q ∨ 11 < b then false else risesFrom b r
def rises (l : List Int) : Bool := risesFrom (-1) l
/-- The last of numbers, else another. -/
def lastNum (q : Int) : List Int → Int
  | [] => q
  | b :: r => lastNum b r

theorem lastNum_snoc (q : Int) (l : List Int) (b : Int) : lastNum q (l ++ [b]) = b := by
  induction l generalizing q with
  | nil => rfl
  | cons x r ih => exact ih x
theorem rises_snoc (q : Int) (l : List Int) (b : Int) : risesFrom q (l ++ [b]) = (risesFrom q l && !decide (b ≤ lastNum q l ∨ 11 < b)) := by
  induction l generalizing q with
  | nil => by_cases h : b ≤ q ∨ 11 < b <;> simp [risesFrom, lastNum, h]
  | cons x r ih =>
    by_cases h : x ≤ q ∨ 11 < x
    · simp [risesFrom, h]
    · simp only [List.cons_append, risesFrom, if_neg h, lastNum]
      exact ih x
theorem rises_no (q : Int) (l : List Int) (k : Nat) (h : risesFrom q (l.take k) = false) : risesFrom q l = false := by
  induction l generalizing q k with
  | nil => simp at h; exact h
  | cons x r ih =>
    cases k with
    | zero => simp [risesFrom] at h
    | succ k =>
      rw [List.take_succ_cons] at h
      by_cases e : x ≤ q ∨ 11 < x
      · simp [risesFrom, e]
      · simp only [risesFrom, if_neg e] at h ⊢
        exact ih x k h

/-- What Good answers. -/
def goodM (m : Mk) : Int :=
  if m.kind < 1 ∨ 4 < m.kind then 3
  else if m.seq < 1 ∨ 2147483647 < m.seq ∨ m.pos < 0 ∨ 23 < m.pos then 2
  else if (m.kind ≠ 1 ∧ m.pos ≠ 0) ∨ (m.kind ≠ 2 ∧ m.tags ≠ []) ∨ (m.kind ≠ 3 ∧ m.blocks ≠ []) then 1
  else if (m.kind = 2 ∧ (m.tags.length < 1 ∨ 10 < m.tags.length)) ∨ (m.kind = 3 ∧ (m.blocks.length < 1 ∨ 20 < m.blocks.length)) ∨ rises (m.tags.map (·.1)) = false ∨ rises m.blocks = false then 2
  else 0

end Go.Proofs.YtjnpndfpajjihabGreat

namespace Go.Proofs.YtjnpndfpajjihabGreat
open Go.RowKit

/-- Is a number among others? -/
def amongB (l : List Int) (b : Int) : Bool := l.any (· == b)
/-- The text of the first copy of a block. -/
def textIn (b : Int) : List (Int × ByteArray) → Option ByteArray
  | [] => none
  | x :: r => if x.1 = b then some x.2 else textIn b r
theorem any_hit {α : Type} {l : List α} {k : Nat} {x : α} {p : α → Bool} (h : l[k]? = some x) (hp : p x = true) : l.any p = true :=
  List.any_eq_true.2 ⟨x, List.mem_of_getElem? h, hp⟩
theorem any_miss {α : Type} {l : List α} {k : Nat} {x : α} {p : α → Bool} (h : l[k]? = some x) (hp : p x = false) (ht : (l.take k).any p = false) : (l.take (k + 1)).any p = false := by
  rw [List.take_add_one, h, List.any_append, ht]; simp [hp]
theorem text_hit {l : List (Int × ByteArray)} {k : Nat} {x : Int × ByteArray} {b : Int} (h : l[k]? = some x) (hp : x.1 = b) (ht : textIn b (l.take k) = none) : textIn b l = some x.2 := by
  induction l generalizing k with
  | nil => simp at h
  | cons y r ih =>
    cases k with
    | zero => simp at h; subst h; simp [textIn, hp]
    | succ k =>
      rw [List.take_succ_cons, textIn] at ht
      by_cases e : y.1 = b
      · rw [if_pos e] at ht; cases ht
      · rw [if_neg e] at ht
        rw [textIn, if_neg e]
        exact ih (by simpa using h) ht
theorem text_miss {l : List (Int × ByteArray)} {k : Nat} {x : Int × ByteArray} {b : Int} (h : l[k]? = some x) (hp : ¬ x.1 = b) (ht : textIn b (l.take k) = none) : textIn b (l.take (k + 1)) = none := by
  induction l generalizing k with
  | nil => simp at h
  | cons y r ih =>
    cases k with
    | zero => simp at h; subst h; simp [textIn, hp]
    | succ k =>
      rw [List.take_succ_cons, textIn] at ht ⊢
      by_cases e : y.1 = b
      · rw [if_pos e] at ht; cases ht
      · rw [if_neg e] at ht ⊢
        exact ih (by simpa using h) ht

end Go.Proofs.YtjnpndfpajjihabGreat
