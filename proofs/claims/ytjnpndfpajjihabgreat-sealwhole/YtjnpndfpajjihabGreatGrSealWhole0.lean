/-
  Small laws on worlds that all walks use: what stays when only new memory is made. Nothing of the program is proved here.
  What a disk is, as plain data, and how it lies in memory: the words that the walks of package disk speak. Nothing of the program is proved here.
  What a mark is, as plain data, and how it lies in memory. Nothing of the program is proved here.
  Blocks of a few cells, and blocks made first and second. Nothing of the program is proved here.
  What Need and Most answer. Nothing of the program is proved here.
  Rows of numbers as the cells of a row of the call's own. Nothing of the program is proved here.
  The walk of the document's own GoodMark: marks whose form is right.
  A block as a copy in the log, and back. Nothing of the program is proved here.
  A text of one byte. Nothing of the program is proved here.
  A text as a block, as plain data.
  The walks of package disk's small functions: isPlace, fits.
  A ring as plain data, and what Good, Give and Take answer. Nothing of the program is proved here.
  The walk of the statements' own pick.
-/
import Derived.Test.YtjnpndfpajjihabGreatProg
import Derived.WalkKit
import Derived.WalkSpells
import Derived.WalkLawsBesides
namespace Go.Proofs.YtjnpndfpajjihabGreat
open Go.RowKit

theorem hide {p : Prop} (h : p) : Hid p := h

theorem cellKeep {w w' : World} (hb : Below w.heap.size w w') {b o : Nat} {v : Value} (hlt : b < w.heap.size) (hc : w.cell? ⟨b, o, none⟩ = some v) : w'.cell? ⟨b, o, none⟩ = some v :=
  (hb.cell (p := ⟨b, o, none⟩) hlt).trans hc

theorem frozKeep {w w' : World} (hb : Below w.heap.size w w') {b o : Nat} {v : Bool} (hlt : b < w.heap.size) (hc : w.frozen? ⟨b, o, none⟩ = v) : w'.frozen? ⟨b, o, none⟩ = v :=
  (hb.frozen (p := ⟨b, o, none⟩) hlt).trans hc

theorem bcell {W w1 : World} (hb : Below W.heap.size W w1) : (∀ b o, b < W.heap.size → w1.cell? ⟨b, o, none⟩ = W.cell? ⟨b, o, none⟩) ∧ (∀ b o, b < W.heap.size → w1.frozen? ⟨b, o, none⟩ = W.frozen? ⟨b, o, none⟩) :=
  ⟨fun b o h => hb.cell (p := ⟨b, o, none⟩) h, fun b o h => hb.frozen (p := ⟨b, o, none⟩) h⟩

theorem below1 (w : World) (o : Obj) : Below w.heap.size w (w.alloc o) := (Below.refl _ _).alloc (Nat.le_refl _) _

theorem bthen {a b c : World} (h : Below a.heap.size a b) (k : Below b.heap.size b c) : Below a.heap.size a c := h.trans (k.mono h.size)

theorem owns_keep {w w' : World} {base : Nat} {e : TypeId} {size : Nat} {v : Value} {n : Nat} {xs : List Value} (h : w.ownsRow base e size v n xs) (hb : Below w.heap.size w w') : w'.ownsRow base e size v n xs := by
  refine ⟨h.1, ?_⟩
  rcases h.2 with h0 | ⟨g, cap, cur, hv, hg, hh, r⟩
  · exact .inl h0
  · exact .inr ⟨g, cap, cur, hv, hg, by rw [hb.block g (Array.getElem?_eq_some_iff.1 hh).1]; exact hh, r⟩

theorem owns_base {w : World} {b b' : Nat} {e : TypeId} {size : Nat} {v : Value} {n : Nat} {xs : List Value} (h : w.ownsRow b e size v n xs) (hb : b' ≤ b) : w.ownsRow b' e size v n xs := by
  refine ⟨h.1, ?_⟩
  rcases h.2 with h0 | ⟨g, cap, cur, hv, hg, r⟩
  · exact .inl h0
  · exact .inr ⟨g, cap, cur, hv, by omega, r⟩

theorem cellSet {w : World} {b o : Nat} {v : Value} {p : Addr} {u : Value} (h : w.cell? ⟨b, o, none⟩ = some v) (hne : b ≠ p.block) : (w.setCell p u).cell? ⟨b, o, none⟩ = some v :=
  (World.cell?_of_block (w := w) (a := ⟨b, o, none⟩) (Below.heap_setCell _ _ _ _ hne)).trans h
theorem frozSet {w : World} {b o : Nat} {v : Bool} {p : Addr} {u : Value} (h : w.frozen? ⟨b, o, none⟩ = v) (hne : b ≠ p.block) : (w.setCell p u).frozen? ⟨b, o, none⟩ = v :=
  (World.frozen?_of_block (w := w) (a := ⟨b, o, none⟩) (Below.heap_setCell _ _ _ _ hne)).trans h

/-- A row of the call's own is no block of another type. -/
theorem owns_ne {w : World} {base : Nat} {e e' : TypeId} {size : Nat} {v : Value} {n : Nat} {xs : List Value} (h : w.ownsRow base e size v n xs) {B : Nat} {cs : Array Value} (hB : w.heap[B]? = some (.cells cs e' (0, 0))) (hne : e ≠ e') :
    ∀ k, v.ownBlock = some k → k ≠ B := by
  intro k hk e0
  subst e0
  rcases h.2 with ⟨rfl, _⟩ | ⟨g, cap, cur, rfl, hb, hg, _⟩
  · simp [Value.ownBlock] at hk
  · simp [Value.ownBlock] at hk
    subst hk
    rw [hB] at hg
    simp only [Option.some.injEq, Obj.cells.injEq] at hg
    exact hne hg.2.1.symm


end Go.Proofs.YtjnpndfpajjihabGreat

namespace Go.Proofs.YtjnpndfpajjihabGreat
open Go.RowKit

/-- A disk as plain data: the safe texts, and the writes (place, text). -/
structure Dk where
  safe : List ByteArray
  wr : List (Int × ByteArray)

/-- A row of texts at an address. -/
def SegS (w : World) (a : Option Addr) (ss : List ByteArray) : Prop :=
  ss = [] ∨ ∃ b off, a = some ⟨b, off, none⟩ ∧ b < w.heap.size ∧ ∀ i, i < ss.length → w.cell? ⟨b, off + i, none⟩ = some (.string (ss.getD i ByteArray.empty))

/-- A row of writes at an address: two cells each. -/
def SegW (w : World) (a : Option Addr) (ws : List (Int × ByteArray)) : Prop :=
  ws = [] ∨ ∃ b off, a = some ⟨b, off, none⟩ ∧ b < w.heap.size ∧ ∀ i, i < ws.length →
    w.cell? ⟨b, off + i * 2, none⟩ = some (.int .i64 (ws.getD i (0, ByteArray.empty)).1) ∧ w.cell? ⟨b, off + i * 2 + 1, none⟩ = some (.string (ws.getD i (0, ByteArray.empty)).2)

/-- A value that is a disk, in a world. -/
def IsDk (w : World) (v : Value) (d : Dk) : Prop :=
  ∃ a c a' c', v = .agg #[.slice a d.safe.length c, .slice a' d.wr.length c'] ∧ SegS w a d.safe ∧ SegW w a' d.wr ∧ d.safe.length ≤ maxLen ∧ d.wr.length ≤ maxLen

/-- A disk whose rows lie in memory from a block on. -/
def DkFrom (n : Nat) (v : Value) : Prop :=
  ∃ a l c a' l' c', v = .agg #[.slice a l c, .slice a' l' c'] ∧ (∀ b off, a = some ⟨b, off, none⟩ → n ≤ b) ∧ ∀ b off, a' = some ⟨b, off, none⟩ → n ≤ b
theorem SegS.below {w w' : World} {a : Option Addr} {ss : List ByteArray} (h : SegS w a ss) (hb : Below w.heap.size w w') : SegS w' a ss := by
  rcases h with h | ⟨b, off, rfl, hlt, hc⟩
  · exact .inl h
  · exact .inr ⟨b, off, rfl, Nat.lt_of_lt_of_le hlt hb.size, fun i hi => (hb.cell (p := ⟨b, off + i, none⟩) hlt).trans (hc i hi)⟩

theorem SegW.below {w w' : World} {a : Option Addr} {ws : List (Int × ByteArray)} (h : SegW w a ws) (hb : Below w.heap.size w w') : SegW w' a ws := by
  rcases h with h | ⟨b, off, rfl, hlt, hc⟩
  · exact .inl h
  · exact .inr ⟨b, off, rfl, Nat.lt_of_lt_of_le hlt hb.size, fun i hi =>
      ⟨(hb.cell (p := ⟨b, off + i * 2, none⟩) hlt).trans (hc i hi).1, (hb.cell (p := ⟨b, off + i * 2 + 1, none⟩) hlt).trans (hc i hi).2⟩⟩

theorem SegS.setCell {w : World} {a : Option Addr} {ss : List ByteArray} {base : Nat} (h : SegS w a ss) (hb : ∀ b off, a = some ⟨b, off, none⟩ → base ≤ b) {p : Addr} (hp : p.block < base) (u : Value) : SegS (w.setCell p u) a ss := by
  rcases h with h | ⟨b, off, rfl, hlt, hc⟩
  · exact .inl h
  · have := hb b off rfl
    exact .inr ⟨b, off, rfl, by simpa [World.setCell] using hlt, fun i hi => (World.cell?_of_block (w := w) (a := ⟨b, off + i, none⟩) (Below.heap_setCell _ _ _ _ (by simp; omega))).trans (hc i hi)⟩

theorem SegW.setCell {w : World} {a : Option Addr} {ws : List (Int × ByteArray)} {base : Nat} (h : SegW w a ws) (hb : ∀ b off, a = some ⟨b, off, none⟩ → base ≤ b) {p : Addr} (hp : p.block < base) (u : Value) : SegW (w.setCell p u) a ws := by
  rcases h with h | ⟨b, off, rfl, hlt, hc⟩
  · exact .inl h
  · have := hb b off rfl
    exact .inr ⟨b, off, rfl, by simpa [World.setCell] using hlt, fun i hi =>
      ⟨(World.cell?_of_block (w := w) (a := ⟨b, off + i * 2, none⟩) (Below.heap_setCell _ _ _ _ (by simp; omega))).trans (hc i hi).1,
        (World.cell?_of_block (w := w) (a := ⟨b, off + i * 2 + 1, none⟩) (Below.heap_setCell _ _ _ _ (by simp; omega))).trans (hc i hi).2⟩⟩

theorem IsDk.below {w w' : World} {v : Value} {d : Dk} (h : IsDk w v d) (hb : Below w.heap.size w w') : IsDk w' v d := by
  obtain ⟨a, c, a', c', rfl, hs, hw, h1, h2⟩ := h
  exact ⟨a, c, a', c', rfl, hs.below hb, hw.below hb, h1, h2⟩

/-- Is it a place? -/
def placeB (n : Int) : Bool := decide (0 ≤ n) && decide (n < 37)
/-- Has a text the size of a block? -/
def fitsB (s : ByteArray) : Bool := (s.size : Int) == 32
/-- Is a write to a place, of a block? -/
def wrB (x : Int × ByteArray) : Bool := placeB x.1 && fitsB x.2
/-- Is it a disk? -/
def goodB (d : Dk) : Bool := decide (d.safe.length = 37) && decide (d.wr.length ≤ 200) && d.safe.all fitsB && d.wr.all wrB
/-- The text of the last of these writes to a place; else another. -/
def lastIn (n : Int) (dflt : ByteArray) : List (Int × ByteArray) → ByteArray
  | [] => dflt
  | x :: r => lastIn n (if x.1 = n then x.2 else dflt) r
/-- A block as it is. -/
def lastOf (d : Dk) (n : Int) : ByteArray := lastIn n (d.safe.getD n.toNat ByteArray.empty) d.wr

end Go.Proofs.YtjnpndfpajjihabGreat

namespace Go.Proofs.YtjnpndfpajjihabGreat
open Go.RowKit

/-- A mark as plain data. -/
structure Mk where
  kind : Int
  seq : Int
  pos : Int
  tags : List (Int × Bool)
  blocks : List Int

/-- A row of numbers at an address; a row of tags: two cells each. -/
def SegI (w : World) (a : Option Addr) (l : List Int) : Prop :=
  l = [] ∨ ∃ b off, a = some ⟨b, off, none⟩ ∧ b < w.heap.size ∧ ∀ i, i < l.length → w.cell? ⟨b, off + i, none⟩ = some (.int .i64 (l.getD i 0))
def SegT (w : World) (a : Option Addr) (l : List (Int × Bool)) : Prop :=
  l = [] ∨ ∃ b off, a = some ⟨b, off, none⟩ ∧ b < w.heap.size ∧ ∀ i, i < l.length →
    w.cell? ⟨b, off + i * 2, none⟩ = some (.int .i64 (l.getD i (0, false)).1) ∧ w.cell? ⟨b, off + i * 2 + 1, none⟩ = some (.bool (l.getD i (0, false)).2)

/-- A value that is a mark, in a world. -/
def IsMk (w : World) (v : Value) (m : Mk) : Prop :=
  ∃ a c a' c', v = .agg #[.int .i64 m.kind, .int .i64 m.seq, .int .i64 m.pos, .slice a m.tags.length c, .slice a' m.blocks.length c'] ∧ SegT w a m.tags ∧ SegI w a' m.blocks ∧ m.tags.length ≤ maxLen ∧ m.blocks.length ≤ maxLen

theorem SegI.below {w w' : World} {a : Option Addr} {l : List Int} (h : SegI w a l) (hb : Below w.heap.size w w') : SegI w' a l := by
  rcases h with h | ⟨b, off, rfl, hlt, hc⟩
  · exact .inl h
  · exact .inr ⟨b, off, rfl, Nat.lt_of_lt_of_le hlt hb.size, fun i hi => cellKeep hb hlt (hc i hi)⟩
theorem SegT.below {w w' : World} {a : Option Addr} {l : List (Int × Bool)} (h : SegT w a l) (hb : Below w.heap.size w w') : SegT w' a l := by
  rcases h with h | ⟨b, off, rfl, hlt, hc⟩
  · exact .inl h
  · exact .inr ⟨b, off, rfl, Nat.lt_of_lt_of_le hlt hb.size, fun i hi => ⟨cellKeep hb hlt (hc i hi).1, cellKeep hb hlt (hc i hi).2⟩⟩
theorem IsMk.below {w w' : World} {v : Value} {m : Mk} (h : IsMk w v m) (hb : Below w.heap.size w w') : IsMk w' v m := by
  obtain ⟨a, c, a', c', rfl, hs, hw, h1, h2⟩ := h
  exact ⟨a, c, a', c', rfl, hs.below hb, hw.below hb, h1, h2⟩

theorem getD_at {α : Type} (l : List α) (k : Nat) (z : α) (h : k < l.length) : l[k]? = some (l.getD k z) := by
  rw [List.getElem?_eq_getElem h, List.getD, List.getElem?_eq_getElem h]; rfl

/-- Do numbers rise, each a block, from behind one on? -/
def risesFrom : Int → List Int → Bool
  | _, [] => true
  | q, b :: r => if b ≤ q ∨ 11 < b then false else risesFrom b r
def rises (l : List Int) : Bool := risesFrom (-1) l
/-- The last of numbers, else another. -/
def lastNum (q : Int) : List Int → Int
  | [] => q
  | b :: r => lastNum b r

theorem lastNum_snoc (q : Int) (l : List Int) (b : Int) : lastNum q (l ++ [b]) = b := by
  induction l generalizing q with
  | nil => rfl
  | cons x r ih => exact ih x
theorem rises_snoc (q : Int) (l : List Int) (b : Int) : risesFrom q (l ++ [b]) = (risesFrom q l && !decide (b ≤ lastNum q l ∨ 11 < b)) := by
  induction l generalizing q with
  | nil => by_cases h : b ≤ q ∨ 11 < b <;> simp [risesFrom, lastNum, h]
  | cons x r ih =>
    by_cases h : x ≤ q ∨ 11 < x
    · simp [risesFrom, h]
    · simp only [List.cons_append, risesFrom, if_neg h, lastNum]
      exact ih x
theorem rises_no (q : Int) (l : List Int) (k : Nat) (h : risesFrom q (l.take k) = false) : risesFrom q l = false := by
  induction l generalizing q k with
  | nil => simp at h; exact h
  | cons x r ih =>
    cases k with
    | zero => simp [risesFrom] at h
    | succ k =>
      rw [List.take_succ_cons] at h
      by_cases e : x ≤ q ∨ 11 < x
      · simp [risesFrom, e]
      · simp only [risesFrom, if_neg e] at h ⊢
        exact ih x k h

/-- What Good answers. -/
def goodM (m : Mk) : Int :=
  if m.kind < 1 ∨ 4 < m.kind then 3
  else if m.seq < 1 ∨ 2147483647 < m.seq ∨ m.pos < 0 ∨ 23 < m.pos then 2
  else if (m.kind ≠ 1 ∧ m.pos ≠ 0) ∨ (m.kind ≠ 2 ∧ m.tags ≠ []) ∨ (m.kind ≠ 3 ∧ m.blocks ≠ []) then 1
  else if (m.kind = 2 ∧ (m.tags.length < 1 ∨ 10 < m.tags.length)) ∨ (m.kind = 3 ∧ (m.blocks.length < 1 ∨ 20 < m.blocks.length)) ∨ rises (m.tags.map (·.1)) = false ∨ rises m.blocks = false then 2
  else 0

end Go.Proofs.YtjnpndfpajjihabGreat

namespace Go.Proofs.YtjnpndfpajjihabGreat
open Go.RowKit

/-- A block of two cells: what stands in each, and that none is frozen. -/
theorem box2 {w : World} {B : Nat} {v0 v1 : Value} {t : TypeId} (h : w.heap[B]? = some (.cells #[v0, v1] t (0, 0))) :
    (w.cell? ⟨B, 0, none⟩ = some v0 ∧ w.cell? ⟨B, 1, none⟩ = some v1) ∧ (w.frozen? ⟨B, 0, none⟩ = false ∧ w.frozen? ⟨B, 1, none⟩ = false) := by
  refine ⟨⟨?_, ?_⟩, frozen_of_row w _ _ _ _ h, frozen_of_row w _ _ _ _ h⟩ <;> (rw [cell_of_row w _ _ _ _ _ h]; rfl)
/-- A block that was just made stays under what makes memory alone. -/
theorem one1 {w w' : World} {o : Obj} (hb : Below (w.alloc o).heap.size (w.alloc o) w') : w'.heap[w.heap.size]? = some o :=
  (hb.block _ (by simp)).trans (heap_alloc_new w o)
/-- Blocks made first and second stay under what makes memory alone. -/
theorem two1 {w w' : World} {o o2 : Obj} (hb : Below ((w.alloc o).alloc o2).heap.size ((w.alloc o).alloc o2) w') : w'.heap[w.heap.size]? = some o :=
  (hb.block _ (by simp; omega)).trans ((Below.heap_alloc _ _ _ (by simp)).trans (heap_alloc_new w o))
theorem two2 {w w' : World} {o o2 : Obj} (hb : Below ((w.alloc o).alloc o2).heap.size ((w.alloc o).alloc o2) w') : w'.heap[w.heap.size + 1]? = some o2 := by
  have := heap_alloc_new (w.alloc o) o2
  simp at this
  exact (hb.block _ (by simp)).trans (by simpa using this)

/-- A block of two cells that is written whole; others stay. -/
theorem box2Set {w : World} {B : Nat} {u0 u1 : Value} {t : TypeId} (h : w.heap[B]? = some (.cells #[u0, u1] t (0, 0))) (v0 v1 : Value) :
    ((w.setCell ⟨B, 0, none⟩ v0).setCell ⟨B, 1, none⟩ v1).heap[B]? = some (.cells #[v0, v1] t (0, 0)) := by
  have h1 := heap_setCell_same w B 0 _ _ v0 h
  rw [heap_setCell_same _ B 1 _ _ v1 h1]
  rfl
theorem box2Other {w : World} {B b : Nat} {o : Option Obj} (h : w.heap[B]? = o) (hne : B ≠ b) (v0 v1 : Value) :
    ((w.setCell ⟨b, 0, none⟩ v0).setCell ⟨b, 1, none⟩ v1).heap[B]? = o := by
  rw [Below.heap_setCell _ _ _ _ hne, Below.heap_setCell _ _ _ _ hne]
  exact h
theorem box2Size (w : World) (b : Nat) (v0 v1 : Value) : ((w.setCell ⟨b, 0, none⟩ v0).setCell ⟨b, 1, none⟩ v1).heap.size = w.heap.size := by simp [World.setCell]
/-- A block stays under what makes memory alone. -/
theorem boxKeep {w w' : World} (hb : Below w.heap.size w w') {B : Nat} (hlt : B < w.heap.size) {o : Obj} (h : w.heap[B]? = some o) : w'.heap[B]? = some o :=
  (hb.block _ hlt).trans h

/-- A block of five cells: what stands in each, and that none is frozen. -/
theorem box5 {w : World} {B : Nat} {v0 v1 v2 v3 v4 : Value} {t : TypeId} (h : w.heap[B]? = some (.cells #[v0, v1, v2, v3, v4] t (0, 0))) :
    (w.cell? ⟨B, 0, none⟩ = some v0 ∧ w.cell? ⟨B, 1, none⟩ = some v1 ∧ w.cell? ⟨B, 2, none⟩ = some v2 ∧ w.cell? ⟨B, 3, none⟩ = some v3 ∧ w.cell? ⟨B, 4, none⟩ = some v4) ∧
    (w.frozen? ⟨B, 0, none⟩ = false ∧ w.frozen? ⟨B, 1, none⟩ = false ∧ w.frozen? ⟨B, 2, none⟩ = false ∧ w.frozen? ⟨B, 3, none⟩ = false ∧ w.frozen? ⟨B, 4, none⟩ = false) := by
  refine ⟨⟨?_, ?_, ?_, ?_, ?_⟩, frozen_of_row w _ _ _ _ h, frozen_of_row w _ _ _ _ h, frozen_of_row w _ _ _ _ h, frozen_of_row w _ _ _ _ h, frozen_of_row w _ _ _ _ h⟩ <;> (rw [cell_of_row w _ _ _ _ _ h]; rfl)
/-- Three blocks made one behind another stay under what makes memory alone. -/
theorem three1 {w w' : World} {o o2 o3 : Obj} (hb : Below (((w.alloc o).alloc o2).alloc o3).heap.size (((w.alloc o).alloc o2).alloc o3) w') : w'.heap[w.heap.size]? = some o ∧ w'.heap[w.heap.size + 1]? = some o2 ∧ w'.heap[w.heap.size + 1 + 1]? = some o3 ∧ w.heap.size + 1 + 1 < w'.heap.size := by
  have hz := hb.size
  simp at hz
  have e1 := heap_alloc_new (w.alloc o) o2
  have e2 := heap_alloc_new ((w.alloc o).alloc o2) o3
  simp only [World.size_alloc] at e1 e2
  refine ⟨?_, ?_, ?_, by omega⟩
  · exact (hb.block _ (by simp; omega)).trans ((Below.heap_alloc _ _ _ (by simp; omega)).trans ((Below.heap_alloc _ _ _ (by simp)).trans (heap_alloc_new w o)))
  · exact (hb.block _ (by simp)).trans ((Below.heap_alloc _ _ _ (by simp)).trans e1)
  · exact (hb.block _ (by simp)).trans e2

end Go.Proofs.YtjnpndfpajjihabGreat

namespace Go.Proofs.YtjnpndfpajjihabGreat
open Go.RowKit

/-- How many parts of a size it takes to name so many. -/
def partsOf (n size : Nat) : Nat := (n + (size - 1)) / size
/-- What Need answers. -/
def needE (m r : Int) : Int := if m < 0 ∨ 12 < m ∨ r < 0 ∨ 12 < r then 2 else 0
def needN (m r : Int) : Int := if needE m r = 0 then 1 + m + (if 0 < r then 1 else 0) + (if 0 < m then 1 else 0) + (if 10 < m then 1 else 0) else 0

/-- What Most answers. -/
def clampN (n : Int) : Int := if n < 0 then 0 else if 24 < n then 24 else n
def mostN (n : Int) : Int := clampN n + 1 + (if 0 < clampN n then 1 else 0) + (if 10 < clampN n then 1 else 0) + (if 20 < clampN n then 1 else 0) + (if 0 < clampN n then 1 else 0) + (if 20 < clampN n then 1 else 0)
theorem most_at {n k : Int} (h : clampN n = k) (a b c : Int) (ha : a = if 0 < k then 1 else 0) (hb : b = if 10 < k then 1 else 0) (hc : c = if 20 < k then 1 else 0) : mostN n = k + 1 + a + b + c + a + c := by
  rw [mostN, h, ha, hb, hc]

end Go.Proofs.YtjnpndfpajjihabGreat

namespace Go.Proofs.YtjnpndfpajjihabGreat
open Go.RowKit

theorem infoI : (Tryz.prog.info? 3).map (fun i => (i.zero, i.size, i.bytes)) = some (some (.int .i64 0), 1, 8) := by kernel_rfl

def cellsI (l : List Int) : List Value := l.map (Value.int .i64)
theorem cellsI_length (l : List Int) : (cellsI l).length = l.length * 1 := by simp [cellsI]
theorem cellsI_append (l r : List Int) : cellsI (l ++ r) = cellsI l ++ cellsI r := by simp [cellsI]
theorem cellsI_at (l : List Int) (i : Nat) (h : i < l.length) : (cellsI l)[i]? = some (.int .i64 (l.getD i 0)) := by
  rw [cellsI, List.getElem?_map, getD_at l i 0 h]; rfl
theorem cellsI_one {l : List Int} : ∀ u ∈ cellsI l, u.oneCell' = true := by
  intro u hu
  obtain ⟨s, _, rfl⟩ := List.mem_map.1 hu
  rfl
/-- A slice of numbers of the call's own is a row of numbers. -/
theorem SegI.of_owns {w : World} {base n : Nat} {v : Value} {l : List Int} (h : w.ownsRow base 3 1 v n (cellsI l)) : ∃ a c, v = .slice a l.length c ∧ SegI w a l ∧ ∀ b off, a = some ⟨b, off, none⟩ → base ≤ b := by
  have hn : l.length = n := by have := h.1; rw [cellsI_length] at this; omega
  subst hn
  rcases h.2 with ⟨rfl, h0⟩ | ⟨g, cap, cur, rfl, hb, hg, rest⟩
  · exact ⟨none, 0, by rw [h0], .inl (List.eq_nil_of_length_eq_zero h0), fun _ _ h => by cases h⟩
  · refine ⟨_, cap, rfl, .inr ⟨g, 0, rfl, (Array.getElem?_eq_some_iff.1 hg).1, fun i hi => ?_⟩, fun _ _ h => by cases h; exact hb⟩
    rw [Nat.zero_add, h.cellAt i (by omega), cellsI_at l i hi]

end Go.Proofs.YtjnpndfpajjihabGreat

namespace Go.Proofs.YtjnpndfpajjihabGreat
open Go.RowKit

/-- The numbers of the first tags. -/
def tagNums (l : List (Int × Bool)) (k : Nat) : List Int := (l.take k).map (·.1)

/-- What Good answers of a descriptor whose form is right. -/
def tagsE (l : List (Int × Bool)) : Int := if (l.length < 1 ∨ 10 < l.length) ∨ rises (l.map (·.1)) = false then 2 else 0
end Go.Proofs.YtjnpndfpajjihabGreat

namespace Go.Proofs.YtjnpndfpajjihabGreat
open Go.RowKit

/-- Does a text begin with Magic? What Escape and Unescape make of it. -/
def isMagic (s : ByteArray) : Bool := if 4 ≤ s.size then ((s.extract 0 4).toList == [87, 66, 75, 49]) else false
def escT (s : ByteArray) : ByteArray := if isMagic s then (⟨#[0, 0, 0, 0]⟩ : ByteArray) ++ s.extract 4 s.size else s
def unescT (s : ByteArray) (e : Bool) : ByteArray := if e = false ∨ s.size < 4 then s else (⟨#[87, 66, 75, 49]⟩ : ByteArray) ++ s.extract 4 s.size

end Go.Proofs.YtjnpndfpajjihabGreat

namespace Go.Proofs.YtjnpndfpajjihabGreat
open Go.RowKit

/-- A text of one byte. -/
def oneB (n : Nat) : ByteArray := ⟨#[UInt8.ofNat n]⟩
def byteV (b : UInt8) : Value := .int .u8 (b.toNat : Int)

end Go.Proofs.YtjnpndfpajjihabGreat

namespace Go.Proofs.YtjnpndfpajjihabGreat

/-- A text as a block. -/
def fitL (s : ByteArray) : List UInt8 := s.data.toList.take 32 ++ List.replicate (32 - s.size) 0
def fitT (s : ByteArray) : ByteArray := ⟨(fitL s).toArray⟩

end Go.Proofs.YtjnpndfpajjihabGreat

namespace Go.Proofs.YtjnpndfpajjihabGreat
open Go.RowKit

set_option maxHeartbeats 400000 in
theorem isPlace_any (n : Int) (w : World) :
    Calls Tryz.prog 119 #[.int .i64 n] w fun e w' => e = .returned (.bool (placeB n)) ∧ w = w' := by
  by_cases h0 : 0 ≤ n <;> by_cases h1 : n < 37
  all_goals
    go_enter Tryz.func119, Tryz.ntmps119
    go_wp2
    go_ret
    exact ⟨by simp [placeB, h0, h1], rfl⟩

set_option maxHeartbeats 400000 in
theorem fits_any (s : ByteArray) (w : World) :
    Calls Tryz.prog 118 #[.string s] w fun e w' => e = .returned (.bool (fitsB s)) ∧ w = w' := by
  go_enter Tryz.func118, Tryz.ntmps118
  go_wp2
  go_ret
  exact ⟨rfl, rfl⟩

end Go.Proofs.YtjnpndfpajjihabGreat

namespace Go.Proofs.YtjnpndfpajjihabGreat
open Go.RowKit

/-- Is it a ring? -/
def goodR (h u : Int) : Bool := decide (0 ≤ h) && decide (h ≤ 23) && decide (0 ≤ u) && decide (u ≤ 24)
theorem goodR_yes {h u : Int} (e : goodR h u = true) : 0 ≤ h ∧ h ≤ 23 ∧ 0 ≤ u ∧ u ≤ 24 := by
  simpa [goodR, and_assoc] using e

/-- What Give answers. -/
def giveE (h u n : Int) : Int := if goodR h u = false ∨ n < 0 ∨ u < n then 2 else 0
def giveU (h u n : Int) : Int := if giveE h u n = 0 then u - n else u

/-- What Take answers. -/
def takeE (h u n : Int) : Int := if goodR h u = false ∨ n < 0 then 2 else if 24 - u < n then 6 else 0
def placesOf (h : Int) (n : Nat) : List Int := (List.range n).map fun (i : Nat) => (h + (i : Int)) % 24
def takeH (h u n : Int) : Int := if takeE h u n = 0 then (h + n) % 24 else h
def takeU (h u n : Int) : Int := if takeE h u n = 0 then u + n else u
def takeL (h u n : Int) : List Int := if takeE h u n = 0 then placesOf h n.toNat else []
theorem places_length (h : Int) (n : Nat) : (placesOf h n).length = n := by simp [placesOf]
theorem places_succ (h : Int) (n : Nat) : placesOf h (n + 1) = placesOf h n ++ [(h + (n : Int)) % 24] := by simp [placesOf, List.range_succ]

end Go.Proofs.YtjnpndfpajjihabGreat

namespace Go.Proofs.YtjnpndfpajjihabGreat
open Go.RowKit

/-- What pick answers. -/
def pickN (n m : Int) : Int := n % m
set_option maxHeartbeats 1000000 in
theorem pick_any (n m : Int) (w : World) (hm : 0 < m) (hm2 : m ≤ 4611686018427387904) (hn : -9223372036854775808 ≤ n) (hn2 : n ≤ 9223372036854775807) :
    Calls Tryz.prog 32 #[.int .i64 n, .int .i64 m] w fun e w' => e = .returned (.int .i64 (n % m)) ∧ w = w' := by
  have hlt := Int.emod_lt_of_pos n hm
  have hge := Int.emod_nonneg n (show m ≠ 0 by omega)
  by_cases h : n.tmod m < 0
  · have HE : Hid (n % m = n.tmod m + m) := by
      rw [Hid, Int.emod_eq_tmod]
      rw [if_neg]
      · omega
      · rintro (h1 | h1)
        · have := Int.tmod_nonneg m h1; omega
        · have := Int.tmod_eq_zero_of_dvd h1; omega
    have hlo : -m < n.tmod m := by have := Int.lt_tmod_of_pos n hm; omega
    have hm0 : ¬ m = 0 := by omega
    have hmm : ¬ m = -1 := by omega
    go_enter Tryz.func32, Tryz.ntmps32
    go_wp2
    go_ret
    exact ⟨by rw [HE.out]; rfl, rfl⟩
  · have HE : Hid (n % m = n.tmod m) := by
      by_cases h1 : 0 ≤ n ∨ m ∣ n
      · rw [Hid, Int.emod_eq_tmod, if_pos h1]; omega
      · have h2 := Int.emod_eq_tmod (a := n) (b := m)
        rw [if_neg h1] at h2
        have h3 : n < 0 := by omega
        have h4 : n.tmod m ≤ 0 := by
          have := Int.tmod_nonneg m (show 0 ≤ -n by omega)
          rw [Int.neg_tmod] at this
          omega
        have h5 : n.tmod m = 0 := by omega
        exact absurd (.inr (Int.dvd_of_tmod_eq_zero h5)) h1
    have hm0 : ¬ m = 0 := by omega
    have hmm : ¬ m = -1 := by omega
    have hlo : n.tmod m < m := by rw [← HE.out]; exact hlt
    go_enter Tryz.func32, Tryz.ntmps32
    go_wp2
    go_ret
    exact ⟨by rw [HE.out]; rfl, rfl⟩

end Go.Proofs.YtjnpndfpajjihabGreat
