/-
  What a disk is, as plain data, and how it lies in memory: the words that the walks of package disk speak. Nothing of the program is proved here.
-/
import Derived.Test.YtjnpndfpajjihabGreatBase
namespace Go.Proofs.YtjnpndfpajjihabGreat
open Go.RowKit

/-- A disk as plain data: the safe texts, and the writes (place, text). -/
structure Dk where
  safe : List ByteArray
  wr : List (Int × ByteArray)

/-- A row of texts at an address. -/
def SegS (w : World) (a : Option Addr) (ss : List ByteArray) : Prop :=
  ss = [] ∨ ∃ b off, a = some ⟨b, off, none⟩ ∧ b < w.heap.size ∧ ∀ i, i < ss.length → w.cell? ⟨b, off + i, none⟩ = some (.string (ss.getD i ByteArray.empty))

/-- A row of writes at an address: two cells each. -/
def SegW (w : World) (a : Option Addr) (ws : List (Int × ByteArray)) : Prop :=
  ws = [] ∨ ∃ b off, a = some ⟨b, off, none⟩ ∧ b < w.heap.size ∧ ∀ i, i < ws.length →
    w.cell? ⟨b, off + i * 2, none⟩ = some (.int .i64 (ws.getD i (0, ByteArray.empty)).1) ∧ w.cell? ⟨b, off + i * 2 + 1, none⟩ = some (.string (ws.getD i (0, ByteArray.empty)).2)

/-- A value that is a disk, in a world. -/
def IsDk (w : World) (v : Value) (d : Dk) : Prop :=
  ∃ a c a' c', v = .agg #[.slice a d.safe.length c, .slice a' d.wr.length c'] ∧ SegS w a d.safe ∧ SegW w a' d.wr ∧ d.safe.length ≤ maxLen ∧ d.wr.length ≤ maxLen

/-- A disk whose rows lie in memory from a block on. -/
def DkFrom (n : Nat) (v : Value) : Prop :=
  ∃ a l c a' l' c', v = .agg #[.slice a l c, .slice a' l' c'] ∧ (∀ b off, a = some ⟨b, off, none⟩ → n ≤ b) ∧ ∀ b off, a' = some ⟨b, off, none⟩ → n ≤ b
theorem SegS.below {w w' : World} {a : Option Addr} {ss : List ByteArray} (h : SegS w a ss) (hb : Below w.heap.size w w') : SegS w' a ss := by
  rcases h with h | ⟨b, off, rfl, hlt, hc⟩
  · exact .inl h
  · exact .inr ⟨b, off, rfl, Nat.lt_of_lt_of_le hlt hb.size, fun i hi => (hb.cell (p := ⟨b, off + i, none⟩) hlt).trans (hc i hi)⟩

theorem SegW.below {w w' : World} {a : Option Addr} {ws : List (Int × ByteArray)} (h : SegW w a ws) (hb : Below w.heap.size w w') : SegW w' a ws := by
  rcases h with h | ⟨b, off, rfl, hlt, hc⟩
  · exact .inl h
  · exact .inr ⟨b, off, rfl, Nat.lt_of_lt_of_le hlt hb.size, fun i hi =>
      ⟨(hb.cell (p := ⟨b, off + i * 2, none⟩) hlt).trans (hc i hi).1, (hb.cell (p := ⟨b, off + i * 2 + 1, none⟩) hlt).trans (hc i hi).2⟩⟩

theorem SegS.setCell {w : World} {a : Option Addr} {ss : List ByteArray} {base : Nat} (h : SegS w a ss) (hb : ∀ b off, a = some ⟨b, off, none⟩ → base ≤ b) {p : Addr} (hp : p.block < base) (u : Value) : SegS (w.setCell p u) a ss := by
  rcases h with h | ⟨b, off, rfl, hlt, hc⟩
  · exact .inl h
  · have := hb b off rfl
    exact .inr ⟨b, off, rfl, by simpa [World.setCell] using hlt, fun i hi => (World.cell?_of_block (w := w) (a := ⟨b, off + i, none⟩) (Below.heap_setCell _ _ _ _ (by simp; omega))).trans (hc i hi)⟩

theorem SegW.setCell {w : World} {a : Option Addr} {ws : List (Int × ByteArray)} {base : Nat} (h : SegW w a ws) (hb : ∀ b off, a = some ⟨b, off, none⟩ → base ≤ b) {p : Addr} (hp : p.block < base) (u : Value) : SegW (w.setCell p u) a ws := by
  rcases h with h | ⟨b, off, rfl, hlt, hc⟩
  · exact .inl h
  · have := hb b off rfl
    exact .inr ⟨b, off, rfl, by simpa [World.setCell] using hlt, fun i hi =>
      ⟨(World.cell?_of_block (w := w) (a := ⟨b, off + i * 2, none⟩) (Below.heap_setCell _ _ _ _ (by simp; omega))).trans (hc i hi).1,
        (World.cell?_of_block (w := w) (a := ⟨b, off + i * 2 + 1, none⟩) (Below.heap_setCell _ _ _ _ (by simp; omega))).trans (hc i hi).2⟩⟩

theorem IsDk.below {w w' : World} {v : Value} {d : Dk} (h : IsDk w v d) (hb : Below w.heap.size w w') : IsDk w' v d := by
  obtain ⟨a, c, a', c', rfl, hs, hw, h1, h2⟩ := h
  exact ⟨a, c, a', c', rfl, hs.below hb, hw.below hb, h1, h2⟩

/-- Is it a place? -/
def placeB (n : Int) : Bool := decide (0 ≤ n) && decide (n < 37)
/-- Has a text the size of a block? -/
def fitsB (s : ByteArray) : Bool := (s.size : Int) == 32
/-- Is a write to a place, of a block? -/
def wrB (x : Int × ByteArray) : Bool := placeB x.1 && fitsB x.2
/-- Is it a disk? -/
def goodB (d : Dk) : Bool := decide (d.safe.length = 37) && decide (d.wr.length ≤ 200) && d.safe.all fitsB && d.wr.all wrB
/-- The text of the last of these writes to a place; else another. -/
def lastIn (n : Int) (dflt : ByteArray) : List (Int × ByteArray) → ByteArray
  | [] => dflt
  | x :: r => lastIn n (if x.1 = n then x.2 else dflt) r
/-- A block as it is. -/
def lastOf (d : Dk) (n : Int) : ByteArray := lastIn n (d.safe.getD n.toNat ByteArray.empty) d.wr

end Go.Proofs.YtjnpndfpajjihabGreat
