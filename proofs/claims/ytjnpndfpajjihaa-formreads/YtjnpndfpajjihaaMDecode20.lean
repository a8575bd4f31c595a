/-
  The walk of the document's own DecodeMark: a block of a kind that bears nothing but its number.
-/
import Derived.Test.YtjnpndfpajjihaaMDecode0
import Derived.Test.YtjnpndfpajjihaaMRising0
namespace Go.Proofs.Ytjnpndfpajjihaa
open Go.RowKit

/-- The byte at a place, as a number; the Seq that stands in a block. -/
def at8 (s : ByteArray) (k : Nat) : Int := ((s.get! k).toNat : Int)
def seqOf (s : ByteArray) : Nat → Int
  | 0 => 0
  | k + 1 => 256 * seqOf s k + at8 s (k + 5)
theorem at8_of (s : ByteArray) (k : Nat) (h : k < s.size) : ((s[k]'h).toNat : Int) = at8 s k := by
  unfold at8
  congr 2
  exact (getElem!_pos s.data k h).symm
theorem at8_in (s : ByteArray) (k : Nat) : 0 ≤ at8 s k ∧ at8 s k ≤ 255 := by
  unfold at8
  have := (s.get! k).toNat_lt
  omega
theorem seqOf_in (s : ByteArray) (k : Nat) (h : k ≤ 4) : 0 ≤ seqOf s k ∧ seqOf s k < 256 ^ k := by
  induction k with
  | zero => exact ⟨Int.le_refl _, by show (0 : Int) < 1; decide⟩
  | succ k ih =>
    have := ih (by omega)
    have := at8_in s (k + 5)
    rw [seqOf, Int.pow_succ]
    omega
theorem seqOf_lt (s : ByteArray) (k : Nat) (h : k ≤ 4) : 0 ≤ seqOf s k ∧ seqOf s k ≤ 4294967295 := by
  have h1 := seqOf_in s k h
  have : (256 : Int) ^ k ≤ 256 ^ 4 := by
    match k, h with
    | 0, _ => decide
    | 1, _ => decide
    | 2, _ => decide
    | 3, _ => decide
    | 4, _ => decide
  omega
theorem wrap_at8 (s : ByteArray) (k : Nat) : wrap64 (at8 s k) = at8 s k := by
  have := at8_in s k
  unfold wrap64
  omega

theorem new2 (w : World) (o o2 : Obj) : ((w.alloc o).alloc o2).heap[w.heap.size + 1]? = some o2 := by
  have := heap_alloc_new (w.alloc o) o2
  simpa using this
theorem keepR {w w' : World} {o : Obj} (hb : Below (w.heap.size + 1) (w.alloc o) w') : w'.heap[w.heap.size]? = some o :=
  (hb.block _ (by omega)).trans (heap_alloc_new w o)

/-- What Decode answers of a mark that was read, where what stands behind it is all noughts, or is not. -/
def decOf (m : Mk) (z : Bool) : Mk × Int := if goodM m = 0 ∧ z = true then (m, 0) else (zeroM, 1)
theorem decOf_bad {m : Mk} (z : Bool) (h : ¬ goodM m = 0) : decOf m z = (zeroM, 1) := if_neg fun e => h e.1
theorem decOf_behind (m : Mk) {z : Bool} (h : z = false) : decOf m z = (zeroM, 1) := if_neg fun e => by rw [h] at e; exact absurd e.2 (by decide)
theorem decOf_good {m : Mk} {z : Bool} (h : goodM m = 0) (hz : z = true) : decOf m z = (m, 0) := if_pos ⟨h, hz⟩
end Go.Proofs.Ytjnpndfpajjihaa
