/-
  The texts that a place may have behind a crash, as plain data. Nothing of the program is proved here.
-/
import Derived.Test.YtjnpndfpajjihaaClone
namespace Go.Proofs.Ytjnpndfpajjihaa
open Go.RowKit

/-- The texts of these writes to a place. -/
def atPlace (n : Int) : List (Int × ByteArray) → List ByteArray
  | [] => []
  | x :: r => if x.1 = n then x.2 :: atPlace n r else atPlace n r
/-- The texts that a place may have: the safe one, and behind it those of its writes. -/
def waysTo (d : Dk) (n k : Nat) : List ByteArray := d.safe.getD n ByteArray.empty :: atPlace n (d.wr.take k)
def ways (d : Dk) (n : Nat) : List ByteArray := d.safe.getD n ByteArray.empty :: atPlace n d.wr

theorem atPlace_snoc (n : Int) (l : List (Int × ByteArray)) (x : Int × ByteArray) : atPlace n (l ++ [x]) = if x.1 = n then atPlace n l ++ [x.2] else atPlace n l := by
  induction l with
  | nil => simp [atPlace]
  | cons y r ih => by_cases h : y.1 = n <;> by_cases h' : x.1 = n <;> simp [atPlace, h, h'] <;> simpa [h'] using ih
theorem atPlace_length (n : Int) (l : List (Int × ByteArray)) : (atPlace n l).length ≤ l.length := by
  induction l with
  | nil => simp [atPlace]
  | cons y r ih => by_cases h : y.1 = n <;> simp [atPlace, h] <;> omega
theorem waysTo_hit (d : Dk) (n k : Nat) (x : Int × ByteArray) (h : d.wr[k]? = some x) (hx : x.1 = n) : waysTo d n (k + 1) = waysTo d n k ++ [x.2] := by
  rw [waysTo, List.take_add_one, h]
  simp only [Option.toList_some]
  rw [atPlace_snoc, if_pos hx]; rfl
theorem waysTo_miss (d : Dk) (n k : Nat) (x : Int × ByteArray) (h : d.wr[k]? = some x) (hx : ¬ x.1 = n) : waysTo d n (k + 1) = waysTo d n k := by
  rw [waysTo, List.take_add_one, h]
  simp only [Option.toList_some]
  rw [atPlace_snoc, if_neg hx]; rfl
theorem waysTo_length (d : Dk) (n k : Nat) (h : d.wr.length ≤ 200) : 1 ≤ (waysTo d n k).length ∧ (waysTo d n k).length ≤ 201 := by
  have := atPlace_length n (d.wr.take k)
  have h2 : (d.wr.take k).length ≤ d.wr.length := by rw [List.length_take]; omega
  simp only [waysTo, List.length_cons]
  omega


end Go.Proofs.Ytjnpndfpajjihaa
