/-
  What two new blocks hold behind a call. Nothing of the program is proved here.
-/
import Derived.Test.YtjnpndfpajjihaaBoxes
import Derived.Test.YtjnpndfpajjihaaMRows
namespace Go.Proofs.Ytjnpndfpajjihaa
open Go.RowKit

/-- Blocks made first and second stay under what makes memory alone. -/
theorem keep1 {w w' : World} {o o2 : Obj} (hb : Below ((w.alloc o).alloc o2).heap.size ((w.alloc o).alloc o2) w') : w'.heap[w.heap.size]? = some o :=
  (hb.block _ (by simp; omega)).trans ((Below.heap_alloc _ _ _ (by simp)).trans (heap_alloc_new w o))
theorem keep2 {w w' : World} {o o2 : Obj} (hb : Below ((w.alloc o).alloc o2).heap.size ((w.alloc o).alloc o2) w') : w'.heap[w.heap.size + 1]? = some o2 := by
  have := heap_alloc_new (w.alloc o) o2
  simp at this
  exact (hb.block _ (by simp)).trans (by simpa using this)

end Go.Proofs.Ytjnpndfpajjihaa
