/-
  The walk of the document's own byteOf.
-/
import Derived.Test.YtjnpndfpajjihaaByteOne
namespace Go.Proofs.Ytjnpndfpajjihaa
open Go.RowKit

set_option maxHeartbeats 1000000 in
theorem byteOf_any (n : Nat) (w : World) (hn : n < 256) :
    Calls Try.prog 74 #[.int .i64 n] w fun e w' => e = .returned (.string (oneB n)) ∧ Below w.heap.size w w' := by
  have hcv : (convert 80 9 (.slice (some ⟨w.heap.size, 0, none⟩) 1 1)).run Try.prog (w.alloc (Obj.cells #[.int .u8 (n : Int)] 5)) = .ok (.string (oneB n)) (w.alloc (Obj.cells #[.int .u8 (n : Int)] 5)) := by
    refine run_convert_bytes_back (P := Try.prog) _ 80 9 5 ⟨w.heap.size, 0, none⟩ 1 [UInt8.ofNat n] Try.underlying80 Try.underlying5 Try.underlying9 (fun j hj => ?_)
    have : j = 0 := by simp at hj; omega
    subst this
    have e : (UInt8.ofNat n).toNat = n := by simp; omega
    simp only [List.getElem_cons_zero, e]
    simp [Addr.add]
  have h0 : (0 : Int) ≤ (n : Int) := by omega
  have h1 : (n : Int) ≤ 255 := by omega
  go_enter Try.func74, Try.ntmps74
  go_wp2
  go_ret
  exact ⟨rfl, below1 _ _⟩

end Go.Proofs.Ytjnpndfpajjihaa
