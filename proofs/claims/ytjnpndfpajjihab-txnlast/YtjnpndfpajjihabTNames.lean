/-
  The walk of a statement's own names: package txn answers at all.
-/
import Derived.Test.YtjnpndfpajjihabTChange
import Derived.Test.YtjnpndfpajjihabFitOwn
import Derived.Deep.RegionWith
namespace Go.Proofs.Ytjnpndfpajjihab
open Go.RowKit

def tx0 : Tx := ⟨1, [], [], [], ⟨false, 0⟩, ⟨false, 0⟩, ⟨false, 0⟩⟩
theorem tx0_is (w : World) : IsTx w (.agg #[.int .i64 1, .slice none 0 0, .slice none 0 0, .slice none 0 0, .bool false, .int .i64 0, .bool false, .int .i64 0, .bool false, .int .i64 0]) tx0 := ⟨none, 0, none, 0, none, 0, rfl, .inl rfl, .inl rfl, .inl rfl, Nat.zero_le _, Nat.zero_le _, Nat.zero_le _⟩
theorem begin0 : beginE tx0 2 3 24 = 0 := by decide +kernel
theorem begin0T : beginT tx0 2 3 24 = { tx0 with h2 := ⟨true, 3⟩ } := by rw [beginT, begin0]; rfl
theorem change0 (s : ByteArray) (h : fitsB s = true) : changeE { tx0 with h2 := ⟨true, 3⟩ } 2 5 s = 0 := by
  rw [changeE, if_neg (by decide +kernel), if_neg (by rw [h]; simp), if_neg (by decide +kernel)]; decide +kernel
theorem change0T (s : ByteArray) (h : fitsB s = true) : changeT { tx0 with h2 := ⟨true, 3⟩ } 2 5 s = { tx0 with h2 := ⟨true, 2⟩, info := [(5, s)] } := by
  rw [changeT, if_pos (change0 s h)]; rfl
theorem fitT_fits (s : ByteArray) : fitsB (fitT s) = true := by
  have : (fitT s).size = 32 := by
    show (fitL s).toArray.size = 32
    have hl : s.data.toList.length = s.size := rfl
    simp only [fitL, List.size_toArray, List.length_append, List.length_take, List.length_replicate]
    omega
  simp [fitsB, this]

end Go.Proofs.Ytjnpndfpajjihab
