/-
  The walks of the two marks: package stamp answers at all.
-/
import Derived.Test.YtjnpndfpajjihaaSUnesc
import Derived.Test.YtjnpndfpajjihaaSEsc
import Derived.Test.YtjnpndfpajjihaaEscRef
import Derived.Test.YtjnpndfpajjihaaEscOne
namespace Go.Proofs.Ytjnpndfpajjihaa
open Go.RowKit

theorem ten258 : (((⟨#[87, 66, 75, 49, 4, 0, 0, 1, 2, 0, 0, 0, 0, 0, 0, 0, 0, 0, 0, 0, 0, 0, 0, 0, 0, 0, 0, 0, 0, 0, 0, 0]⟩ : ByteArray).extract 0 10).toList == [87, 66, 75, 49, 4, 0, 0, 1, 2, 0]) = true := by kernel_rfl
theorem enc258 : encT ⟨4, 258, 0, [], []⟩ = ⟨#[87, 66, 75, 49, 4, 0, 0, 1, 2, 0, 0, 0, 0, 0, 0, 0, 0, 0, 0, 0, 0, 0, 0, 0, 0, 0, 0, 0, 0, 0, 0, 0]⟩ := by
  rw [encT, if_pos (by decide)]
  rfl
theorem good258 : goodM ⟨4, 258, 0, [], []⟩ = 0 := by decide
theorem is258 (w : World) : IsMk w (.agg #[.int .i64 4, .int .i64 258, .int .i64 0, .slice none 0 0, .slice none 0 0]) ⟨4, 258, 0, [], []⟩ := ⟨none, 0, none, 0, rfl, .inl rfl, .inl rfl, Nat.zero_le _, Nat.zero_le _⟩

set_option maxHeartbeats 1000000 in
set_option maxRecDepth 100000 in
theorem lawMarks_any (w : World) :
    Calls Try.prog 39 #[] w fun e w' => e = .returned (.bool true) ∧ Below w.heap.size w w' := by
  go_enter Try.func39, Try.ntmps39
  go_wp2_with fail
  refine (stampEncode_any _ ⟨4, 258, 0, [], []⟩ _ (is258 _)).mono ?_
  rintro e w1 ⟨rfl, hb1⟩
  rw [enc258, good258]
  have h10 := ten258
  have HB := hide hb1
  clear hb1
  go_wp2
  go_ret
  exact ⟨rfl, HB.out⟩

set_option maxHeartbeats 1000000 in
set_option maxRecDepth 100000 in
theorem keepMarks_any (w : World) :
    Calls Try.prog 47 #[] w fun e w' => e = .returned (.bool true) ∧ Below w.heap.size w w' := by
  go_enter Try.func47, Try.ntmps47
  go_wp2_with fail
  refine (stampEncode_any _ ⟨4, 258, 0, [], []⟩ _ (is258 _)).mono ?_
  rintro e w1 ⟨rfl, hb1⟩
  rw [enc258, good258]
  have h10 := ten258
  have HB := hide hb1
  clear hb1
  go_wp2
  go_ret
  exact ⟨rfl, HB.out⟩

end Go.Proofs.Ytjnpndfpajjihaa
