/-
  The walk of disk.Fit.
-/
import Derived.Test.YtjnpndfpajjihabGreatBase
import Derived.Test.YtjnpndfpajjihabGreatShelf
import Derived.Test.YtjnpndfpajjihabGreatFitPure
namespace Go.Proofs.YtjnpndfpajjihabGreat
open Go.RowKit

theorem repeatL_one (c : Nat) : Lib.repeatL [(0 : UInt8)] c = List.replicate c 0 := by
  induction c with
  | zero => rfl
  | succ k ih => simp [Lib.repeatL, List.replicate_succ, ih]

theorem fit_long (s : ByteArray) (h : 32 ≤ s.size) : fitT s = s.extract 0 32 := by
  apply ByteArray.ext
  rw [fitT, fitL, show 32 - s.size = 0 from by omega]
  apply Array.ext'
  simp [ByteArray.data_extract]

theorem fit_short (s z : ByteArray) (h : ¬ 32 ≤ s.size) (hz : z = ⟨(List.replicate (32 - s.size) 0).toArray⟩) : fitT s = s ++ z := by
  apply ByteArray.ext
  rw [ByteArray.data_append, hz]
  apply Array.ext'
  have hl : s.data.toList.length = s.size := rfl
  simp only [fitT, fitL, Array.toList_append]
  rw [List.take_of_length_le (by omega)]

theorem noughts (c : Nat) (w : World) (hc : c ≤ 32) :
    Calls Tryz.prog 102 #[.string ⟨#[0]⟩, .int .i64 c] w fun e w' => ∃ z : ByteArray, e = .returned (.string z) ∧ z = ⟨(List.replicate c 0).toArray⟩ ∧ Below w.heap.size w w' := by
  refine (Tryz.strings_Repeat ⟨#[0]⟩ c w (by omega) (by show 1 * c ≤ _; omega)).mono ?_
  rintro e w1 ⟨rfl, hb⟩
  exact ⟨_, rfl, by rw [repeatL_one], hb⟩

set_option maxHeartbeats 1000000 in
theorem fit_any (s : ByteArray) (w : World) (hs : s.size ≤ maxLen) :
    Calls Tryz.prog 57 #[.string s] w fun e w' => e = .returned (.string (fitT s)) ∧ Below w.heap.size w w' := by
  unfold maxLen at hs
  by_cases h : 32 ≤ s.size
  · have h' : (32 : Int) ≤ (s.size : Int) := by omega
    go_enter Tryz.func57, Tryz.ntmps57
    go_wp2
    go_ret
    refine ⟨?_, Below.refl _ _⟩
    rw [fit_long s h]; rfl
  · have h' : ¬ (32 : Int) ≤ (s.size : Int) := by omega
    go_enter Tryz.func57, Tryz.ntmps57
    have e32 : (32 : Int) - (s.size : Int) = ((32 - s.size : Nat) : Int) := by omega
    have HE : Hid ((32 : Int) - (s.size : Int) = ((32 - s.size : Nat) : Int)) := e32
    clear e32
    go_wp2_with fail
    rw [HE.out]
    refine (noughts (32 - s.size) _ (by omega)).mono ?_
    rintro e w1 ⟨z, rfl, hz, hb1⟩
    have hz1 : z.size ≤ 32 := by rw [hz]; show (List.replicate (32 - s.size) (0 : UInt8)).toArray.size ≤ 32; simp
    have HZ : Hid (fitT s = s ++ z) := fit_short s z h hz
    clear hz
    go_wp2
    go_ret
    exact ⟨by rw [HZ.out]; rfl, hb1⟩

end Go.Proofs.YtjnpndfpajjihabGreat
