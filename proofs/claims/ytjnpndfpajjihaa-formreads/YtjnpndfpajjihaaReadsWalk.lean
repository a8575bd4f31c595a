/-
  The walk of the statement FormReads.
-/
import Derived.Test.YtjnpndfpajjihaaSMarks
import Derived.Test.YtjnpndfpajjihaaMPure2
import Derived.Test.YtjnpndfpajjihaaMRefSame
namespace Go.Proofs.Ytjnpndfpajjihaa
open Go.RowKit

set_option maxHeartbeats 2000000 in
set_option maxRecDepth 100000 in
theorem reads_walk (s : ByteArray) (w : World) :
    Calls Try.prog 8 #[.string s] w fun e w' => e = .returned (.bool true) ∧ Below w.heap.size w w' := by
  go_enter Try.func8, Try.ntmps8
  go_wp2_with fail
  refine (stampDecode_any s _).mono ?_
  rintro e w1 ⟨v1, rfl, hd1, hb1⟩
  have HD1 := hide hd1
  obtain ⟨a, c, a', c', rfl, _, _, _, _⟩ := hd1
  have HB1 := hide hb1
  clear hb1
  go_wp2_with fail
  refine (decodeMark_any s _).mono ?_
  rintro e w2 ⟨v2, rfl, hd2, hb2⟩
  have HD2 := hide hd2
  obtain ⟨b, d, b', d', rfl, _, _, _, _⟩ := hd2
  generalize stampDec s = R at *
  obtain ⟨m, x⟩ := R
  dsimp only at *
  have hs2 : w1.heap.size < w2.heap.size := by have := hb2.size; simp at this; omega
  obtain ⟨⟨x0, x1, x2, x3, x4⟩, _⟩ := box5 (keep0 hb2)
  have HB2 := hide (bthen (below1 _ _) hb2)
  clear hb2
  go_wp2_with fail
  refine (refSameMark_any _ _ m _ (HD1.out.below (bthen HB2.out (below1 _ _))) (HD2.out.below (below1 _ _))).mono ?_
  rintro e w3 ⟨rfl, hb3⟩
  have HB3 := hide (bthen (bthen HB1.out HB2.out) (bthen (below1 _ _) hb3))
  clear hb3 x0 x1 x2 x3 x4
  go_wp2_with fail
  refine (lawMarks_any _).mono ?_
  rintro e w4 ⟨rfl, hb4⟩
  have HB4 := hide (bthen HB3.out hb4)
  clear hb4
  go_wp2
  go_ret
  exact ⟨rfl, HB4.out⟩

end Go.Proofs.Ytjnpndfpajjihaa
