/-
  The walks of rings, and of the statement RingNeeds.
-/
import Derived.Test.YtjnpndfpajjihaaRTake2
import Derived.Test.YtjnpndfpajjihaaRRing
import Derived.Test.YtjnpndfpajjihaaRNeedOwn
import Derived.Test.YtjnpndfpajjihaaRNeed
namespace Go.Proofs.Ytjnpndfpajjihaa
open Go.RowKit

theorem take223 : takeH 22 0 3 = 1 ∧ takeU 22 0 3 = 3 ∧ takeL 22 0 3 = [22, 23, 0] ∧ takeE 22 0 3 = 0 := by decide

set_option maxHeartbeats 2000000 in
set_option maxRecDepth 100000 in
theorem lawRings_any (w : World) :
    Calls Try.prog 57 #[] w fun e w' => e = .returned (.bool true) ∧ Below w.heap.size w w' := by
  go_enter Try.func57, Try.ntmps57
  go_wp2_with fail
  refine (ringTake_any 22 0 3 _).mono ?_
  rintro e w1 ⟨a2, c2, rfl, ⟨hS, _⟩, hb1⟩
  obtain ⟨t1, t2, t3, t4⟩ := take223
  rw [t1, t2, t3, t4]
  rw [t3] at hS
  obtain ⟨b, off, rfl, hlt, hc⟩ := hS.resolve_left (by simp)
  have c2' := hc 2 (by decide)
  simp at c2'
  have HB := hide hb1
  have hlt' : ¬ b = w1.heap.size := by omega
  clear hS hc hb1
  go_wp2
  go_ret
  exact ⟨rfl, bthen HB.out (below1 _ _)⟩

set_option maxHeartbeats 2000000 in
set_option maxRecDepth 100000 in
theorem ringNeeds_walk (m r : Int) (w : World) :
    Calls Try.prog 14 #[.int .i64 m, .int .i64 r] w fun e w' => e = .returned (.bool true) ∧ Below w.heap.size w w' := by
  go_enter Try.func14, Try.ntmps14
  go_wp2_with fail
  refine (ringNeed_any m r _).mono ?_
  rintro e w1 ⟨rfl, rfl⟩
  go_wp2_with fail
  refine (needOf_any m r _).mono ?_
  rintro e w1 ⟨rfl, rfl⟩
  generalize needN m r = x
  generalize needE m r = y
  go_wp2_with fail
  refine (ringMost_any m _).mono ?_
  rintro e w1 ⟨rfl, rfl⟩
  go_wp2_with fail
  refine (mostOf_any m _).mono ?_
  rintro e w1 ⟨rfl, rfl⟩
  generalize mostN m = z
  go_wp2_with fail
  refine (lawRings_any _).mono ?_
  rintro e w1 ⟨rfl, hb1⟩
  have HB := hide hb1
  clear hb1
  go_wp2
  go_ret
  exact ⟨rfl, HB.out⟩

end Go.Proofs.Ytjnpndfpajjihaa
