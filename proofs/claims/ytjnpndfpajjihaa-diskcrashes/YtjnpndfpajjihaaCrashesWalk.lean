/-
  The walk of the statement DiskCrashes: it says true at every disk and draw.
-/
import Derived.Test.YtjnpndfpajjihaaRefSame
import Derived.Test.YtjnpndfpajjihaaRefCrash
namespace Go.Proofs.Ytjnpndfpajjihaa
open Go.RowKit

set_option maxHeartbeats 4000000 in
set_option maxRecDepth 100000 in
theorem crashes_walk (v : Value) (d : Dk) (q : Int) (w : World) (h : IsDk w v d) (hq : q ≤ 9223372036854775807) (h16 : d.safe.length * 16 ≤ 140737488355328) (h24 : d.wr.length * 24 ≤ 140737488355328) :
    Calls Try.prog 4 #[v, .int .i64 q] w fun e w' => e = .returned (.bool true) ∧ Below w.heap.size w w' := by
  have HI := hide h
  obtain ⟨a, c, a', c', rfl, _, _, _, _⟩ := h
  go_enter Try.func4, Try.ntmps4
  go_wp2_with fail
  refine (copy_any _ d _ (HI.out.below (below1 _ _)) h16 h24).mono ?_
  rintro e w1 ⟨v1, rfl, hd1, hb1⟩
  have HD1 := hide hd1
  obtain ⟨a1, c1, a1', c1', rfl, _, _, _, _⟩ := hd1
  have hs1 : w.heap.size < w1.heap.size := by have := hb1.size; simp at this; omega
  have x0 := cellKeep hb1 (b := w.heap.size) (o := 0) (v := .slice a d.safe.length c) (by simp) (by simp [go_sem])
  have x1 := cellKeep hb1 (b := w.heap.size) (o := 1) (v := .slice a' d.wr.length c') (by simp) (by simp [go_sem])
  have hb2 := bthen (below1 _ _) hb1
  clear hb1
  go_wp2_with fail
  refine (crash_any _ d q _ (HD1.out.below (below1 _ _)) hq).mono ?_
  rintro e w2 ⟨v2, rfl, hd2, _, hb3⟩
  have HD2 := hide hd2
  obtain ⟨a2, c2, a2', c2', rfl, _, _, _, _⟩ := hd2
  have hs2 : w1.heap.size < w2.heap.size := by have := hb3.size; simp at this; omega
  have y0 := cellKeep hb3 (b := w1.heap.size) (o := 0) (v := .slice a1 d.safe.length c1) (by simp) (by simp [go_sem])
  have y1 := cellKeep hb3 (b := w1.heap.size) (o := 1) (v := .slice a1' d.wr.length c1') (by simp) (by simp [go_sem])
  have hb4 : Below w1.heap.size w1 w2 := bthen (below1 _ _) hb3
  have x2 := cellKeep hb4 hs1 x0
  have x3 := cellKeep hb4 hs1 x1
  have hs3 : w.heap.size < w2.heap.size := by omega
  clear hb3 x0 x1
  go_wp2_with fail
  refine (crashRef_any _ d q _ (HI.out.below (bthen (bthen hb2 hb4) (below1 _ _))) hq).mono ?_
  rintro e w3 ⟨v3, rfl, hd3, hb5⟩
  have HD3 := hide hd3
  obtain ⟨a3, c3, a3', c3', rfl, _, _, _, _⟩ := hd3
  generalize crashE d q = ce
  generalize crashK d q = ck at *
  have hs4 : w2.heap.size < w3.heap.size := by have := hb5.size; simp at this; omega
  have z0 := cellKeep hb5 (b := w2.heap.size) (o := 0) (v := .slice a2 ck.safe.length c2) (by simp) (by simp [go_sem])
  have z1 := cellKeep hb5 (b := w2.heap.size) (o := 1) (v := .slice a2' ck.wr.length c2') (by simp) (by simp [go_sem])
  have hb6 : Below w2.heap.size w2 w3 := bthen (below1 _ _) hb5
  have x4 := cellKeep hb6 (by omega) x2
  have x5 := cellKeep hb6 (by omega) x3
  have y2 := cellKeep hb6 (by omega) y0
  have y3 := cellKeep hb6 (by omega) y1
  clear hb5 x2 x3 y0 y1
  go_wp2_with fail
  refine (sameRef_any _ _ ck _ (HD2.out.below (bthen hb6 (below1 _ _))) (HD3.out.below (below1 _ _))).mono ?_
  rintro e w4 ⟨rfl, hb7⟩
  have hb8 : Below w3.heap.size w3 w4 := bthen (below1 _ _) hb7
  have hs5 : w3.heap.size < w4.heap.size := by have := hb7.size; simp at this; omega
  have x6 := cellKeep hb8 (by omega) x4
  have x7 := cellKeep hb8 (by omega) x5
  have y4 := cellKeep hb8 (by omega) y2
  have y5 := cellKeep hb8 (by omega) y3
  have hb9 := bthen hb6 hb8
  clear hb6 hb7 hb8 x4 x5 y2 y3 z0 z1
  go_wp2_with fail
  refine (sameRef_any _ _ d _ (HD1.out.below (bthen hb4 hb9)) (HI.out.below (bthen hb2 (bthen hb4 hb9)))).mono ?_
  rintro e w5 ⟨rfl, hb10⟩
  have hb11 := bthen (bthen hb2 (bthen hb4 hb9)) hb10
  clear x6 x7 y4 y5 hb2 hb4 hb9 hb10
  go_wp2_with fail
  refine (turnsLaw_any _).mono ?_
  rintro e w6 ⟨rfl, hb12⟩
  have HB := hide (bthen hb11 hb12)
  clear hb11 hb12
  go_wp2
  go_ret
  exact ⟨rfl, HB.out⟩

end Go.Proofs.Ytjnpndfpajjihaa
