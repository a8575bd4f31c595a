/-
  The walk of the statements' own turns: disk answers, and says true.
-/
import Derived.Test.YtjnpndfpajjihaaRep
import Derived.Test.YtjnpndfpajjihaaSame
namespace Go.Proofs.Ytjnpndfpajjihaa
open Go.RowKit

theorem good_new : goodB newK = true := by kernel_rfl
theorem put_new : putE newK 3 (fitT ⟨#[97]⟩) = 0 := by kernel_rfl
theorem read_new : readE (putK newK 3 (fitT ⟨#[97]⟩)) 3 = 0 := by kernel_rfl
theorem text_new : readT (putK newK 3 (fitT ⟨#[97]⟩)) 3 = ⟨#[97, 0, 0, 0, 0, 0, 0, 0, 0, 0, 0, 0, 0, 0, 0, 0, 0, 0, 0, 0, 0, 0, 0, 0, 0, 0, 0, 0, 0, 0, 0, 0]⟩ := by kernel_rfl
theorem wr_new : (putK newK 3 (fitT ⟨#[97]⟩)).wr.length = 1 := by kernel_rfl

set_option maxHeartbeats 1000000 in
set_option maxRecDepth 100000 in
theorem turns_any (w : World) :
    Calls Try.prog 32 #[] w fun e w' => e = .returned (.bool true) ∧ Below w.heap.size w w' := by
  go_enter Try.func32, Try.ntmps32
  go_wp2_with fail
  refine (new_any _).mono ?_
  rintro e w1 ⟨v1, rfl, hd1, hb1⟩
  have HD1 : Hid (IsDk w1 v1 newK) := hd1
  clear hd1
  go_wp2_with fail
  refine (fit_any ⟨#[97]⟩ _ (by decide)).mono ?_
  rintro e w2 ⟨rfl, hb2⟩
  go_wp2_with fail
  refine (put_any v1 newK 3 _ _ (HD1.out.below hb2)).mono ?_
  rintro e w3 ⟨v3, rfl, hd3, _, hb3⟩
  rw [put_new]
  have hT := text_new
  have hR := read_new
  have hW := wr_new
  generalize putK newK 3 (fitT ⟨#[97]⟩) = d3 at hd3 hT hR hW
  have HD3 : Hid (IsDk w3 v3 d3) := hd3
  have HT : Hid (readT d3 3 = ⟨#[97, 0, 0, 0, 0, 0, 0, 0, 0, 0, 0, 0, 0, 0, 0, 0, 0, 0, 0, 0, 0, 0, 0, 0, 0, 0, 0, 0, 0, 0, 0, 0]⟩ ∧ readE d3 3 = 0) := ⟨hT, hR⟩
  have HW : Hid (d3.wr.length = 1) := hW
  clear hT hR hW
  have hb4 := bthen (bthen hb1 hb2) hb3
  obtain ⟨a3, c3, a3', c3', rfl, _, _, _, _⟩ := hd3
  clear hb1 hb2 hb3
  go_wp2_with fail
  refine (read_any _ d3 3 _ (HD3.out.below (below1 _ _))).mono ?_
  rintro e w4 ⟨rfl, hb5⟩
  rw [HT.out.1, HT.out.2]
  have x1 := cellKeep hb5 (b := w3.heap.size) (o := 1) (v := .slice a3' d3.wr.length c3') (by simp) (by simp [go_sem])
  have HB : Hid (Below w.heap.size w w4) := bthen hb4 (bthen (below1 _ _) hb5)
  rw [HW.out] at x1
  clear hb4 hb5
  go_wp2
  go_ret
  exact ⟨rfl, HB.out⟩

end Go.Proofs.Ytjnpndfpajjihaa
