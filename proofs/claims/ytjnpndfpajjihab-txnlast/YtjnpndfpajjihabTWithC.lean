/-
  The walks of package txn's with and without at []api.Copy.
-/
import Derived.Test.YtjnpndfpajjihabTAroundC
namespace Go.Proofs.Ytjnpndfpajjihab
open Go.RowKit

theorem aheadC_le (l : List (Int × ByteArray)) (b : Int) : (aheadC l b).length ≤ l.length := List.length_filter_le _ _
theorem behindC_le (l : List (Int × ByteArray)) (b : Int) : (behindC l b).length ≤ l.length := List.length_filter_le _ _

set_option maxHeartbeats 2000000 in
set_option maxRecDepth 100000 in
theorem withC_any (base : Nat) (v : Value) (l : List (Int × ByteArray)) (b : Int) (s : ByteArray) (w : World) (hown : w.ownsRow base 91 2 v l.length (cellsC l)) (hn : l.length ≤ 100) (hu : Up (·.1) l) :
    Calls Try.prog 82 #[v, .int .i64 b, .func (.func 83) #[] #[], .agg #[.int .i64 b, .string s]] w fun e w' => ∃ v', e = .returned v' ∧ w'.ownsRow w.heap.size 91 2 v' (putAt (·.1) l b (b, s)).length (cellsC (putAt (·.1) l b (b, s))) ∧ Below w.heap.size w w' := by
  have HO := hide hown
  clear hown
  go_enter Try.func82, Try.ntmps82
  go_wp2_with fail
  refine (aroundC_any base v l b _ (owns_keep HO.out (below1 _ _)) (by omega) hu).mono ?_
  rintro e w1 ⟨a1, c1, a2, c2, rfl, hs1, hs2, hb1⟩
  have HS1 := hide hs1
  have HS2 := hide hs2
  have hs1 : w.heap.size < w1.heap.size := by have := hb1.size; simp at this; omega
  have y0 := cellKeep hb1 (b := w.heap.size) (o := 0) (v := .int .i64 b) (by simp) (by simp [go_sem])
  have y1 := cellKeep hb1 (b := w.heap.size) (o := 1) (v := .string s) (by simp) (by simp [go_sem])
  have HB := hide (bthen (below1 _ _) hb1)
  have q1 := aheadC_le l b
  have q2 := behindC_le l b
  have hw1 := HB.out.size
  clear hs1 hs2 hb1
  have HL : Hid (∀ w', Below w1.heap.size w1 w' → w'.cell? ⟨w1.heap.size + 1, 0, none⟩ = some (.slice a1 (aheadC l b).length c1) → w'.cell? ⟨w1.heap.size + 1, 1, none⟩ = some (.slice (some ⟨w1.heap.size, 0, none⟩) 1 1) → w'.cell? ⟨w1.heap.size + 1, 2, none⟩ = some (.slice a2 (behindC l b).length c2) → SegW w' (some ⟨w1.heap.size, 0, none⟩) [(b, s)] → w1.heap.size + 1 < w'.heap.size → SegLC w' (w1.heap.size + 1) [(a1, c1, aheadC l b), (some ⟨w1.heap.size, 0, none⟩, 1, [(b, s)]), (a2, c2, behindC l b)]) := by
    intro w' hb d0 d1 d2 hseg hlt
    refine ⟨hlt, fun i x hx => ?_⟩
    match i, hx with
    | 0, hx => cases hx; exact ⟨d0, HS1.out.below hb⟩
    | 1, hx => cases hx; exact ⟨d1, hseg⟩
    | 2, hx => cases hx; exact ⟨d2, HS2.out.below hb⟩
    | n + 3, hx => simp at hx
  have HF : Hid (flatC [(a1, c1, aheadC l b), (some ⟨w1.heap.size, 0, none⟩, 1, [(b, s)]), (a2, c2, behindC l b)] = putAt (·.1) l b (b, s)) := by simp [Hid, flatC, aheadC, behindC, putAt]
  go_wp2_with fail
  refine (concatC_any (w1.heap.size + 1) 3 3 [(a1, c1, aheadC l b), (some ⟨w1.heap.size, 0, none⟩, 1, [(b, s)]), (a2, c2, behindC l b)] _ rfl (by omega) (HL.out _ (bthen (below1 _ _) (below1 _ _)) (by simp [go_sem]) (by simp [go_sem]) (by simp [go_sem]) (.inr ⟨w1.heap.size, 0, rfl, by simp; omega, fun i hi => ?_⟩) (by simp)) (by simp [flatC]; omega)).mono ?_
  · have : i = 0 := by simpa using hi
    subst this
    exact ⟨by simp [go_sem], by simp [go_sem]⟩
  · rintro e w2 ⟨v2, rfl, hown2, hb2⟩
    rw [HF.out] at hown2
    have HO2 := hide hown2
    have hb3 := bthen (bthen (below1 _ _) (below1 _ _)) hb2
    have HB3 := hide (bthen HB.out hb3)
    clear hown2 hb2
    go_wp2
    go_ret
    refine ⟨_, rfl, owns_base HO2.out ?_, HB3.out⟩
    simp
    omega

set_option maxHeartbeats 2000000 in
set_option maxRecDepth 100000 in
theorem withoutC_any (base : Nat) (v : Value) (l : List (Int × ByteArray)) (b : Int) (w : World) (hown : w.ownsRow base 91 2 v l.length (cellsC l)) (hn : l.length ≤ 100) (hu : Up (·.1) l) :
    Calls Try.prog 91 #[v, .int .i64 b, .func (.func 83) #[] #[]] w fun e w' => ∃ v', e = .returned v' ∧ w'.ownsRow w.heap.size 91 2 v' (dropAt (·.1) l b).length (cellsC (dropAt (·.1) l b)) ∧ Below w.heap.size w w' := by
  have HO := hide hown
  clear hown
  go_enter Try.func91, Try.ntmps91
  go_wp2_with fail
  refine (aroundC_any base v l b _ HO.out (by omega) hu).mono ?_
  rintro e w1 ⟨a1, c1, a2, c2, rfl, hs1, hs2, hb1⟩
  have HS1 := hide hs1
  have HS2 := hide hs2
  have HB := hide hb1
  have q1 := aheadC_le l b
  have q2 := behindC_le l b
  have hw1 := HB.out.size
  clear hs1 hs2 hb1
  have HL : Hid (∀ w', Below w1.heap.size w1 w' → w'.cell? ⟨w1.heap.size, 0, none⟩ = some (.slice a1 (aheadC l b).length c1) → w'.cell? ⟨w1.heap.size, 1, none⟩ = some (.slice a2 (behindC l b).length c2) → w1.heap.size < w'.heap.size → SegLC w' w1.heap.size [(a1, c1, aheadC l b), (a2, c2, behindC l b)]) := by
    intro w' hb d0 d2 hlt
    refine ⟨hlt, fun i x hx => ?_⟩
    match i, hx with
    | 0, hx => cases hx; exact ⟨d0, HS1.out.below hb⟩
    | 1, hx => cases hx; exact ⟨d2, HS2.out.below hb⟩
    | n + 2, hx => simp at hx
  have HF : Hid (flatC [(a1, c1, aheadC l b), (a2, c2, behindC l b)] = dropAt (·.1) l b) := by simp [Hid, flatC, aheadC, behindC, dropAt]
  go_wp2_with fail
  refine (concatC_any w1.heap.size 2 2 [(a1, c1, aheadC l b), (a2, c2, behindC l b)] _ rfl (by omega) (HL.out _ (below1 _ _) (by simp [go_sem]) (by simp [go_sem]) (by simp)) (by simp [flatC]; omega)).mono ?_
  rintro e w2 ⟨v2, rfl, hown2, hb2⟩
  rw [HF.out] at hown2
  have HO2 := hide hown2
  have HB3 := hide (bthen HB.out (bthen (below1 _ _) hb2))
  clear hown2 hb2
  go_wp2
  go_ret
  refine ⟨_, rfl, owns_base HO2.out ?_, HB3.out⟩
  simp
  omega

end Go.Proofs.Ytjnpndfpajjihab
