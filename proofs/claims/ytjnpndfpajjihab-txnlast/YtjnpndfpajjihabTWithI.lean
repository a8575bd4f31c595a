/-
  The walks of package txn's with and without at []int.
-/
import Derived.Test.YtjnpndfpajjihabTAroundI
namespace Go.Proofs.Ytjnpndfpajjihab
open Go.RowKit

theorem aheadI_le (l : List Int) (b : Int) : (aheadI l b).length ≤ l.length := List.length_filter_le _ _
theorem behindI_le (l : List Int) (b : Int) : (behindI l b).length ≤ l.length := List.length_filter_le _ _

set_option maxHeartbeats 2000000 in
set_option maxRecDepth 100000 in
theorem withI_any (base : Nat) (v : Value) (l : List Int) (b : Int) (w : World) (hown : w.ownsRow base 3 1 v l.length (cellsI l)) (hn : l.length ≤ 100) (hu : Up id l) :
    Calls Try.prog 92 #[v, .int .i64 b, .func (.func 85) #[] #[], .int .i64 b] w fun e w' => ∃ v', e = .returned v' ∧ w'.ownsRow w.heap.size 3 1 v' (putAt id l b b).length (cellsI (putAt id l b b)) ∧ Below w.heap.size w w' := by
  have HO := hide hown
  clear hown
  go_enter Try.func92, Try.ntmps92
  go_wp2_with fail
  refine (aroundI_any base v l b _ HO.out (by omega) hu).mono ?_
  rintro e w1 ⟨a1, c1, a2, c2, rfl, hs1, hs2, hb1⟩
  have HS1 := hide hs1
  have HS2 := hide hs2

  have HB := hide hb1
  have q1 := aheadI_le l b
  have q2 := behindI_le l b
  have hw1 := HB.out.size
  clear hs1 hs2 hb1
  have HL : Hid (∀ w', Below w1.heap.size w1 w' → w'.cell? ⟨w1.heap.size + 1, 0, none⟩ = some (.slice a1 (aheadI l b).length c1) → w'.cell? ⟨w1.heap.size + 1, 1, none⟩ = some (.slice (some ⟨w1.heap.size, 0, none⟩) 1 1) → w'.cell? ⟨w1.heap.size + 1, 2, none⟩ = some (.slice a2 (behindI l b).length c2) → SegI w' (some ⟨w1.heap.size, 0, none⟩) [b] → w1.heap.size + 1 < w'.heap.size → SegLI w' (w1.heap.size + 1) [(a1, c1, aheadI l b), (some ⟨w1.heap.size, 0, none⟩, 1, [b]), (a2, c2, behindI l b)]) := by
    intro w' hb d0 d1 d2 hseg hlt
    refine ⟨hlt, fun i x hx => ?_⟩
    match i, hx with
    | 0, hx => cases hx; exact ⟨d0, HS1.out.below hb⟩
    | 1, hx => cases hx; exact ⟨d1, hseg⟩
    | 2, hx => cases hx; exact ⟨d2, HS2.out.below hb⟩
    | n + 3, hx => simp at hx
  have HF : Hid (flatI [(a1, c1, aheadI l b), (some ⟨w1.heap.size, 0, none⟩, 1, [b]), (a2, c2, behindI l b)] = putAt id l b b) := by simp [Hid, flatI, aheadI, behindI, putAt]
  go_wp2_with fail
  refine (concatI_any (w1.heap.size + 1) 3 3 [(a1, c1, aheadI l b), (some ⟨w1.heap.size, 0, none⟩, 1, [b]), (a2, c2, behindI l b)] _ rfl (by omega) (HL.out _ (bthen (below1 _ _) (below1 _ _)) (by simp [go_sem]) (by simp [go_sem]) (by simp [go_sem]) (.inr ⟨w1.heap.size, 0, rfl, by simp; omega, fun i hi => ?_⟩) (by simp)) (by simp [flatI]; omega)).mono ?_
  · have : i = 0 := by simpa using hi
    subst this
    simp [go_sem]
  · rintro e w2 ⟨v2, rfl, hown2, hb2⟩
    rw [HF.out] at hown2
    have HO2 := hide hown2
    have hb3 := bthen (bthen (below1 _ _) (below1 _ _)) hb2
    have HB3 := hide (bthen HB.out hb3)
    clear hown2 hb2
    go_wp2
    go_ret
    refine ⟨_, rfl, owns_base HO2.out ?_, HB3.out⟩
    simp
    omega

set_option maxHeartbeats 2000000 in
set_option maxRecDepth 100000 in
theorem withoutI_any (base : Nat) (v : Value) (l : List Int) (b : Int) (w : World) (hown : w.ownsRow base 3 1 v l.length (cellsI l)) (hn : l.length ≤ 100) (hu : Up id l) :
    Calls Try.prog 84 #[v, .int .i64 b, .func (.func 85) #[] #[]] w fun e w' => ∃ v', e = .returned v' ∧ w'.ownsRow w.heap.size 3 1 v' (dropAt id l b).length (cellsI (dropAt id l b)) ∧ Below w.heap.size w w' := by
  have HO := hide hown
  clear hown
  go_enter Try.func84, Try.ntmps84
  go_wp2_with fail
  refine (aroundI_any base v l b _ HO.out (by omega) hu).mono ?_
  rintro e w1 ⟨a1, c1, a2, c2, rfl, hs1, hs2, hb1⟩
  have HS1 := hide hs1
  have HS2 := hide hs2
  have HB := hide hb1
  have q1 := aheadI_le l b
  have q2 := behindI_le l b
  have hw1 := HB.out.size
  clear hs1 hs2 hb1
  have HL : Hid (∀ w', Below w1.heap.size w1 w' → w'.cell? ⟨w1.heap.size, 0, none⟩ = some (.slice a1 (aheadI l b).length c1) → w'.cell? ⟨w1.heap.size, 1, none⟩ = some (.slice a2 (behindI l b).length c2) → w1.heap.size < w'.heap.size → SegLI w' w1.heap.size [(a1, c1, aheadI l b), (a2, c2, behindI l b)]) := by
    intro w' hb d0 d2 hlt
    refine ⟨hlt, fun i x hx => ?_⟩
    match i, hx with
    | 0, hx => cases hx; exact ⟨d0, HS1.out.below hb⟩
    | 1, hx => cases hx; exact ⟨d2, HS2.out.below hb⟩
    | n + 2, hx => simp at hx
  have HF : Hid (flatI [(a1, c1, aheadI l b), (a2, c2, behindI l b)] = dropAt id l b) := by simp [Hid, flatI, aheadI, behindI, dropAt]
  go_wp2_with fail
  refine (concatI_any w1.heap.size 2 2 [(a1, c1, aheadI l b), (a2, c2, behindI l b)] _ rfl (by omega) (HL.out _ (below1 _ _) (by simp [go_sem]) (by simp [go_sem]) (by simp)) (by simp [flatI]; omega)).mono ?_
  rintro e w2 ⟨v2, rfl, hown2, hb2⟩
  rw [HF.out] at hown2
  have HO2 := hide hown2
  have HB3 := hide (bthen HB.out (bthen (below1 _ _) hb2))
  clear hown2 hb2
  go_wp2
  go_ret
  refine ⟨_, rfl, owns_base HO2.out ?_, HB3.out⟩
  simp
  omega

end Go.Proofs.Ytjnpndfpajjihab
