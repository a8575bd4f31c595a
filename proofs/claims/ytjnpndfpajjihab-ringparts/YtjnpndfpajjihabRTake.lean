/-
  The walks of package ring's Give and Take.
-/
import Derived.Test.YtjnpndfpajjihabROwn
import Derived.Test.YtjnpndfpajjihabFillI
namespace Go.Proofs.Ytjnpndfpajjihab
open Go.RowKit

set_option maxHeartbeats 2000000 in
set_option maxRecDepth 100000 in
theorem ringGive_any (h u n : Int) (w : World) :
    Calls Try.prog 14 #[.agg #[.int .i64 h, .int .i64 u], .int .i64 n] w fun e w' => e = .returned (.tuple #[.agg #[.int .i64 h, .int .i64 (giveU h u n)], .int .i64 (giveE h u n)]) ∧ Below w.heap.size w w' := by
  go_enter Try.func14, Try.ntmps14
  go_wp2_with fail
  refine (ringGood_any h u _).mono ?_
  rintro e w1 ⟨rfl, hb1⟩
  have hs1 : w.heap.size + 1 < w1.heap.size := by have := hb1.size; simp at this; omega
  have hs1' : w.heap.size < w1.heap.size := by omega
  obtain ⟨⟨x0, x1⟩, _⟩ := box2 (two1 hb1)
  obtain ⟨⟨y0, y1⟩, f0, f1⟩ := box2 (two2 hb1)
  have HB := hide (bthen (bthen (below1 _ _) (below1 _ _)) hb1)
  clear hb1
  cases hg : goodR h u with
  | false =>
    have HE : Hid (giveE h u n = 2) := by simp [Hid, giveE, hg]
    have HU : Hid (giveU h u n = u) := by simp [Hid, giveU, HE.out]
    clear hg
    go_wp2
    refine bodyPost_ret (v := .tuple #[.agg #[.int .i64 h, .int .i64 u], .int .i64 2]) (by simp [results, Try.results14, go_sem, y0, y1]) rfl ⟨by rw [HE.out, HU.out], ?_⟩
    repeat refine Below.setCell ?_ (by simp) _
    exact HB.out
  | true =>
    have hb := goodR_yes hg
    cases hw : withinB n 0 u with
    | false =>
      have hno : n < 0 ∨ u < n := by simp [withinB] at hw; omega
      have HE : Hid (giveE h u n = 2) := by rw [Hid, giveE, if_pos (.inr hno)]
      have HU : Hid (giveU h u n = u) := by simp [Hid, giveU, HE.out]
      clear hg hno
      go_wp2_with (go_at_call 62; refine (within_any _ _ _ _).mono ?_; rintro e w' ⟨rfl, rfl⟩)
      refine bodyPost_ret (v := .tuple #[.agg #[.int .i64 h, .int .i64 u], .int .i64 2]) (by simp [results, Try.results14, go_sem, y0, y1]) rfl ⟨by rw [HE.out, HU.out], ?_⟩
      repeat refine Below.setCell ?_ (by simp) _
      exact HB.out
    | true =>
      have hn : 0 ≤ n ∧ n ≤ u := by simpa [withinB] using hw
      have HE : Hid (giveE h u n = 0) := by rw [Hid, giveE, if_neg (by rw [hg]; rintro (e | e); cases e; omega)]
      have HU : Hid (giveU h u n = u - n) := by simp [Hid, giveU, HE.out]
      clear hg
      go_wp2_with (go_at_call 62; refine (within_any _ _ _ _).mono ?_; rintro e w' ⟨rfl, rfl⟩)
      refine bodyPost_ret (v := .tuple #[.agg #[.int .i64 h, .int .i64 (u - n)], .int .i64 0]) (by simp [results, Try.results14, go_sem, y0, y1]) rfl ⟨by rw [HE.out, HU.out], ?_⟩
      repeat refine Below.setCell ?_ (by simp) _
      exact HB.out

end Go.Proofs.Ytjnpndfpajjihab
