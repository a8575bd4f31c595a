/-
  The walks of cmp.Compare at numbers and of package txn's byBlock.
-/
import Derived.Test.YtjnpndfpajjihabTPure
namespace Go.Proofs.Ytjnpndfpajjihab
open Go.RowKit

/-- Less, equal or greater. -/
def cmpI (x y : Int) : Int := if x < y then -1 else if y < x then 1 else 0
theorem cmpI_lt {x y : Int} (h : x < y) : cmpI x y = -1 := by rw [cmpI, if_pos h]
theorem cmpI_ge {x y : Int} (h : ¬ x < y) : ¬ cmpI x y < 0 := by rw [cmpI, if_neg h]; split <;> omega
theorem cmpI_zero (x y : Int) : (cmpI x y == 0) = (x == y) := by
  unfold cmpI
  by_cases h1 : x < y
  · rw [if_pos h1, show (x == y) = false from by simp; omega]; rfl
  · by_cases h2 : y < x
    · rw [if_neg h1, if_pos h2, show (x == y) = false from by simp; omega]; rfl
    · rw [if_neg h1, if_neg h2, show (x == y) = true from by simp; omega]; rfl
theorem up_lt {α : Type} {key : α → Int} {l : List α} (h : Up key l) (b : Int) {t : Nat} {x : α} (hx : l[t]? = some x) : key x < b ↔ t < l.countP fun x => decide (key x < b) := by
  have hc := up_cut h b
  constructor
  · intro hk
    by_cases e : t < l.countP fun x => decide (key x < b)
    · exact e
    · have : x ∈ l.drop (l.countP fun x => decide (key x < b)) := by
        refine List.mem_of_getElem? (i := t - l.countP fun x => decide (key x < b)) ?_
        rw [List.getElem?_drop, ← hx]
        congr 1; omega
      rw [hc.2] at this
      have := (List.mem_filter.1 this).2
      simp at this
      omega
  · intro e
    have : x ∈ l.take (l.countP fun x => decide (key x < b)) := by
      refine List.mem_of_getElem? (i := t) ?_
      rw [List.getElem?_take_of_lt e]; exact hx
    rw [hc.1] at this
    have := (List.mem_filter.1 this).2
    simpa using this

set_option maxHeartbeats 400000 in
theorem compare_any (x y : Int) (w : World) :
    Calls Try.prog 85 #[.int .i64 x, .int .i64 y] w fun e w' => e = .returned (.int .i64 (cmpI x y)) ∧ w = w' := by
  by_cases h1 : x < y
  · have HC := hide (cmpI_lt h1)
    go_enter Try.func85, Try.ntmps85
    go_wp2
    go_ret
    exact ⟨by rw [HC.out]; rfl, rfl⟩
  · by_cases h2 : y < x
    · have HC : Hid (cmpI x y = 1) := by rw [Hid, cmpI, if_neg h1, if_pos h2]
      go_enter Try.func85, Try.ntmps85
      go_wp2
      go_ret
      exact ⟨by rw [HC.out]; rfl, rfl⟩
    · have HC : Hid (cmpI x y = 0) := by rw [Hid, cmpI, if_neg h1, if_neg h2]
      go_enter Try.func85, Try.ntmps85
      go_wp2
      go_ret
      exact ⟨by rw [HC.out]; rfl, rfl⟩
theorem compareB_any (x y : Int) (w : World) :
    Calls Try.prog 85 #[.int .i64 x, .int .i64 y] w fun e w' => e = .returned (.int .i64 (cmpI x y)) ∧ Below w.heap.size w w' :=
  (compare_any x y w).mono fun _ _ ⟨h1, h2⟩ => ⟨h1, h2 ▸ Below.refl _ _⟩

set_option maxHeartbeats 400000 in
theorem byBlock_any (n : Int) (t : ByteArray) (b : Int) (w : World) :
    Calls Try.prog 83 #[.agg #[.int .i64 n, .string t], .int .i64 b] w fun e w' => e = .returned (.int .i64 (cmpI n b)) ∧ Below w.heap.size w w' := by
  go_enter Try.func83, Try.ntmps83
  go_wp2_with (go_at_call 85; refine (compare_any _ _ _).mono ?_; rintro e w' ⟨rfl, rfl⟩)
  go_ret
  exact ⟨rfl, below1 _ _⟩

end Go.Proofs.Ytjnpndfpajjihab
