/-
  A ring as plain data, and what Good, Give and Take answer. Nothing of the program is proved here.
  The walks of package ring's small functions, of Good, Free and Tail.
  The walk of package ring's Need.
-/
import Derived.Test.YtjnpndfpajjihabIntRows
import Derived.Test.YtjnpndfpajjihabBoxes
import Derived.Test.YtjnpndfpajjihabWithin
import Derived.Test.YtjnpndfpajjihabRMostOwn
namespace Go.Proofs.Ytjnpndfpajjihab
open Go.RowKit

/-- Is it a ring? -/
def goodR (h u : Int) : Bool := decide (0 ≤ h) && decide (h ≤ 23) && decide (0 ≤ u) && decide (u ≤ 24)
theorem goodR_yes {h u : Int} (e : goodR h u = true) : 0 ≤ h ∧ h ≤ 23 ∧ 0 ≤ u ∧ u ≤ 24 := by
  simpa [goodR, and_assoc] using e

/-- What Give answers. -/
def giveE (h u n : Int) : Int := if goodR h u = false ∨ n < 0 ∨ u < n then 2 else 0
def giveU (h u n : Int) : Int := if giveE h u n = 0 then u - n else u

/-- What Take answers. -/
def takeE (h u n : Int) : Int := if goodR h u = false ∨ n < 0 then 2 else if 24 - u < n then 6 else 0
def placesOf (h : Int) (n : Nat) : List Int := (List.range n).map fun (i : Nat) => (h + (i : Int)) % 24
def takeH (h u n : Int) : Int := if takeE h u n = 0 then (h + n) % 24 else h
def takeU (h u n : Int) : Int := if takeE h u n = 0 then u + n else u
def takeL (h u n : Int) : List Int := if takeE h u n = 0 then placesOf h n.toNat else []
theorem places_length (h : Int) (n : Nat) : (placesOf h n).length = n := by simp [placesOf]
theorem places_succ (h : Int) (n : Nat) : placesOf h (n + 1) = placesOf h n ++ [(h + (n : Int)) % 24] := by simp [placesOf, List.range_succ]


set_option maxHeartbeats 400000 in
theorem within_any (n l m : Int) (w : World) :
    Calls Try.prog 62 #[.int .i64 n, .int .i64 l, .int .i64 m] w fun e w' => e = .returned (.bool (withinB n l m)) ∧ w = w' := by
  by_cases h0 : l ≤ n <;> by_cases h1 : n ≤ m
  all_goals
    go_enter Try.func62, Try.ntmps62
    go_wp2
    go_ret
    exact ⟨by simp [withinB, h0, h1], rfl⟩

set_option maxHeartbeats 400000 in
theorem place_any (n : Int) (w : World) (h : -24 ≤ n) (h2 : n ≤ 1000) :
    Calls Try.prog 61 #[.int .i64 n] w fun e w' => e = .returned (.int .i64 (n % 24)) ∧ w = w' := by
  have r : (n + 24).tmod 24 = n % 24 := by rw [Int.tmod_eq_emod_of_nonneg (by omega)]; omega
  go_enter Try.func61, Try.ntmps61
  go_wp2
  go_ret
  exact ⟨by first | rfl | rw [r], rfl⟩

theorem goodR_within (h u : Int) : goodR h u = (withinB h 0 23 && withinB u 0 24) := by simp [goodR, withinB, Bool.and_assoc]

set_option maxHeartbeats 1000000 in
theorem ringGood_any (h u : Int) (w : World) :
    Calls Try.prog 59 #[.agg #[.int .i64 h, .int .i64 u]] w fun e w' => e = .returned (.bool (goodR h u)) ∧ Below w.heap.size w w' := by
  rw [goodR_within]
  cases h1 : withinB h 0 23 with
  | false =>
    go_enter Try.func59, Try.ntmps59
    go_wp2_with (go_at_call 62; refine (within_any _ _ _ _).mono ?_; rintro e w' ⟨rfl, rfl⟩)
    go_ret
    exact ⟨rfl, below1 _ _⟩
  | true =>
    go_enter Try.func59, Try.ntmps59
    go_wp2_with (go_at_call 62; refine (within_any _ _ _ _).mono ?_; rintro e w' ⟨rfl, rfl⟩)
    go_ret
    exact ⟨by simp, below1 _ _⟩

set_option maxHeartbeats 400000 in
theorem ringFree_any (h u : Int) (w : World) (h0 : 0 ≤ u) (h1 : u ≤ 24) :
    Calls Try.prog 60 #[.agg #[.int .i64 h, .int .i64 u]] w fun e w' => e = .returned (.int .i64 (24 - u)) ∧ Below w.heap.size w w' := by
  go_enter Try.func60, Try.ntmps60
  go_wp2
  go_ret
  exact ⟨rfl, below1 _ _⟩


set_option maxHeartbeats 2000000 in
theorem ringNeed_any (m r : Int) (w : World) :
    Calls Try.prog 31 #[.int .i64 m, .int .i64 r] w fun e w' => e = .returned (.tuple #[.int .i64 (needN m r), .int .i64 (needE m r)]) ∧ w = w' := by
  cases h1 : withinB m 0 12 with
  | false =>
    have HE : Hid (needE m r = 2) := by rw [Hid, needE, if_pos]; simp [withinB] at h1; omega
    have HN : Hid (needN m r = 0) := by simp [Hid, needN, HE.out]
    go_enter Try.func31, Try.ntmps31
    go_wp2_with (go_at_call 62; refine (within_any _ _ _ _).mono ?_; rintro e w' ⟨rfl, rfl⟩)
    go_ret2
    exact ⟨by rw [HE.out, HN.out]; rfl, rfl⟩
  | true =>
    cases h2 : withinB r 0 12 with
    | false =>
      have HE : Hid (needE m r = 2) := by rw [Hid, needE, if_pos]; simp [withinB] at h2; omega
      have HN : Hid (needN m r = 0) := by simp [Hid, needN, HE.out]
      go_enter Try.func31, Try.ntmps31
      go_wp2_with (go_at_call 62; refine (within_any _ _ _ _).mono ?_; rintro e w' ⟨rfl, rfl⟩)
      go_ret2
      exact ⟨by rw [HE.out, HN.out]; rfl, rfl⟩
    | true =>
      have hm : 0 ≤ m ∧ m ≤ 12 := by simpa [withinB] using h1
      have hr : 0 ≤ r ∧ r ≤ 12 := by simpa [withinB] using h2
      have HE : Hid (needE m r = 0) := by rw [Hid, needE, if_neg]; omega
      have HN : Hid (needN m r = (r + 19) / 20 + (m + 9) / 10 + m + 1) := by
        rw [Hid, needN, if_pos HE.out]
        split <;> split <;> split <;> omega
      have b1 : 0 ≤ (r + 19) / 20 ∧ (r + 19) / 20 ≤ 10 := by omega
      have b2 : 0 ≤ (m + 9) / 10 ∧ (m + 9) / 10 ≤ 10 := by omega
      go_enter Try.func31, Try.ntmps31
      go_wp2_with (first
        | (go_at_call 62; refine (within_any _ _ _ _).mono ?_; rintro e w' ⟨rfl, rfl⟩)
        | (go_at_call 77; refine (lists_any r _ (by omega) (by omega)).mono ?_; rintro e w' ⟨rfl, rfl⟩)
        | (go_at_call 78; refine (descriptors_any m _ (by omega) (by omega)).mono ?_; rintro e w' ⟨rfl, rfl⟩))
      go_ret2
      exact ⟨by rw [HE.out, HN.out]; rfl, rfl⟩

end Go.Proofs.Ytjnpndfpajjihab
