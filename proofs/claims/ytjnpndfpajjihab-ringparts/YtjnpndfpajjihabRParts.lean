/-
  What is taken in two parts is what is taken at once: of plain data. Then the walk of the statements' own rings in wastebookkeep.
-/
import Derived.Test.YtjnpndfpajjihabRTake2
import Derived.Test.YtjnpndfpajjihabRPick
namespace Go.Proofs.Ytjnpndfpajjihab
open Go.RowKit

theorem takeE_ok {h u n : Int} : takeE h u n = 0 ↔ (0 ≤ h ∧ h ≤ 23 ∧ 0 ≤ u ∧ u ≤ 24) ∧ 0 ≤ n ∧ n ≤ 24 - u := by
  unfold takeE
  constructor
  · intro e
    split at e
    · cases e
    · rename_i h1
      split at e
      · cases e
      · have hg : goodR h u = true := by cases e : goodR h u; exact absurd (.inl e) h1; rfl
        exact ⟨goodR_yes hg, by omega, by omega⟩
  · rintro ⟨h1, h2, h3⟩
    have hg : goodR h u = true := by simp [goodR, h1]
    rw [hg, if_neg (by rintro (e | e); cases e; omega), if_neg (by omega)]

theorem places_append (h : Int) (n m : Nat) : placesOf h (n + m) = placesOf h n ++ placesOf ((h + n) % 24) m := by
  apply List.ext_getElem
  · simp [placesOf]
  · intro i h1 h2
    simp only [placesOf, List.getElem_map, List.getElem_range]
    by_cases hi : i < n
    · rw [List.getElem_append_left (by simpa using hi)]; simp
    · rw [List.getElem_append_right (by simpa using hi)]
      simp only [List.getElem_map, List.getElem_range, List.length_map, List.length_range]
      omega

theorem places_not (h : Int) (k : Nat) (hk : k < 24) : (h + (k : Int)) % 24 ∉ placesOf h k := by
  intro hm
  obtain ⟨i, hi, e⟩ := List.mem_map.1 hm
  have := List.mem_range.1 hi
  omega

theorem places_get (h : Int) (n k : Nat) (hk : k < n) : (placesOf h n).getD k 0 = (h + (k : Int)) % 24 := by
  rw [List.getD, placesOf, List.getElem?_map, List.getElem?_range hk]; rfl

theorem take223p : takeH 22 0 3 = 1 ∧ takeU 22 0 3 = 3 ∧ takeL 22 0 3 = [22, 23, 0] ∧ takeE 22 0 3 = 0 := by decide

set_option maxHeartbeats 2000000 in
set_option maxRecDepth 100000 in
theorem keepRings_any (w : World) :
    Calls Try.prog 13 #[] w fun e w' => e = .returned (.bool true) ∧ Below w.heap.size w w' := by
  go_enter Try.func13, Try.ntmps13
  go_wp2_with fail
  refine (ringTake_any 22 0 3 _).mono ?_
  rintro e w1 ⟨a2, c2, rfl, ⟨hS, _⟩, hb1⟩
  obtain ⟨t1, t2, t3, t4⟩ := take223p
  rw [t1, t2, t3, t4]
  rw [t3] at hS
  obtain ⟨b, off, rfl, hlt, hc⟩ := hS.resolve_left (by simp)
  have c2' := hc 2 (by decide)
  simp at c2'
  have HB := hide hb1
  have hlt' : ¬ b = w1.heap.size := by omega
  clear hS hc hb1
  go_wp2
  go_ret
  exact ⟨rfl, bthen HB.out (below1 _ _)⟩

end Go.Proofs.Ytjnpndfpajjihab
