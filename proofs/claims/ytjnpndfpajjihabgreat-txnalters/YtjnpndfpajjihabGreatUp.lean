/-
  Lists whose keys rise: what lies ahead of a number, at it, and behind it. Nothing of the program is proved here.
-/
import Derived.Test.YtjnpndfpajjihabGreatMCore
namespace Go.Proofs.YtjnpndfpajjihabGreat
open Go.RowKit

/-- Do a list's keys rise? -/
def Up {α : Type} (key : α → Int) (l : List α) : Prop := l.Pairwise fun x y => key x < key y
theorem risesFrom_iff (q : Int) (l : List Int) : risesFrom q l = true ↔ (∀ x ∈ l, q < x ∧ x ≤ 11) ∧ Up id l := by
  induction l generalizing q with
  | nil => simp [risesFrom, Up]
  | cons b r ih =>
    by_cases h : b ≤ q ∨ 11 < b
    · simp only [risesFrom, if_pos h]
      constructor
      · intro e; cases e
      · rintro ⟨e, _⟩
        have := e b (by simp)
        omega
    · simp only [risesFrom, if_neg h, ih b]
      simp only [Up, List.pairwise_cons, List.mem_cons, id]
      constructor
      · rintro ⟨e1, e2⟩
        refine ⟨?_, fun x hx => (e1 x hx).1, e2⟩
        rintro x (rfl | hx)
        · omega
        · have := e1 x hx; omega
      · rintro ⟨e1, e2, e3⟩
        exact ⟨fun x hx => ⟨e2 x hx, (e1 x (.inr hx)).2⟩, e3⟩
theorem rises_iff (l : List Int) : rises l = true ↔ (∀ x ∈ l, 0 ≤ x ∧ x ≤ 11) ∧ Up id l := by
  rw [rises, risesFrom_iff]
  constructor
  · rintro ⟨a, b⟩; exact ⟨fun x hx => by have := a x hx; omega, b⟩
  · rintro ⟨a, b⟩; exact ⟨fun x hx => by have := a x hx; omega, b⟩
theorem up_map {α : Type} (key : α → Int) (l : List α) : Up id (l.map key) ↔ Up key l := by
  simp [Up, List.pairwise_map]
theorem Up.filter {α : Type} {key : α → Int} {l : List α} (h : Up key l) (p : α → Bool) : Up key (l.filter p) := List.Pairwise.filter _ h

/-- What lies ahead of a number in a list that rises, and what from it on. -/
theorem up_cut {α : Type} {key : α → Int} {l : List α} (h : Up key l) (b : Int) :
    l.take (l.countP fun x => decide (key x < b)) = l.filter (fun x => decide (key x < b)) ∧ l.drop (l.countP fun x => decide (key x < b)) = l.filter (fun x => decide (b ≤ key x)) := by
  induction l with
  | nil => simp
  | cons x r ih =>
    have hr := List.pairwise_cons.1 h
    by_cases hx : key x < b
    · have := ih hr.2
      have hx' : ¬ b ≤ key x := by omega
      simp [hx, hx', this]
    · have hx' : b ≤ key x := by omega
      have hall : ∀ y ∈ r, ¬ key y < b := fun y hy => by have := hr.1 y hy; omega
      have h0 : r.countP (fun x => decide (key x < b)) = 0 := by rw [List.countP_eq_zero]; intro y hy; simp only [decide_eq_true_eq]; exact hall y hy
      have h1 : r.filter (fun x => decide (key x < b)) = [] := by rw [List.filter_eq_nil_iff]; intro y hy; simp only [decide_eq_true_eq]; exact hall y hy
      have h2 : r.filter (fun x => decide (b ≤ key x)) = r := by rw [List.filter_eq_self]; intro y hy; simp only [decide_eq_true_eq]; have := hall y hy; omega
      simp [hx, hx', h0, h1, h2]
/-- The one at a number, and what lies behind it. -/
theorem up_hit {α : Type} {key : α → Int} {l : List α} (h : Up key l) (b : Int) (x : α) (hx : l[l.countP fun x => decide (key x < b)]? = some x) (hk : key x = b) :
    l.drop ((l.countP fun x => decide (key x < b)) + 1) = l.filter (fun x => decide (b < key x)) := by
  induction l with
  | nil => simp at hx
  | cons y r ih =>
    have hr := List.pairwise_cons.1 h
    by_cases hy : key y < b
    · have hy' : ¬ b < key y := by omega
      have hc : (y :: r).countP (fun x => decide (key x < b)) = r.countP (fun x => decide (key x < b)) + 1 := by simp [hy]
      rw [hc] at hx ⊢
      rw [List.drop_succ_cons, List.filter_cons, if_neg (by simpa using hy')]
      exact ih hr.2 (by simpa using hx)
    · have h0 : r.countP (fun x => decide (key x < b)) = 0 := by rw [List.countP_eq_zero]; intro z hz; simp only [decide_eq_true_eq]; have := hr.1 z hz; omega
      have hc : (y :: r).countP (fun x => decide (key x < b)) = 0 := by simp [hy, h0]
      rw [hc] at hx ⊢
      simp at hx
      subst hx
      have h2 : r.filter (fun x => decide (b < key x)) = r := by rw [List.filter_eq_self]; intro z hz; simp only [decide_eq_true_eq]; have := hr.1 z hz; omega
      simp [hk, h2]
theorem up_miss {α : Type} {key : α → Int} {l : List α} (h : Up key l) (b : Int) (hx : ∀ x, l[l.countP fun x => decide (key x < b)]? = some x → key x ≠ b) :
    l.filter (fun x => decide (b ≤ key x)) = l.filter (fun x => decide (b < key x)) := by
  induction l with
  | nil => rfl
  | cons y r ih =>
    have hr := List.pairwise_cons.1 h
    by_cases hy : key y < b
    · have hc : (y :: r).countP (fun x => decide (key x < b)) = r.countP (fun x => decide (key x < b)) + 1 := by simp [hy]
      rw [hc] at hx
      rw [List.filter_cons, List.filter_cons, if_neg (by simp; omega), if_neg (by simp; omega)]
      exact ih hr.2 (fun x hx' => hx x (by simpa using hx'))
    · have h0 : r.countP (fun x => decide (key x < b)) = 0 := by rw [List.countP_eq_zero]; intro z hz; simp only [decide_eq_true_eq]; have := hr.1 z hz; omega
      have hc : (y :: r).countP (fun x => decide (key x < b)) = 0 := by simp [hy, h0]
      rw [hc] at hx
      have := hx y (by simp)
      have hy2 : b < key y := by omega
      apply List.filter_congr
      intro z hz
      rcases List.mem_cons.1 hz with rfl | hz
      · simp; omega
      · have := hr.1 z hz
        simp; omega
theorem any_hit_iff {α : Type} {key : α → Int} {l : List α} (h : Up key l) (b : Int) :
    (l.any fun x => key x == b) = true ↔ ∃ x, l[l.countP fun x => decide (key x < b)]? = some x ∧ key x = b := by
  constructor
  · intro e
    obtain ⟨x, hx, hk⟩ := List.any_eq_true.1 e
    have hk : key x = b := by simpa using hk
    induction l with
    | nil => simp at hx
    | cons y r ih =>
      have hr := List.pairwise_cons.1 h
      by_cases hy : key y < b
      · have hxr : x ∈ r := by
          rcases List.mem_cons.1 hx with rfl | hx
          · omega
          · exact hx
        obtain ⟨z, hz, hz2⟩ := ih hr.2 (List.any_eq_true.2 ⟨x, hxr, by simpa using hk⟩) hxr
        refine ⟨z, ?_, hz2⟩
        have hc : (y :: r).countP (fun x => decide (key x < b)) = r.countP (fun x => decide (key x < b)) + 1 := by simp [hy]
        rw [hc]
        simpa using hz
      · have h0 : r.countP (fun x => decide (key x < b)) = 0 := by rw [List.countP_eq_zero]; intro z hz; simp only [decide_eq_true_eq]; have := hr.1 z hz; omega
        have hc : (y :: r).countP (fun x => decide (key x < b)) = 0 := by simp [hy, h0]
        refine ⟨y, by rw [hc]; rfl, ?_⟩
        rcases List.mem_cons.1 hx with rfl | hx
        · exact hk
        · have := hr.1 x hx; omega
  · rintro ⟨x, hx, hk⟩
    exact List.any_eq_true.2 ⟨x, List.mem_of_getElem? hx, by simpa using hk⟩

/-- A list that rises, number by number. -/
theorem up_step {α : Type} {key : α → Int} {l : List α} (h : Up key l) (n : Int) :
    l.filter (fun x => decide (key x < n + 1)) = l.filter (fun x => decide (key x < n)) ++ l.filter (fun x => decide (key x = n)) := by
  induction l with
  | nil => rfl
  | cons x r ih =>
    have hr := List.pairwise_cons.1 h
    by_cases h1 : key x < n
    · have h2 : key x < n + 1 := by omega
      have h3 : ¬ key x = n := by omega
      simp [h1, h2, h3, ih hr.2]
    · have e1 : r.filter (fun x => decide (key x < n)) = [] := by rw [List.filter_eq_nil_iff]; intro y hy; have := hr.1 y hy; simp; omega
      have e2 : r.filter (fun x => decide (key x < n + 1)) = [] := by rw [List.filter_eq_nil_iff]; intro y hy; have := hr.1 y hy; simp; omega
      have e3 : r.filter (fun x => decide (key x = n)) = [] := by rw [List.filter_eq_nil_iff]; intro y hy; have := hr.1 y hy; simp; omega
      by_cases h2 : key x = n
      · have h3 : key x < n + 1 := by omega
        rw [List.filter_cons, List.filter_cons, List.filter_cons, e1, e2, e3]
        rw [if_pos (by simpa using h3), if_neg (by simpa using h1), if_pos (by simpa using h2)]; rfl
      · have h3 : ¬ key x < n + 1 := by omega
        rw [List.filter_cons, List.filter_cons, List.filter_cons, e1, e2, e3]
        simp [h1, h2, h3]
/-- Number by number from 0 on. -/
theorem up_all {α : Type} {key : α → Int} {l : List α} (h : Up key l) (h0 : ∀ x ∈ l, 0 ≤ key x) (f : Nat → List α) (n : Nat) (hf : ∀ j, j < n → f j = l.filter (fun x => decide (key x = (j : Int)))) :
    (List.range n).flatMap f = l.filter (fun x => decide (key x < (n : Int))) := by
  induction n with
  | zero =>
    have : l.filter (fun x => decide (key x < ((0 : Nat) : Int))) = [] := by rw [List.filter_eq_nil_iff]; intro y hy; have := h0 y hy; simp; omega
    rw [this]; rfl
  | succ n ih =>
    rw [List.range_succ, List.flatMap_append, ih (fun j hj => hf j (by omega))]
    have := up_step h (n : Int)
    rw [show ((n + 1 : Nat) : Int) = (n : Int) + 1 from by omega, this]
    simp [hf n (by omega)]

end Go.Proofs.YtjnpndfpajjihabGreat
