/-
  Lists whose keys rise: what lies ahead of a number, at it, and behind it. Nothing of the program is proved here.
  The walk of disk.Good.
-/
import Derived.Test.YtjnpndfpajjihabGreatGrSealWhole0
namespace Go.Proofs.YtjnpndfpajjihabGreat
open Go.RowKit

/-- Do a list's keys rise? -/
def Up {α : Type} (key : α → Int) (l : List α) : Prop := l.Pairwise fun x y => key x < key y
theorem risesFrom_iff (q : Int) (l : List Int) : risesFrom q l = true ↔ (∀ x ∈ l, q < x ∧ x ≤ 11) ∧ Up id l := by
  induction l generalizing q with
  | nil => simp [risesFrom, Up]
  | cons b r ih =>
    by_cases h : b ≤ q ∨ 11 < b
    · simp only [risesFrom, if_pos h]
      constructor
      · intro e; cases e
      · rintro ⟨e, _⟩
        have := e b (by simp)
        omega
    · simp only [risesFrom, if_neg h, ih b]
      simp only [Up, List.pairwise_cons, List.mem_cons, id]
      constructor
      · rintro ⟨e1, e2⟩
        refine ⟨?_, fun x hx => (e1 x hx).1, e2⟩
        rintro x (rfl | hx)
        · omega
        · have := e1 x hx; omega
      · rintro ⟨e1, e2, e3⟩
        exact ⟨fun x hx => ⟨e2 x hx, (e1 x (.inr hx)).2⟩, e3⟩
theorem rises_iff (l : List Int) : rises l = true ↔ (∀ x ∈ l, 0 ≤ x ∧ x ≤ 11) ∧ Up id l := by
  rw [rises, risesFrom_iff]
  constructor
  · rintro ⟨a, b⟩; exact ⟨fun x hx => by have := a x hx; omega, b⟩
  · rintro ⟨a, b⟩; exact ⟨fun x hx => by have := a x hx; omega, b⟩
theorem up_map {α : Type} (key : α → Int) (l : List α) : Up id (l.map key) ↔ Up key l := by
  simp [Up, List.pairwise_map]
theorem Up.filter {α : Type} {key : α → Int} {l : List α} (h : Up key l) (p : α → Bool) : Up key (l.filter p) := List.Pairwise.filter _ h

/-- What lies ahead of a number in a list that rises, and what from it on. -/
theorem up_cut {α : Type} {key : α → Int} {l : List α} (h : Up key l) (b : Int) :
    l.take (l.countP fun x => decide (key x < b)) = l.filter (fun x => decide (key x < b)) ∧ l.drop (l.countP fun x => decide (key x < b)) = l.filter (fun x => decide (b ≤ key x)) := by
  induction l with
  | nil => simp
  | cons x r ih =>
    have hr := List.pairwise_cons.1 h
    by_cases hx : key x < b
    · have := ih hr.2
      have hx' : ¬ b ≤ key x := by omega
      simp [hx, hx', this]
    · have hx' : b ≤ key x := by omega
      have hall : ∀ y ∈ r, ¬ key y < b := fun y hy => by have := hr.1 y hy; omega
      have h0 : r.countP (fun x => decide (key x < b)) = 0 := by rw [List.countP_eq_zero]; intro y hy; simp only [decide_eq_true_eq]; exact hall y hy
      have h1 : r.filter (fun x => decide (key x < b)) = [] := by rw [List.filter_eq_nil_iff]; intro y hy; simp only [decide_eq_true_eq]; exact hall y hy
      have h2 : r.filter (fun x => decide (b ≤ key x)) = r := by rw [List.filter_eq_self]; intro y hy; simp only [decide_eq_true_eq]; have := hall y hy; omega
      simp [hx, hx', h0, h1, h2]
/-- The one at a number, and what lies behind it. -/
theorem up_hit {α : Type} {key : α → Int} {l : List α} (h : Up key l) (b : Int) (x : α) (hx : l[l.countP fun x => decide (key x < b)]? = some x) (hk : key x = b) :
    l.drop ((l.countP fun x => decide (key x < b)) + 1) = l.filter (fun x => decide (b < key x)) := by
  induction l with
  | nil => simp at hx
  | cons y r ih =>
    have hr := List.pairwise_cons.1 h
    by_cases hy : key y < b
    · have hy' : ¬ b < key y := by omega
      have hc : (y :: r).countP (fun x => decide (key x < b)) = r.countP (fun x => decide (key x < b)) + 1 := by simp [hy]
      rw [hc] at hx ⊢
      rw [List.drop_succ_cons, List.filter_cons, if_neg (by simpa using hy')]
      exact ih hr.2 (by simpa using hx)
    · have h0 : r.countP (fun x => decide (key x < b)) = 0 := by rw [List.countP_eq_zero]; intro z hz; simp only [decide_eq_true_eq]; have := hr.1 z hz; omega
      have hc : (y :: r).countP (fun x => decide (key x < b)) = 0 := by simp [hy, h0]
      rw [hc] at hx ⊢
      simp at hx
      subst hx
      have h2 : r.filter (fun x => decide (b < key x)) = r := by rw [List.filter_eq_self]; intro z hz; simp only [decide_eq_true_eq]; have := hr.1 z hz; omega
      simp [hk, h2]
theorem up_miss {α : Type} {key : α → Int} {l : List α} (h : Up key l) (b : Int) (hx : ∀ x, l[l.countP fun x => decide (key x < b)]? = some x → key x ≠ b) :
    l.filter (fun x => decide (b ≤ key x)) = l.filter (fun x => decide (b < key x)) := by
  induction l with
  | nil => rfl
  | cons y r ih =>
    have hr := List.pairwise_cons.1 h
    by_cases hy : key y < b
    · have hc : (y :: r).countP (fun x => decide (key x < b)) = r.countP (fun x => decide (key x < b)) + 1 := by simp [hy]
      rw [hc] at hx
      rw [List.filter_cons, List.filter_cons, if_neg (by simp; omega), if_neg (by simp; omega)]
      exact ih hr.2 (fun x hx' => hx x (by simpa using hx'))
    · have h0 : r.countP (fun x => decide (key x < b)) = 0 := by rw [List.countP_eq_zero]; intro z hz; simp only [decide_eq_true_eq]; have := hr.1 z hz; omega
      have hc : (y :: r).countP (fun x => decide (key x < b)) = 0 := by simp [hy, h0]
      rw [hc] at hx
      have := hx y (by simp)
      have hy2 : b < key y := by omega
      apply List.filter_congr
      intro z hz
      rcases List.mem_cons.1 hz with rfl | hz
      · simp; omega
      · have := hr.1 z hz
        simp; omega
theorem any_hit_iff {α : Type} {key : α → Int} {l : List α} (h : Up key l) (b : Int) :
    (l.any fun x => key x == b) = true ↔ ∃ x, l[l.countP fun x => decide (key x < b)]? = some x ∧ key x = b := by
  constructor
  · intro e
    obtain ⟨x, hx, hk⟩ := List.any_eq_true.1 e
    have hk : key x = b := by simpa using hk
    induction l with
    | nil => simp at hx
    | cons y r ih =>
      have hr := List.pairwise_cons.1 h
      by_cases hy : key y < b
      · have hxr : x ∈ r := by
          rcases List.mem_cons.1 hx with rfl | hx
          · omega
          · exact hx
        obtain ⟨z, hz, hz2⟩ := ih hr.2 (List.any_eq_true.2 ⟨x, hxr, by simpa using hk⟩) hxr
        refine ⟨z, ?_, hz2⟩
        have hc : (y :: r).countP (fun x => decide (key x < b)) = r.countP (fun x => decide (key x < b)) + 1 := by simp [hy]
        rw [hc]
        simpa using hz
      · have h0 : r.countP (fun x => decide (key x < b)) = 0 := by rw [List.countP_eq_zero]; intro z hz; simp only [decide_eq_true_eq]; have := hr.1 z hz; omega
        have hc : (y :: r).countP (fun x => decide (key x < b)) = 0 := by simp [hy, h0]
        refine ⟨y, by rw [hc]; rfl, ?_⟩
        rcases List.mem_cons.1 hx with rfl | hx
        · exact hk
        · have := hr.1 x hx; omega
  · rintro ⟨x, hx, hk⟩
    exact List.any_eq_true.2 ⟨x, List.mem_of_getElem? hx, by simpa using hk⟩

/-- A list that rises, number by number. -/
theorem up_step {α : Type} {key : α → Int} {l : List α} (h : Up key l) (n : Int) :
    l.filter (fun x => decide (key x < n + 1)) = l.filter (fun x => decide (key x < n)) ++ l.filter (fun x => decide (key x = n)) := by
  induction l with
  | nil => rfl
  | cons x r ih =>
    have hr := List.pairwise_cons.1 h
    by_cases h1 : key x < n
    · have h2 : key x < n + 1 := by omega
      have h3 : ¬ key x = n := by omega
      simp [h1, h2, h3, ih hr.2]
    · have e1 : r.filter (fun x => decide (key x < n)) = [] := by rw [List.filter_eq_nil_iff]; intro y hy; have := hr.1 y hy; simp; omega
      have e2 : r.filter (fun x => decide (key x < n + 1)) = [] := by rw [List.filter_eq_nil_iff]; intro y hy; have := hr.1 y hy; simp; omega
      have e3 : r.filter (fun x => decide (key x = n)) = [] := by rw [List.filter_eq_nil_iff]; intro y hy; have := hr.1 y hy; simp; omega
      by_cases h2 : key x = n
      · have h3 : key x < n + 1 := by omega
        rw [List.filter_cons, List.filter_cons, List.filter_cons, e1, e2, e3]
        rw [if_pos (by simpa using h3), if_neg (by simpa using h1), if_pos (by simpa using h2)]; rfl
      · have h3 : ¬ key x < n + 1 := by omega
        rw [List.filter_cons, List.filter_cons, List.filter_cons, e1, e2, e3]
        simp [h1, h2, h3]
/-- Number by number from 0 on. -/
theorem up_all {α : Type} {key : α → Int} {l : List α} (h : Up key l) (h0 : ∀ x ∈ l, 0 ≤ key x) (f : Nat → List α) (n : Nat) (hf : ∀ j, j < n → f j = l.filter (fun x => decide (key x = (j : Int)))) :
    (List.range n).flatMap f = l.filter (fun x => decide (key x < (n : Int))) := by
  induction n with
  | zero =>
    have : l.filter (fun x => decide (key x < ((0 : Nat) : Int))) = [] := by rw [List.filter_eq_nil_iff]; intro y hy; have := h0 y hy; simp; omega
    rw [this]; rfl
  | succ n ih =>
    rw [List.range_succ, List.flatMap_append, ih (fun j hj => hf j (by omega))]
    have := up_step h (n : Int)
    rw [show ((n + 1 : Nat) : Int) = (n : Int) + 1 from by omega, this]
    simp [hf n (by omega)]

end Go.Proofs.YtjnpndfpajjihabGreat

namespace Go.Proofs.YtjnpndfpajjihabGreat
open Go.RowKit

set_option maxHeartbeats 1000000 in
theorem good_len (a : Option Addr) (n c : Nat) (a' : Option Addr) (m c' : Nat) (w : World) (hn : n ≤ maxLen) (hm : m ≤ maxLen) (h : ¬ n = 37 ∨ 200 < m) :
    Calls Tryz.prog 78 #[.agg #[.slice a n c, .slice a' m c']] w fun e w' => e = .returned (.bool false) ∧ Below w.heap.size w w' := by
  unfold maxLen at hn hm
  by_cases h1 : n = 37
  · have h2 : (200 : Int) < (m : Int) := by omega
    subst h1
    go_enter Tryz.func78, Tryz.ntmps78
    go_wp2
    go_ret
    exact ⟨rfl, (Below.refl _ _).alloc (Nat.le_refl _) _⟩
  · have h2 : ((n : Int) == 37) = false := by simp; omega
    go_enter Tryz.func78, Tryz.ntmps78
    go_wp2
    go_ret
    exact ⟨rfl, (Below.refl _ _).alloc (Nat.le_refl _) _⟩

theorem all_succ {α : Type} (f : α → Bool) (l : List α) (k : Nat) (x : α) (h : l[k]? = some x) (hk : (l.take k).all f = true) (hx : f x = true) : (l.take (k + 1)).all f = true := by
  rw [List.take_add_one, h, List.all_append, hk]
  simp [hx]

theorem all_no {α : Type} (f : α → Bool) (l : List α) (k : Nat) (x : α) (h : l[k]? = some x) (hx : f x = false) : l.all f = false := by
  have := List.mem_of_getElem? h
  cases hh : l.all f with
  | false => rfl
  | true => rw [List.all_eq_true] at hh; rw [hh x this] at hx; cases hx

theorem getD_some {α : Type} (l : List α) (k : Nat) (z : α) (h : k < l.length) : l[k]? = some (l.getD k z) := by
  rw [List.getElem?_eq_getElem h, List.getD, List.getElem?_eq_getElem h]; rfl

set_option maxHeartbeats 1000000 in
theorem good_walk (b off c : Nat) (a' : Option Addr) (c' : Nat) (d : Dk) (w : World) (hn : d.safe.length = 37) (hm : d.wr.length ≤ 200) (hb : b < w.heap.size)
    (hc : ∀ i, i < d.safe.length → w.cell? ⟨b, off + i, none⟩ = some (.string (d.safe.getD i ByteArray.empty))) (hw : SegW w a' d.wr) :
    Calls Tryz.prog 78 #[.agg #[.slice (some ⟨b, off, none⟩) 37 c, .slice a' d.wr.length c']] w fun e w' => e = .returned (.bool (d.safe.all fitsB && d.wr.all wrB)) ∧ Below w.heap.size w w' := by
  have h200 : ¬ (200 : Int) < (d.wr.length : Int) := by omega
  have HN : Hid (d.safe.length = 37) := hn
  have HW : Hid (SegW w a' d.wr) := hw
  have HC : Hid (∀ i, i < d.safe.length → w.cell? ⟨b, off + i, none⟩ = some (.string (d.safe.getD i ByteArray.empty))) := hc
  clear hn hw hc
  go_enter Tryz.func78, Tryz.ntmps78
  go_wp2
  go_loop [20] (fun i => ∃ k : Nat, k ≤ 37 ∧ i = .int .i64 k ∧ Hid ((d.safe.take k).all fitsB = true)) (fun i => 37 - (intOf i).toNat)
  case atStart => exact ⟨0, Nat.zero_le _, rfl, by simp [Hid]⟩
  case round =>
    obtain ⟨k, hk, rfl, hall⟩ := hrel
    by_cases hlt : k < 37
    · obtain ⟨s, hs⟩ : ∃ s, s = d.safe.getD k ByteArray.empty := ⟨_, rfl⟩
      have hck := HC.out k (by rw [HN.out]; exact hlt)
      have HS : Hid (d.safe[k]? = some s) := by rw [hs]; exact getD_some _ _ _ (by rw [HN.out]; exact hlt)
      rw [← hs] at hck
      clear hs
      by_cases hf : fitsB s = true
      · go_wp2_with (go_at_call 118; refine (fits_any _ _).mono ?_; rintro e w' ⟨rfl, rfl⟩)
        go_round
        case rel => exact ⟨k + 1, by omega, by go_num, all_succ _ _ _ _ HS.out hall hf⟩
        case measure => simp [intOf]; omega
      · have hf' : fitsB s = false := by simpa using hf
        clear hf
        go_wp2_with (go_at_call 118; refine (fits_any _ _).mono ?_; rintro e w' ⟨rfl, rfl⟩)
        go_ret
        exact ⟨by rw [all_no _ _ _ _ HS.out hf']; rfl, (Below.refl _ _).alloc (Nat.le_refl _) _⟩
    · have HA : Hid (d.safe.all fitsB = true) := by have e : k = 37 := by omega
                                                    have := hall.out; rw [e, ← HN.out, List.take_length] at this; exact this
      clear hall HC
      go_wp2
      go_loopw [31] (fun i wr => ∃ k : Nat, k ≤ d.wr.length ∧ i = .int .i64 k ∧ Hid ((d.wr.take k).all wrB = true) ∧ Below w.heap.size w wr) (fun i _ => d.wr.length - (intOf i).toNat)
      case atStart => exact ⟨0, Nat.zero_le _, rfl, by simp [Hid], (Below.refl _ _).alloc (Nat.le_refl _) _⟩
      case round =>
        obtain ⟨j, hj, rfl, hall, hbel⟩ := hrel
        by_cases hlj : j < d.wr.length
        · obtain ⟨b', off', rfl, hb', hcw⟩ := HW.out.resolve_left (by intro e; rw [e] at hlj; simp at hlj)
          obtain ⟨x, hx⟩ : ∃ x, x = d.wr.getD j (0, ByteArray.empty) := ⟨_, rfl⟩
          obtain ⟨hc1, hc2⟩ := hcw j hlj
          rw [← hx] at hc1 hc2
          have HX : Hid (d.wr[j]? = some x) := by rw [hx]; exact getD_some _ _ _ hlj
          clear hx hcw
          have g1 := cellKeep hbel hb' hc1
          have g2 := cellKeep hbel hb' hc2
          have hsz := hbel.size
          clear hc1 hc2
          obtain ⟨n, s⟩ := x
          by_cases hp : placeB n = true <;> by_cases hf : fitsB s = true
          · go_wp2_with (first | (go_at_call 119; refine (isPlace_any _ _).mono ?_; rintro e w' ⟨rfl, rfl⟩) | (go_at_call 118; refine (fits_any _ _).mono ?_; rintro e w' ⟨rfl, rfl⟩))
            go_roundw
            case rel => exact ⟨j + 1, by omega, by go_num, all_succ _ _ _ _ HX.out hall (by simp [wrB, hp, hf]), hbel.alloc hsz _⟩
            case measure => simp [intOf]; omega
          all_goals
            have hno : wrB (n, s) = false := by simp [wrB, *]
            have hp' := hp
            have hf' := hf
            try (rw [Bool.not_eq_true] at hp')
            try (rw [Bool.not_eq_true] at hf')
            clear hp hf
            go_wp2_with (first | (go_at_call 119; refine (isPlace_any _ _).mono ?_; rintro e w' ⟨rfl, rfl⟩) | (go_at_call 118; refine (fits_any _ _).mono ?_; rintro e w' ⟨rfl, rfl⟩))
            go_ret
            exact ⟨by rw [all_no _ _ _ _ HX.out hno, Bool.and_false]; rfl, hbel.alloc hsz _⟩
        · have HB : Hid (d.wr.all wrB = true) := by have e : j = d.wr.length := by omega
                                                    have := hall.out; rw [e, List.take_length] at this; exact this
          clear hall
          go_wp2
          go_ret
          exact ⟨by rw [HA.out, HB.out]; rfl, hbel⟩

/-- disk.Good answers whether it is a disk. -/
theorem good_any (v : Value) (d : Dk) (w : World) (h : IsDk w v d) :
    Calls Tryz.prog 78 #[v] w fun e w' => e = .returned (.bool (goodB d)) ∧ Below w.heap.size w w' := by
  obtain ⟨a, c, a', c', rfl, hs, hw, h1, h2⟩ := h
  by_cases hno : ¬ d.safe.length = 37 ∨ 200 < d.wr.length
  · have e : goodB d = false := by
      rcases hno with h | h
      · simp [goodB, h]
      · simp [goodB, Nat.not_le.2 h]
    rw [e]
    exact good_len a _ c a' _ c' w h1 h2 hno
  · have hn : d.safe.length = 37 := by omega
    have hm : d.wr.length ≤ 200 := by omega
    obtain ⟨b, off, rfl, hb, hc⟩ := hs.resolve_left (by intro e; rw [e] at hn; simp at hn)
    have e : goodB d = (d.safe.all fitsB && d.wr.all wrB) := by simp [goodB, hn, hm]
    rw [e]
    have := good_walk b off c a' c' d w hn hm hb hc hw
    rw [← hn] at this
    exact this

end Go.Proofs.YtjnpndfpajjihabGreat
