/-
  The walk of disk.Good.
-/
import Derived.Test.YtjnpndfpajjihaaSmall
namespace Go.Proofs.Ytjnpndfpajjihaa
open Go.RowKit

set_option maxHeartbeats 1000000 in
theorem good_len (a : Option Addr) (n c : Nat) (a' : Option Addr) (m c' : Nat) (w : World) (hn : n ≤ maxLen) (hm : m ≤ maxLen) (h : ¬ n = 37 ∨ 200 < m) :
    Calls Try.prog 27 #[.agg #[.slice a n c, .slice a' m c']] w fun e w' => e = .returned (.bool false) ∧ Below w.heap.size w w' := by
  unfold maxLen at hn hm
  by_cases h1 : n = 37
  · have h2 : (200 : Int) < (m : Int) := by omega
    subst h1
    go_enter Try.func27, Try.ntmps27
    go_wp2
    go_ret
    exact ⟨rfl, (Below.refl _ _).alloc (Nat.le_refl _) _⟩
  · have h2 : ((n : Int) == 37) = false := by simp; omega
    go_enter Try.func27, Try.ntmps27
    go_wp2
    go_ret
    exact ⟨rfl, (Below.refl _ _).alloc (Nat.le_refl _) _⟩

theorem all_succ {α : Type} (f : α → Bool) (l : List α) (k : Nat) (x : α) (h : l[k]? = some x) (hk : (l.take k).all f = true) (hx : f x = true) : (l.take (k + 1)).all f = true := by
  rw [List.take_add_one, h, List.all_append, hk]
  simp [hx]

theorem all_no {α : Type} (f : α → Bool) (l : List α) (k : Nat) (x : α) (h : l[k]? = some x) (hx : f x = false) : l.all f = false := by
  have := List.mem_of_getElem? h
  cases hh : l.all f with
  | false => rfl
  | true => rw [List.all_eq_true] at hh; rw [hh x this] at hx; cases hx

theorem getD_some {α : Type} (l : List α) (k : Nat) (z : α) (h : k < l.length) : l[k]? = some (l.getD k z) := by
  rw [List.getElem?_eq_getElem h, List.getD, List.getElem?_eq_getElem h]; rfl

set_option maxHeartbeats 1000000 in
theorem good_walk (b off c : Nat) (a' : Option Addr) (c' : Nat) (d : Dk) (w : World) (hn : d.safe.length = 37) (hm : d.wr.length ≤ 200) (hb : b < w.heap.size)
    (hc : ∀ i, i < d.safe.length → w.cell? ⟨b, off + i, none⟩ = some (.string (d.safe.getD i ByteArray.empty))) (hw : SegW w a' d.wr) :
    Calls Try.prog 27 #[.agg #[.slice (some ⟨b, off, none⟩) 37 c, .slice a' d.wr.length c']] w fun e w' => e = .returned (.bool (d.safe.all fitsB && d.wr.all wrB)) ∧ Below w.heap.size w w' := by
  have h200 : ¬ (200 : Int) < (d.wr.length : Int) := by omega
  have HN : Hid (d.safe.length = 37) := hn
  have HW : Hid (SegW w a' d.wr) := hw
  have HC : Hid (∀ i, i < d.safe.length → w.cell? ⟨b, off + i, none⟩ = some (.string (d.safe.getD i ByteArray.empty))) := hc
  clear hn hw hc
  go_enter Try.func27, Try.ntmps27
  go_wp2
  go_loop [20] (fun i => ∃ k : Nat, k ≤ 37 ∧ i = .int .i64 k ∧ Hid ((d.safe.take k).all fitsB = true)) (fun i => 37 - (intOf i).toNat)
  case atStart => exact ⟨0, Nat.zero_le _, rfl, by simp [Hid]⟩
  case round =>
    obtain ⟨k, hk, rfl, hall⟩ := hrel
    by_cases hlt : k < 37
    · obtain ⟨s, hs⟩ : ∃ s, s = d.safe.getD k ByteArray.empty := ⟨_, rfl⟩
      have hck := HC.out k (by rw [HN.out]; exact hlt)
      have HS : Hid (d.safe[k]? = some s) := by rw [hs]; exact getD_some _ _ _ (by rw [HN.out]; exact hlt)
      rw [← hs] at hck
      clear hs
      by_cases hf : fitsB s = true
      · go_wp2_with (go_at_call 66; refine (fits_any _ _).mono ?_; rintro e w' ⟨rfl, rfl⟩)
        go_round
        case rel => exact ⟨k + 1, by omega, by go_num, all_succ _ _ _ _ HS.out hall hf⟩
        case measure => simp [intOf]; omega
      · have hf' : fitsB s = false := by simpa using hf
        clear hf
        go_wp2_with (go_at_call 66; refine (fits_any _ _).mono ?_; rintro e w' ⟨rfl, rfl⟩)
        go_ret
        exact ⟨by rw [all_no _ _ _ _ HS.out hf']; rfl, (Below.refl _ _).alloc (Nat.le_refl _) _⟩
    · have HA : Hid (d.safe.all fitsB = true) := by
        have e : k = 37 := by omega
        have := hall.out; rw [e, ← HN.out, List.take_length] at this; exact this
      clear hall HC
      go_wp2
      go_loopw [31] (fun i wr => ∃ k : Nat, k ≤ d.wr.length ∧ i = .int .i64 k ∧ Hid ((d.wr.take k).all wrB = true) ∧ Below w.heap.size w wr) (fun i _ => d.wr.length - (intOf i).toNat)
      case atStart => exact ⟨0, Nat.zero_le _, rfl, by simp [Hid], (Below.refl _ _).alloc (Nat.le_refl _) _⟩
      case round =>
        obtain ⟨j, hj, rfl, hall, hbel⟩ := hrel
        by_cases hlj : j < d.wr.length
        · obtain ⟨b', off', rfl, hb', hcw⟩ := HW.out.resolve_left (by intro e; rw [e] at hlj; simp at hlj)
          obtain ⟨x, hx⟩ : ∃ x, x = d.wr.getD j (0, ByteArray.empty) := ⟨_, rfl⟩
          obtain ⟨hc1, hc2⟩ := hcw j hlj
          rw [← hx] at hc1 hc2
          have HX : Hid (d.wr[j]? = some x) := by rw [hx]; exact getD_some _ _ _ hlj
          clear hx hcw
          have g1 := cellKeep hbel hb' hc1
          have g2 := cellKeep hbel hb' hc2
          have hsz := hbel.size
          clear hc1 hc2
          obtain ⟨n, s⟩ := x
          by_cases hp : placeB n = true <;> by_cases hf : fitsB s = true
          · go_wp2_with (first | (go_at_call 62; refine (isPlace_any _ _).mono ?_; rintro e w' ⟨rfl, rfl⟩) | (go_at_call 66; refine (fits_any _ _).mono ?_; rintro e w' ⟨rfl, rfl⟩))
            go_roundw
            case rel => exact ⟨j + 1, by omega, by go_num, all_succ _ _ _ _ HX.out hall (by simp [wrB, hp, hf]), hbel.alloc hsz _⟩
            case measure => simp [intOf]; omega
          all_goals
            have hno : wrB (n, s) = false := by simp [wrB, *]
            have hp' := hp
            have hf' := hf
            try (rw [Bool.not_eq_true] at hp')
            try (rw [Bool.not_eq_true] at hf')
            clear hp hf
            go_wp2_with (first | (go_at_call 62; refine (isPlace_any _ _).mono ?_; rintro e w' ⟨rfl, rfl⟩) | (go_at_call 66; refine (fits_any _ _).mono ?_; rintro e w' ⟨rfl, rfl⟩))
            go_ret
            exact ⟨by rw [all_no _ _ _ _ HX.out hno, Bool.and_false]; rfl, hbel.alloc hsz _⟩
        · have HB : Hid (d.wr.all wrB = true) := by
            have e : j = d.wr.length := by omega
            have := hall.out; rw [e, List.take_length] at this; exact this
          clear hall
          go_wp2
          go_ret
          exact ⟨by rw [HA.out, HB.out]; rfl, hbel⟩

/-- disk.Good answers whether it is a disk. -/
theorem good_any (v : Value) (d : Dk) (w : World) (h : IsDk w v d) :
    Calls Try.prog 27 #[v] w fun e w' => e = .returned (.bool (goodB d)) ∧ Below w.heap.size w w' := by
  obtain ⟨a, c, a', c', rfl, hs, hw, h1, h2⟩ := h
  by_cases hno : ¬ d.safe.length = 37 ∨ 200 < d.wr.length
  · have e : goodB d = false := by
      rcases hno with h | h
      · simp [goodB, h]
      · simp [goodB, Nat.not_le.2 h]
    rw [e]
    exact good_len a _ c a' _ c' w h1 h2 hno
  · have hn : d.safe.length = 37 := by omega
    have hm : d.wr.length ≤ 200 := by omega
    obtain ⟨b, off, rfl, hb, hc⟩ := hs.resolve_left (by intro e; rw [e] at hn; simp at hn)
    have e : goodB d = (d.safe.all fitsB && d.wr.all wrB) := by simp [goodB, hn, hm]
    rw [e]
    have := good_walk b off c a' c' d w hn hm hb hc hw
    rw [← hn] at this
    exact this

end Go.Proofs.Ytjnpndfpajjihaa
