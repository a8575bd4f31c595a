/-
  What a write and a flush make of a good disk: plain facts, nothing of the program.
-/
import Derived.Test.YtjnpndfpajjihaaFlush
import Derived.Test.YtjnpndfpajjihaaChoicesP
namespace Go.Proofs.Ytjnpndfpajjihaa
open Go.RowKit

theorem lastIn_fits (n : Int) (z : ByteArray) (l : List (Int × ByteArray)) (hz : fitsB z = true) (h : l.all wrB = true) : fitsB (lastIn n z l) = true := by
  induction l generalizing z with
  | nil => exact hz
  | cons x r ih =>
    simp only [List.all_cons, Bool.and_eq_true] at h
    refine ih _ ?_ h.2
    by_cases e : x.1 = n
    · rw [if_pos e]; have := h.1; simp only [wrB, Bool.and_eq_true] at this; exact this.2
    · rw [if_neg e]; exact hz

theorem good_parts {d : Dk} (h : goodB d = true) : d.safe.length = 37 ∧ d.wr.length ≤ 200 ∧ d.safe.all fitsB = true ∧ d.wr.all wrB = true := by
  simp only [goodB, Bool.and_eq_true, decide_eq_true_eq] at h
  exact ⟨h.1.1.1, h.1.1.2, h.1.2, h.2⟩

theorem safe_fits {d : Dk} (h : goodB d = true) (k : Nat) (hk : k < 37) : fitsB (d.safe.getD k ByteArray.empty) = true := by
  obtain ⟨h1, _, h3, _⟩ := good_parts h
  rw [List.all_eq_true] at h3
  exact h3 _ (List.mem_of_getElem? (getD_some d.safe k ByteArray.empty (by omega)))

theorem last_fits {d : Dk} (h : goodB d = true) (k : Nat) (hk : k < 37) : fitsB (lastOf d k) = true :=
  lastIn_fits _ _ _ (by rw [Int.toNat_natCast]; exact safe_fits h k hk) (good_parts h).2.2.2

theorem atPlace_mem (n : Int) (l : List (Int × ByteArray)) (s : ByteArray) (h : s ∈ atPlace n l) : (n, s) ∈ l := by
  induction l with
  | nil => simp [atPlace] at h
  | cons x r ih =>
    by_cases e : x.1 = n
    · simp only [atPlace, if_pos e, List.mem_cons] at h
      rcases h with rfl | h
      · rw [← e]; simp
      · exact List.mem_cons_of_mem _ (ih h)
    · simp only [atPlace, if_neg e] at h
      exact List.mem_cons_of_mem _ (ih h)

theorem ways_mem {d : Dk} {n : Nat} {s : ByteArray} (h : s ∈ ways d n) : s = d.safe.getD n ByteArray.empty ∨ ((n : Int), s) ∈ d.wr := by
  simp only [ways, List.mem_cons] at h
  rcases h with h | h
  · exact .inl h
  · exact .inr (atPlace_mem _ _ _ h)

theorem ways_fits {d : Dk} (h : goodB d = true) {k : Nat} (hk : k < 37) {s : ByteArray} (hs : s ∈ ways d k) : fitsB s = true := by
  rcases ways_mem hs with rfl | hm
  · exact safe_fits h k hk
  · have := (good_parts h).2.2.2
    rw [List.all_eq_true] at this
    have := this _ hm
    simp only [wrB, Bool.and_eq_true] at this
    exact this.2

theorem all_of_getD {l : List ByteArray} {f : ByteArray → Bool} (h : ∀ k, k < l.length → f (l.getD k ByteArray.empty) = true) : l.all f = true := by
  rw [List.all_eq_true]
  intro x hx
  obtain ⟨k, hk⟩ := List.getElem?_of_mem hx
  have hlt := (List.getElem?_eq_some_iff.1 hk).1
  have := h k hlt
  rwa [List.getD, hk] at this

theorem good_safe {l : List ByteArray} (hl : l.length = 37) (h : ∀ k, k < 37 → fitsB (l.getD k ByteArray.empty) = true) : goodB ⟨l, []⟩ = true := by
  simp only [goodB, hl, all_of_getD (l := l) (f := fitsB) (fun k hk => h k (by omega))]
  rfl

theorem flush_at {d : Dk} (k m : Nat) (hk : k < m) : (flushL d m).getD k ByteArray.empty = lastOf d k := by
  rw [flushL, List.getD, List.getElem?_map, List.getElem?_range hk]; rfl

theorem flush_good {d : Dk} (h : goodB d = true) : goodB ⟨flushL d 37, []⟩ = true :=
  good_safe (flushL_length d 37) fun k hk => by rw [flush_at k 37 hk]; exact last_fits h k hk

theorem place_of {k : Nat} (hk : k < 37) : placeB (k : Int) = true := by simp [placeB]; omega

theorem read_safe {l : List ByteArray} (h : goodB ⟨l, []⟩ = true) {k : Nat} (hk : k < 37) : readT ⟨l, []⟩ k = l.getD k ByteArray.empty := by
  rw [readT, h, place_of hk]
  show lastOf ⟨l, []⟩ k = _
  rw [lastOf, Int.toNat_natCast]; rfl

theorem read_flush {d : Dk} (h : goodB d = true) {k : Nat} (hk : k < 37) : readT ⟨flushL d 37, []⟩ k = readT d k := by
  rw [read_safe (flush_good h) hk, flush_at k 37 hk, readT, h, place_of hk]; rfl

theorem range_getD (l : List ByteArray) : (List.range l.length).map (fun k => l.getD k ByteArray.empty) = l := by
  apply List.ext_getElem?
  intro i
  by_cases hi : i < l.length
  · rw [List.getElem?_map, List.getElem?_range hi, getD_some l i ByteArray.empty hi]; rfl
  · rw [List.getElem?_eq_none (by simpa using hi), List.getElem?_eq_none (by omega)]
theorem put_good {d : Dk} {n : Int} {s : ByteArray} (h : putE d n s = 0) : goodB d = true ∧ placeB n = true ∧ fitsB s = true ∧ ¬ d.wr.length = 200 := by
  unfold putE at h
  by_cases h1 : (goodB d && placeB n) = true
  · rw [if_pos h1] at h
    by_cases h2 : fitsB s = true
    · rw [if_pos h2] at h
      by_cases h3 : d.wr.length = 200
      · rw [if_pos h3] at h; cases h
      · simp at h1; exact ⟨h1.1, h1.2, h2, h3⟩
    · rw [if_neg h2] at h; cases h
  · rw [if_neg h1] at h; cases h

theorem putK_ok {d : Dk} {n : Int} {s : ByteArray} (h : putE d n s = 0) : putK d n s = ⟨d.safe, d.wr ++ [(n, s)]⟩ := by rw [putK, if_pos h]
theorem putK_no {d : Dk} {n : Int} {s : ByteArray} (h : putE d n s ≠ 0) : putK d n s = d := by rw [putK, if_neg h]

theorem good_put {d : Dk} {n : Int} {s : ByteArray} (h : putE d n s = 0) : goodB (putK d n s) = true := by
  rw [putK_ok h]
  obtain ⟨hg, hp, hf, hl⟩ := put_good h
  simp only [goodB, Bool.and_eq_true, decide_eq_true_eq] at hg ⊢
  obtain ⟨⟨⟨h1, h2⟩, h3⟩, h4⟩ := hg
  refine ⟨⟨⟨h1, ?_⟩, h3⟩, ?_⟩
  · simp; omega
  · rw [List.all_append, h4]; simp [wrB, hp, hf]

theorem last_put (d : Dk) (n m : Int) (s : ByteArray) : lastOf ⟨d.safe, d.wr ++ [(n, s)]⟩ m = if n = m then s else lastOf d m := lastIn_snoc _ _ _ _

theorem read_put {d : Dk} {n : Int} {s : ByteArray} (h : putE d n s = 0) : readT (putK d n s) n = s ∧ readE (putK d n s) n = 0 := by
  have hg := good_put h
  have hp := (put_good h).2.1
  rw [readT, readE, hg, hp]
  refine ⟨?_, rfl⟩
  rw [putK_ok h]
  simp [last_put]

theorem read_other {d : Dk} {n : Int} {s : ByteArray} (h : putE d n s = 0) (m : Int) : readE (putK d n s) m = readE d m ∧ (m ≠ n → readT (putK d n s) m = readT d m) := by
  have hg := good_put h
  have hg' := (put_good h).1
  rw [readT, readE, readT, readE, hg, hg']
  refine ⟨rfl, fun hne => ?_⟩
  have e : lastOf (putK d n s) m = lastOf d m := by rw [putK_ok h, last_put, if_neg (fun e => hne e.symm)]
  rw [e]


end Go.Proofs.Ytjnpndfpajjihaa
