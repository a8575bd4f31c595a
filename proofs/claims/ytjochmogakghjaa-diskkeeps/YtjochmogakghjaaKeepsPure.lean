/-
  What a crash and a flush make of a good disk: plain facts, nothing of the program.
-/
import Derived.Test.YtjochmogakghjaaCrash
namespace Go.Proofs.Ytjochmogakghjaa
open Go.RowKit

theorem lastIn_fits (n : Int) (z : ByteArray) (l : List (Int × ByteArray)) (hz : fitsB z = true) (h : l.all wrB = true) : fitsB (lastIn n z l) = true := by
  induction l generalizing z with
  | nil => exact hz
  | cons x r ih =>
    simp only [List.all_cons, Bool.and_eq_true] at h
    refine ih _ ?_ h.2
    by_cases e : x.1 = n
    · rw [if_pos e]; have := h.1; simp only [wrB, Bool.and_eq_true] at this; exact this.2
    · rw [if_neg e]; exact hz

theorem good_parts {d : Dk} (h : goodB d = true) : d.safe.length = 37 ∧ d.wr.length ≤ 200 ∧ d.safe.all fitsB = true ∧ d.wr.all wrB = true := by
  simp only [goodB, Bool.and_eq_true, decide_eq_true_eq] at h
  exact ⟨h.1.1.1, h.1.1.2, h.1.2, h.2⟩

theorem safe_fits {d : Dk} (h : goodB d = true) (k : Nat) (hk : k < 37) : fitsB (d.safe.getD k ByteArray.empty) = true := by
  obtain ⟨h1, _, h3, _⟩ := good_parts h
  rw [List.all_eq_true] at h3
  exact h3 _ (List.mem_of_getElem? (getD_some d.safe k ByteArray.empty (by omega)))

theorem last_fits {d : Dk} (h : goodB d = true) (k : Nat) (hk : k < 37) : fitsB (lastOf d k) = true :=
  lastIn_fits _ _ _ (by rw [Int.toNat_natCast]; exact safe_fits h k hk) (good_parts h).2.2.2

theorem atPlace_mem (n : Int) (l : List (Int × ByteArray)) (s : ByteArray) (h : s ∈ atPlace n l) : (n, s) ∈ l := by
  induction l with
  | nil => simp [atPlace] at h
  | cons x r ih =>
    by_cases e : x.1 = n
    · simp only [atPlace, if_pos e, List.mem_cons] at h
      rcases h with rfl | h
      · rw [← e]; simp
      · exact List.mem_cons_of_mem _ (ih h)
    · simp only [atPlace, if_neg e] at h
      exact List.mem_cons_of_mem _ (ih h)

theorem ways_mem {d : Dk} {n : Nat} {s : ByteArray} (h : s ∈ ways d n) : s = d.safe.getD n ByteArray.empty ∨ ((n : Int), s) ∈ d.wr := by
  simp only [ways, List.mem_cons] at h
  rcases h with h | h
  · exact .inl h
  · exact .inr (atPlace_mem _ _ _ h)

theorem ways_fits {d : Dk} (h : goodB d = true) {k : Nat} (hk : k < 37) {s : ByteArray} (hs : s ∈ ways d k) : fitsB s = true := by
  rcases ways_mem hs with rfl | hm
  · exact safe_fits h k hk
  · have := (good_parts h).2.2.2
    rw [List.all_eq_true] at this
    have := this _ hm
    simp only [wrB, Bool.and_eq_true] at this
    exact this.2

/-- The text that a crash chooses for a place is one of those it may have. -/
theorem crash_at {d : Dk} (q k m : Nat) (hk : k < m) : (crashL d q m).1.getD k ByteArray.empty ∈ ways d k := by
  induction m with
  | zero => omega
  | succ m ih =>
    rw [crashL]
    have hl := crashL_length d q m
    by_cases e : k < m
    · have := ih e
      rwa [List.getD, List.getElem?_append_left (by omega)]
    · have e' : k = m := by omega
      subst e'
      rw [List.getD, List.getElem?_append_right (by omega), hl, Nat.sub_self]
      have hlt : (crashL d q k).2 % (ways d k).length < (ways d k).length := Nat.mod_lt _ (by simp [ways])
      exact List.mem_of_getElem? (getD_some _ _ ByteArray.empty hlt)

theorem all_of_getD {l : List ByteArray} {f : ByteArray → Bool} (h : ∀ k, k < l.length → f (l.getD k ByteArray.empty) = true) : l.all f = true := by
  rw [List.all_eq_true]
  intro x hx
  obtain ⟨k, hk⟩ := List.getElem?_of_mem hx
  have hlt := (List.getElem?_eq_some_iff.1 hk).1
  have := h k hlt
  rwa [List.getD, hk] at this

theorem good_safe {l : List ByteArray} (hl : l.length = 37) (h : ∀ k, k < 37 → fitsB (l.getD k ByteArray.empty) = true) : goodB ⟨l, []⟩ = true := by
  simp only [goodB, hl, all_of_getD (l := l) (f := fitsB) (fun k hk => h k (by omega))]
  rfl

theorem crash_good {d : Dk} (h : goodB d = true) (q : Nat) : goodB ⟨(crashL d q 37).1, []⟩ = true :=
  good_safe (crashL_length d q 37) fun k hk => ways_fits h hk (crash_at q k 37 hk)

theorem flush_at {d : Dk} (k m : Nat) (hk : k < m) : (flushL d m).getD k ByteArray.empty = lastOf d k := by
  rw [flushL, List.getD, List.getElem?_map, List.getElem?_range hk]; rfl

theorem flush_good {d : Dk} (h : goodB d = true) : goodB ⟨flushL d 37, []⟩ = true :=
  good_safe (flushL_length d 37) fun k hk => by rw [flush_at k 37 hk]; exact last_fits h k hk

theorem place_of {k : Nat} (hk : k < 37) : placeB (k : Int) = true := by simp [placeB]; omega

theorem read_safe {l : List ByteArray} (h : goodB ⟨l, []⟩ = true) {k : Nat} (hk : k < 37) : readT ⟨l, []⟩ k = l.getD k ByteArray.empty := by
  rw [readT, h, place_of hk]
  show lastOf ⟨l, []⟩ k = _
  rw [lastOf, Int.toNat_natCast]; rfl

theorem read_crash {d : Dk} (h : goodB d = true) (q : Nat) {k : Nat} (hk : k < 37) :
    readT ⟨(crashL d q 37).1, []⟩ k = d.safe.getD k ByteArray.empty ∨ ((k : Int), readT ⟨(crashL d q 37).1, []⟩ k) ∈ d.wr := by
  rw [read_safe (crash_good h q) hk]
  exact ways_mem (crash_at q k 37 hk)

theorem read_flush {d : Dk} (h : goodB d = true) {k : Nat} (hk : k < 37) : readT ⟨flushL d 37, []⟩ k = readT d k := by
  rw [read_safe (flush_good h) hk, flush_at k 37 hk, readT, h, place_of hk]; rfl

/-- What was flushed no crash can take. -/
theorem crash_flushed (l : List ByteArray) (q m : Nat) : (crashL ⟨l, []⟩ q m).1 = (List.range m).map fun k => l.getD k ByteArray.empty := by
  induction m with
  | zero => rfl
  | succ m ih =>
    have e : ways ⟨l, []⟩ m = [l.getD m ByteArray.empty] := rfl
    rw [crashL, ih, e, List.range_succ, List.map_append]
    simp only [List.length_singleton, Nat.mod_one]
    rfl

theorem range_getD (l : List ByteArray) : (List.range l.length).map (fun k => l.getD k ByteArray.empty) = l := by
  apply List.ext_getElem?
  intro i
  by_cases hi : i < l.length
  · rw [List.getElem?_map, List.getElem?_range hi, getD_some l i ByteArray.empty hi]; rfl
  · rw [List.getElem?_eq_none (by simpa using hi), List.getElem?_eq_none (by omega)]

theorem crashK_flushed (d : Dk) (h : goodB d = true) (q : Int) (hq : 0 ≤ q) : crashK ⟨flushL d 37, []⟩ q = ⟨flushL d 37, []⟩ ∧ crashE ⟨flushL d 37, []⟩ q = 0 := by
  have hg := flush_good h
  have hd : decide (0 ≤ q) = true := by simpa using hq
  rw [crashK, crashE, hg, hd]
  refine ⟨?_, rfl⟩
  show (⟨(crashL ⟨flushL d 37, []⟩ q.toNat 37).1, []⟩ : Dk) = _
  have e := range_getD (flushL d 37)
  rw [flushL_length] at e
  rw [crash_flushed, e]

end Go.Proofs.Ytjochmogakghjaa
