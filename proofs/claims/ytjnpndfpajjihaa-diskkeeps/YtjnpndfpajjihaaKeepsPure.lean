/-
  What a crash makes of a good disk: plain facts, nothing of the program.
-/
import Derived.Test.YtjnpndfpajjihaaCrash
import Derived.Test.YtjnpndfpajjihaaKPure
namespace Go.Proofs.Ytjnpndfpajjihaa
open Go.RowKit

/-- The text that a crash chooses for a place is one of those it may have. -/
theorem crash_at {d : Dk} (q k m : Nat) (hk : k < m) : (crashL d q m).1.getD k ByteArray.empty ∈ ways d k := by
  induction m with
  | zero => omega
  | succ m ih =>
    rw [crashL]
    have hl := crashL_length d q m
    by_cases e : k < m
    · have := ih e
      rwa [List.getD, List.getElem?_append_left (by omega)]
    · have e' : k = m := by omega
      subst e'
      rw [List.getD, List.getElem?_append_right (by omega), hl, Nat.sub_self]
      have hlt : (crashL d q k).2 % (ways d k).length < (ways d k).length := Nat.mod_lt _ (by simp [ways])
      exact List.mem_of_getElem? (getD_some _ _ ByteArray.empty hlt)

theorem crash_good {d : Dk} (h : goodB d = true) (q : Nat) : goodB ⟨(crashL d q 37).1, []⟩ = true :=
  good_safe (crashL_length d q 37) fun k hk => ways_fits h hk (crash_at q k 37 hk)

theorem read_crash {d : Dk} (h : goodB d = true) (q : Nat) {k : Nat} (hk : k < 37) :
    readT ⟨(crashL d q 37).1, []⟩ k = d.safe.getD k ByteArray.empty ∨ ((k : Int), readT ⟨(crashL d q 37).1, []⟩ k) ∈ d.wr := by
  rw [read_safe (crash_good h q) hk]
  exact ways_mem (crash_at q k 37 hk)

/-- What was flushed no crash can take. -/
theorem crash_flushed (l : List ByteArray) (q m : Nat) : (crashL ⟨l, []⟩ q m).1 = (List.range m).map fun k => l.getD k ByteArray.empty := by
  induction m with
  | zero => rfl
  | succ m ih =>
    have e : ways ⟨l, []⟩ m = [l.getD m ByteArray.empty] := rfl
    rw [crashL, ih, e, List.range_succ, List.map_append]
    simp only [List.length_singleton, Nat.mod_one]
    rfl

theorem crashK_flushed (d : Dk) (h : goodB d = true) (q : Int) (hq : 0 ≤ q) : crashK ⟨flushL d 37, []⟩ q = ⟨flushL d 37, []⟩ ∧ crashE ⟨flushL d 37, []⟩ q = 0 := by
  have hg := flush_good h
  have hd : decide (0 ≤ q) = true := by simpa using hq
  rw [crashK, crashE, hg, hd]
  refine ⟨?_, rfl⟩
  show (⟨(crashL ⟨flushL d 37, []⟩ q.toNat 37).1, []⟩ : Dk) = _
  have e := range_getD (flushL d 37)
  rw [flushL_length] at e
  rw [crash_flushed, e]


end Go.Proofs.Ytjnpndfpajjihaa
