/-
  What RecoverTwice goes by, as plain data: wherever the power fails while a disk is put right. Nothing of the program is proved here.
-/
import Derived.Test.YtjnpndfpajjihabGreatGrSealWhole34
import Derived.Test.YtjnpndfpajjihabGreatGrSealWhole35
import Derived.Test.YtjnpndfpajjihabGreatMPure
namespace Go.Proofs.YtjnpndfpajjihabGreat
open Go.RowKit

/-- All that a place may be is one text. -/
def Only (d : Dk) (n : Nat) (v : ByteArray) : Prop := ∀ s ∈ ways d n, s = v
theorem ways_safe (l : List ByteArray) (n : Nat) : ways ⟨l, []⟩ n = [l.getD n ByteArray.empty] := rfl
theorem ways_put {d : Dk} {m : Int} {t : ByteArray} (h : putE d m t = 0) (n : Nat) : ways (putK d m t) n = if m = (n : Int) then ways d n ++ [t] else ways d n := by
  rw [putK_ok h, ways, ways]
  show d.safe.getD n ByteArray.empty :: atPlace n (d.wr ++ [(m, t)]) = _
  rw [atPlace_snoc]
  by_cases e : m = (n : Int)
  · rw [if_pos e, if_pos e]; rfl
  · rw [if_neg e, if_neg e]
theorem last_ways {d : Dk} (n : Nat) : lastOf d n ∈ ways d n := by
  have : ∀ (l : List (Int × ByteArray)) (z : ByteArray), lastIn n z l ∈ z :: atPlace n l := by
    intro l
    induction l with
    | nil => intro z; simp [lastIn]
    | cons x l ih =>
      intro z
      rw [lastIn, atPlace]
      by_cases e : x.1 = (n : Int)
      · rw [if_pos e, if_pos e]
        exact List.mem_cons_of_mem _ (ih x.2)
      · rw [if_neg e, if_neg e]
        exact ih z
  have h := this d.wr (d.safe.getD n ByteArray.empty)
  rw [lastOf, Int.toNat_natCast]
  exact h
theorem Only.last {d : Dk} {n : Nat} {v : ByteArray} (h : Only d n v) : lastOf d n = v := h _ (last_ways n)
theorem Only.read {d : Dk} {n : Nat} {v : ByteArray} (h : Only d n v) (hg : goodB d = true) (hn : n < 37) : readT d n = v := by
  rw [readT, hg, place_of hn]
  exact h.last
theorem only_safe {l : List ByteArray} (hg : goodB ⟨l, []⟩ = true) {n : Nat} (hn : n < 37) : Only ⟨l, []⟩ n (readT ⟨l, []⟩ n) := by
  intro s hs
  rw [ways_safe] at hs
  rw [read_safe hg hn]
  simpa using hs
theorem only_flush {d : Dk} (hg : goodB d = true) {n : Nat} (hn : n < 37) : Only (flushK d) n (readT d n) := by
  rw [flushK, if_pos hg, ← read_flush hg hn]
  exact only_safe (flush_good hg) hn
theorem put_succ {d : Dk} {m : Int} {t : ByteArray} (hg : goodB d = true) (hp : placeB m = true) (hf : fitsB t = true) (hl : d.wr.length < 200) : putE d m t = 0 := by
  rw [putE, hg, hp, hf]
  simp
  omega
theorem flush_wr {d : Dk} (hg : goodB d = true) : (flushK d).wr = [] := by rw [flushK, if_pos hg]
theorem flush_gd {d : Dk} (hg : goodB d = true) : goodB (flushK d) = true := by rw [flushK, if_pos hg]; exact flush_good hg

/-- Steps that write fitting blocks to places. -/
def StepOk (s : St) : Prop := s.1 = 2 ∨ (placeB s.2.1 = true ∧ fitsB s.2.2 = true)
theorem step_good {d : Dk} {s : St} (hs : StepOk s) (hg : goodB d = true) (hl : d.wr.length < 200) : goodB (stepK d s) = true ∧ (stepK d s).wr.length ≤ d.wr.length + 1 := by
  unfold stepK
  by_cases h2 : s.1 = 2
  · rw [if_pos h2]
    exact ⟨flush_gd hg, by rw [flush_wr hg]; simp⟩
  · rw [if_neg h2]
    obtain ⟨hp, hf⟩ := hs.resolve_left h2
    have he := put_succ hg hp hf hl
    refine ⟨good_put he, ?_⟩
    rw [putK_ok he]; simp
theorem step_only {d : Dk} {s : St} (hs : StepOk s) (hg : goodB d = true) (hl : d.wr.length < 200) {n : Nat} (hn : n < 37) {v : ByteArray} (hv : Only d n v) (hne : s.1 ≠ 2 → s.2.1 ≠ (n : Int)) : Only (stepK d s) n v := by
  unfold stepK
  by_cases h2 : s.1 = 2
  · rw [if_pos h2]
    have := only_flush hg hn
    rwa [hv.read hg hn] at this
  · rw [if_neg h2]
    obtain ⟨hp, hf⟩ := hs.resolve_left h2
    intro x hx
    rw [ways_put (put_succ hg hp hf hl), if_neg (hne h2)] at hx
    exact hv x hx
theorem run_good : ∀ (l : List St) (d : Dk), (∀ s ∈ l, StepOk s) → goodB d = true → d.wr.length + l.length ≤ 200 → goodB (runK d l) = true ∧ (runK d l).wr.length ≤ d.wr.length + l.length := by
  intro l
  induction l with
  | nil => intro d _ hg _; exact ⟨hg, by simp [runK]⟩
  | cons s l ih =>
    intro d hs hg hl
    simp only [List.length_cons] at hl
    have h1 := step_good (hs s (by simp)) hg (by omega)
    have h2 := ih (stepK d s) (fun x hx => hs x (by simp [hx])) h1.1 (by omega)
    refine ⟨h2.1, ?_⟩
    have := h2.2
    simp only [List.length_cons]
    show (runK (stepK d s) l).wr.length ≤ _
    omega
theorem run_only {n : Nat} (hn : n < 37) {v : ByteArray} : ∀ (l : List St) (d : Dk), (∀ s ∈ l, StepOk s) → goodB d = true → d.wr.length + l.length ≤ 200 → Only d n v → (∀ s ∈ l, s.1 ≠ 2 → s.2.1 ≠ (n : Int)) → Only (runK d l) n v := by
  intro l
  induction l with
  | nil => intro d _ _ _ hv _; exact hv
  | cons s l ih =>
    intro d hs hg hl hv hne
    simp only [List.length_cons] at hl
    have h1 := step_good (hs s (by simp)) hg (by omega)
    exact ih (stepK d s) (fun x hx => hs x (by simp [hx])) h1.1 (by omega) (step_only (hs s (by simp)) hg (by omega) hn hv (hne s (by simp))) (fun x hx => hne x (by simp [hx]))
theorem runK_append (d : Dk) (l r : List St) : runK d (l ++ r) = runK (runK d l) r := List.foldl_append

/-- Copies that can go home: each block once. -/
def Homes (cs : List (Int × ByteArray)) : Prop := (cs.map (·.1)).Nodup ∧ (∀ x ∈ cs, 0 ≤ x.1 ∧ x.1 ≤ 11 ∧ fitsB x.2 = true) ∧ cs.length ≤ 12
theorem homes_steps {cs : List (Int × ByteArray)} (h : ∀ x ∈ cs, 0 ≤ x.1 ∧ x.1 ≤ 11 ∧ fitsB x.2 = true) : (∀ s ∈ homeS cs, StepOk s) ∧ ∀ n : Nat, n < 25 → ∀ s ∈ homeS cs, s.1 ≠ 2 → s.2.1 ≠ (n : Int) := by
  have key : ∀ s ∈ homeS cs, (∃ x ∈ cs, s = writeS (25 + x.1) x.2) ∨ s = flushS := by
    intro s hs
    rw [homeS] at hs
    rcases List.mem_append.1 hs with h2 | h2
    · obtain ⟨x, hx, rfl⟩ := List.mem_map.1 h2
      exact .inl ⟨x, hx, rfl⟩
    · split at h2
      · cases h2
      · exact .inr (List.mem_singleton.1 h2)
  refine ⟨fun s hs => ?_, fun n hn s hs hk => ?_⟩
  · rcases key s hs with ⟨x, hx, rfl⟩ | rfl
    · have := h x hx
      refine .inr ⟨?_, this.2.2⟩
      show placeB (25 + x.1) = true
      simp [placeB]; omega
    · exact .inl rfl
  · rcases key s hs with ⟨x, hx, rfl⟩ | rfl
    · have := h x hx
      show (25 : Int) + x.1 ≠ _
      omega
    · exact absurd rfl hk
/-- Behind all of them, and a flush, each is home. -/
theorem homes_done : ∀ (cs : List (Int × ByteArray)) (d : Dk), Homes cs → goodB d = true → d.wr.length + cs.length ≤ 200 → ∀ x ∈ cs, lastOf (runK d (homeM cs)) (25 + x.1) = x.2 := by
  intro cs
  induction cs with
  | nil => intro d _ _ _ x hx; cases hx
  | cons c cs ih =>
    intro d hH hg hl x hx
    obtain ⟨hnd, hb, hlen⟩ := hH
    have hc := hb c (by simp)
    have hnd2 := List.nodup_cons.1 hnd
    simp only [List.length_cons] at hl hlen
    have hok : StepOk (writeS (25 + c.1) c.2) := .inr ⟨show placeB (25 + c.1) = true by simp [placeB]; omega, hc.2.2⟩
    have h1 := step_good hok hg (by omega)
    have e : homeM (c :: cs) = writeS (25 + c.1) c.2 :: homeM cs := rfl
    rw [e]
    show lastOf (runK (stepK d (writeS (25 + c.1) c.2)) (homeM cs)) (25 + x.1) = x.2
    rcases List.mem_cons.1 hx with rfl | hx2
    · -- nobody behind it writes there
      have hst : stepK d (writeS (25 + x.1) x.2) = putK d (25 + x.1) x.2 := rfl
      have he : putE d (25 + x.1) x.2 = 0 := put_succ hg (by simp [placeB]; omega) hc.2.2 (by omega)
      have key : ∀ (l : List (Int × ByteArray)) (D : Dk), (∀ y ∈ l, 0 ≤ y.1 ∧ y.1 ≤ 11 ∧ fitsB y.2 = true) → (∀ y ∈ l, y.1 ≠ x.1) → goodB D = true → D.wr.length + l.length ≤ 200 → lastOf (runK D (homeM l)) (25 + x.1) = lastOf D (25 + x.1) := by
        intro l
        induction l with
        | nil => intro D _ _ _ _; rfl
        | cons y l ih2 =>
          intro D hb2 hne hgD hlD
          simp only [List.length_cons] at hlD
          have hy := hb2 y (by simp)
          have he2 : putE D (25 + y.1) y.2 = 0 := put_succ hgD (by simp [placeB]; omega) hy.2.2 (by omega)
          have e2 : homeM (y :: l) = writeS (25 + y.1) y.2 :: homeM l := rfl
          rw [e2]
          show lastOf (runK (putK D (25 + y.1) y.2) (homeM l)) (25 + x.1) = _
          have hg2 := good_put he2
          rw [ih2 _ (fun z hz => hb2 z (by simp [hz])) (fun z hz => hne z (by simp [hz])) hg2 (by rw [putK_ok he2]; simp; omega), putK_ok he2, last_put, if_neg]
          have := hne y (by simp)
          omega
      rw [hst, key cs _ (fun y hy => hb y (by simp [hy])) (fun y hy e => hnd2.1 (List.mem_map.2 ⟨y, hy, e⟩)) (good_put he) (by rw [putK_ok he]; simp; omega), putK_ok he, last_put, if_pos rfl]
    · exact ih _ ⟨hnd2.2, fun y hy => hb y (by simp [hy]), by omega⟩ h1.1 (by omega) x hx2

end Go.Proofs.YtjnpndfpajjihabGreat
