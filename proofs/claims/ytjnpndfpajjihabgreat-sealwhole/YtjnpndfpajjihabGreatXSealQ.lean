/-
  AS A WHOLE OR NOT AT ALL, of plain disks: wherever the power fails while a transaction comes into the log. Nothing of the program is proved here.
-/
import Derived.Test.YtjnpndfpajjihabGreatGrSealWhole37
namespace Go.Proofs.YtjnpndfpajjihabGreat
open Go.RowKit

theorem puts_mem {ps : List Int} {l : List ByteArray} {s : St} (h : s ∈ putS ps l) : ∃ i, i < l.length ∧ i < ps.length ∧ s = writeS (1 + ps.getD i 0) (l.getD i ByteArray.empty) := by
  obtain ⟨i, hi⟩ := List.getElem?_of_mem h
  have hlt := (List.getElem?_eq_some_iff.1 hi).1
  unfold putS at hi hlt
  rw [List.length_zipWith] at hlt
  have h1 : i < l.length := by omega
  have h2 : i < ps.length := by omega
  refine ⟨i, h1, h2, ?_⟩
  rw [List.getElem?_zipWith, List.getElem?_eq_getElem h1, List.getElem?_eq_getElem h2] at hi
  simp only [Option.some.injEq] at hi
  rw [← hi, List.getD, List.getD, List.getElem?_eq_getElem h1, List.getElem?_eq_getElem h2]
  rfl
theorem puts_done : ∀ (l : List ByteArray) (ps : List Int) (d : Dk), l.length ≤ ps.length → ps.Nodup → (∀ p ∈ ps, 0 ≤ p ∧ p ≤ 23) → (∀ s ∈ l, fitsB s = true) → goodB d = true → d.wr.length + l.length ≤ 200 → ∀ i, i < l.length → readT (runK d (putS ps l)) (1 + ps.getD i 0) = l.getD i ByteArray.empty := by
  intro l
  induction l with
  | nil => intro ps d _ _ _ _ _ _ i hi; simp at hi
  | cons s l ih =>
    intro ps d hl hnd hp hf hg hw i hi
    cases ps with
    | nil => simp at hl
    | cons p ps =>
      have hpp := hp p (by simp)
      simp only [List.length_cons] at hl hw hi
      have he : putE d (1 + p) s = 0 := put_succ hg (by simp [placeB]; omega) (hf s (by simp)) (by omega)
      have e : runK d (putS (p :: ps) (s :: l)) = runK (putK d (1 + p) s) (putS ps l) := rfl
      have hnd2 := List.nodup_cons.1 hnd
      rw [e]
      cases i with
      | succ i =>
        rw [List.getD_cons_succ, List.getD_cons_succ]
        exact ih ps _ (by omega) hnd2.2 (fun x hx => hp x (by simp [hx])) (fun x hx => hf x (by simp [hx])) (good_put he) (by rw [putK_ok he]; simp; omega) i (by omega)
      | zero =>
        rw [List.getD_cons_zero, List.getD_cons_zero]
        have h1 := (runK_read (1 + p).toNat (by omega) (putS ps l) _ (good_put he) (fun x hx _ => by
          obtain ⟨j, _, hj, rfl⟩ := puts_mem hx
          show 1 + ps.getD j 0 ≠ _
          intro hc
          have hpj : ps.getD j 0 = p := by omega
          refine hnd2.1 ?_
          rw [← hpj, List.getD, List.getElem?_eq_getElem hj]
          exact List.getElem_mem hj)).1
        rw [show (((1 + p).toNat : Nat) : Int) = 1 + p by omega] at h1
        rw [h1]
        exact (read_put he).1
theorem places_nodup (h : Int) {n : Nat} (hn : n ≤ 24) : (placesOf h n).Nodup := by
  unfold placesOf List.Nodup
  rw [List.pairwise_map]
  refine List.Pairwise.imp_of_mem ?_ (List.pairwise_lt_range (n := n))
  intro a b ha hb hab
  have := List.mem_range.1 ha
  have := List.mem_range.1 hb
  omega
theorem log_fits {t : Tx} (hg : goodX t = true) : ∀ s ∈ logB t, fitsB s = true := by
  intro s hs
  rw [← segs_log, segB] at hs
  obtain ⟨x, hx, h⟩ := List.mem_flatMap.1 hs
  rcases List.mem_cons.1 h with rfl | h
  · have := enc_size (segs_ok hg x hx).1
    simp [fitsB]; omega
  · unfold segsOf at hx
    rcases List.mem_append.1 hx with h2 | h2
    · split at h2
      · cases h2
      · rw [List.mem_singleton.1 h2] at h; cases h
    · obtain ⟨k, _, rfl⟩ := List.mem_map.1 h2
      obtain ⟨c, hc, rfl⟩ := List.mem_map.1 h
      have hc2 : c ∈ t.info := List.mem_of_mem_drop (List.mem_of_mem_take hc)
      have hf := ((goodX_iff t).1 hg).2.1.1
      have := List.all_eq_true.1 hf c hc2
      simp only [fitsB] at this ⊢
      rw [esc_size]; exact this
theorem data_homes {t : Tx} (hg : goodX t = true) : ∀ x ∈ t.data, 0 ≤ x.1 ∧ x.1 ≤ 11 ∧ fitsB x.2 = true := by
  obtain ⟨_, ⟨_, hf⟩, ⟨_, r2, _⟩, _⟩ := (goodX_iff t).1 hg
  intro x hx
  have h1 := ((rises_iff _).1 r2).1 x.1 (List.mem_map.2 ⟨x, hx, rfl⟩)
  exact ⟨h1.1, h1.2, List.all_eq_true.1 hf x hx⟩

/-- The steps of a commit, in their parts. -/
def sealA (P : Int) (t : Tx) : List St := homeS t.data ++ putS (placesOf P ((logB t).length + 1)) (logB t)
def sealF (t : Tx) : List St := if 0 < t.rev.length + t.info.length then [flushS] else []
def sealC (P : Int) (t : Tx) : St := writeS (1 + (P + ((logB t).length : Int)) % 24) (lastB t)
theorem commit_parts {P U : Int} {t : Tx} (h : sealE P U t = 0) : commitS P U t = sealA P t ++ sealF t ++ [sealC P t, flushS] ∧ goodX t = true ∧ (0 ≤ P ∧ P ≤ 23) ∧ 0 ≤ U ∧ U + ((logB t).length : Int) + 1 ≤ 24 := by
  obtain ⟨hg, _, hl, _⟩ := sealP_facts h
  have h0 := h
  unfold sealE at h0
  split at h0
  · cases h0
  · rename_i hc
    have hgr : goodR P U = true := by cases e : goodR P U; exact absurd (.inl e) hc; rfl
    obtain ⟨p1, p2, u1, u2⟩ := goodR_yes hgr
    have hs := good_small hg
    have hn := logB_length t hs.1 hs.2.2
    have hps : sealP P U t = placesOf P ((logB t).length + 1) := by
      rw [sealP, if_pos h, takeL, if_pos h0]
      congr 1; omega
    refine ⟨?_, hg, ⟨p1, p2⟩, u1, ?_⟩
    · rw [commitS, if_pos h, hps, placeAt_get _ _ _ (by omega)]
      simp [sealA, sealF, sealC]
    · unfold takeE at h0
      split at h0
      · cases h0
      · split at h0
        · cases h0
        · omega
theorem logB_nil {t : Tx} (h : ¬ 0 < t.rev.length + t.info.length) : logB t = [] := by
  have h1 : t.rev = [] := List.eq_nil_of_length_eq_zero (by omega)
  have h2 : t.info = [] := List.eq_nil_of_length_eq_zero (by omega)
  rw [logB, revB, h1, h2]; rfl

section
variable {D : Dk} {P U : Int} {t : Tx}
theorem seal_steps (h : sealE P U t = 0) : (∀ s ∈ commitS P U t, StepOk s) ∧ (commitS P U t).length ≤ 50 := by
  obtain ⟨e, hg, hP, _, hU⟩ := commit_parts h
  have hd := homes_steps (data_homes hg)
  have hs := good_small hg
  refine ⟨?_, ?_⟩
  · rw [e]
    intro s hs
    rcases List.mem_append.1 hs with h1 | h1
    · rcases List.mem_append.1 h1 with h1 | h1
      · rcases List.mem_append.1 h1 with h1 | h1
        · exact hd.1 s h1
        · obtain ⟨i, hi, hi2, rfl⟩ := puts_mem h1
          rw [places_length] at hi2
          refine .inr ⟨?_, ?_⟩
          · show placeB (1 + (placesOf P _).getD i 0) = true
            rw [placeAt_get _ _ _ hi2]; simp [placeB]; omega
          · show fitsB ((logB t).getD i ByteArray.empty) = true
            rw [List.getD, List.getElem?_eq_getElem hi]
            exact log_fits hg _ (List.getElem_mem hi)
      · unfold sealF at h1
        split at h1
        · rw [List.mem_singleton.1 h1]; exact .inl rfl
        · cases h1
    · rcases List.mem_cons.1 h1 with rfl | h1
      · refine .inr ⟨?_, ?_⟩
        · show placeB (1 + (P + _) % 24) = true
          simp [placeB]; omega
        · show fitsB (lastB t) = true
          have := enc_size (last_good hg)
          simp [fitsB, lastB]; omega
      · rw [List.mem_singleton.1 h1]; exact .inl rfl
  · rw [e]
    have h1 : (homeS t.data).length ≤ 13 := by rw [homeS, List.length_append, homeM_length]; split <;> simp <;> omega
    have h2 : (putS (placesOf P ((logB t).length + 1)) (logB t)).length = (logB t).length := putS_length (by rw [places_length]; omega)
    have h3 : (sealF t).length ≤ 1 := by unfold sealF; split <;> simp
    simp only [sealA, List.length_append, List.length_cons, List.length_nil, h2]
    omega
/-- Who writes where. -/
theorem sealA_at (h : sealE P U t = 0) {n : Nat} (hn : n < 25) : ∀ s ∈ sealA P t ++ sealF t, s.1 ≠ 2 → s.2.1 = (n : Int) → ∃ i, i < (logB t).length ∧ (n : Int) = 1 + (P + (i : Int)) % 24 ∧ s.2.2 = (logB t).getD i ByteArray.empty := by
  obtain ⟨_, hg, _, _, _⟩ := commit_parts h
  intro s hs hk hat
  rcases List.mem_append.1 hs with h1 | h1
  · rcases List.mem_append.1 h1 with h1 | h1
    · exact absurd hat ((homes_steps (data_homes hg)).2 n hn s h1 hk)
    · obtain ⟨i, hi, hi2, rfl⟩ := puts_mem h1
      rw [places_length] at hi2
      refine ⟨i, hi, ?_, rfl⟩
      rw [← hat]
      show 1 + (placesOf P _).getD i 0 = _
      rw [placeAt_get _ _ _ hi2]
  · unfold sealF at h1
    split at h1
    · rw [List.mem_singleton.1 h1] at hk; exact absurd rfl hk
    · cases h1
theorem seal_ways (hg : goodB D = true) (hw : D.wr = []) (h : sealE P U t = 0) {k : Nat} (hk : k ≤ (commitS P U t).length) :
    goodB (runK D ((commitS P U t).take k)) = true ∧
    (∀ n : Nat, n < 25 → (∀ i : Nat, i ≤ (logB t).length → (n : Int) ≠ 1 + (P + (i : Int)) % 24) → Only (runK D ((commitS P U t).take k)) n (readT D n)) ∧
    ((k + 1 < (commitS P U t).length ∧ (∀ (n i : Nat), i < (logB t).length → (n : Int) = 1 + (P + (i : Int)) % 24 → Among (runK D ((commitS P U t).take k)) n (fun s => s = readT D n ∨ s = (logB t).getD i ByteArray.empty)) ∧ (∀ n : Nat, (n : Int) = 1 + (P + ((logB t).length : Int)) % 24 → Only (runK D ((commitS P U t).take k)) n (readT D n))) ∨
     ((commitS P U t).length ≤ k + 1 ∧ (∀ (n i : Nat), i < (logB t).length → (n : Int) = 1 + (P + (i : Int)) % 24 → Only (runK D ((commitS P U t).take k)) n ((logB t).getD i ByteArray.empty)) ∧ (∀ n : Nat, (n : Int) = 1 + (P + ((logB t).length : Int)) % 24 → Among (runK D ((commitS P U t).take k)) n (fun s => (k < (commitS P U t).length ∧ s = readT D n) ∨ s = lastB t)))) := by
  obtain ⟨e, hgt, hP, hU0, hU⟩ := commit_parts h
  obtain ⟨hok, hlen⟩ := seal_steps h
  have hoD : ∀ n : Nat, n < 37 → Only D n (readT D n) := by
    intro n hn
    obtain ⟨sf, wr⟩ := D
    simp only at hw
    subst hw
    exact only_safe hg hn
  have hokT : ∀ s ∈ (commitS P U t).take k, StepOk s := fun s hs => hok s (List.mem_of_mem_take hs)
  have hlT : D.wr.length + ((commitS P U t).take k).length ≤ 200 := by rw [hw, List.length_take]; simp; omega
  have hall : ∀ {n : Nat}, n < 25 → ∀ s ∈ commitS P U t, s.1 ≠ 2 → s.2.1 = (n : Int) → (∃ i, i < (logB t).length ∧ (n : Int) = 1 + (P + (i : Int)) % 24 ∧ s.2.2 = (logB t).getD i ByteArray.empty) ∨ ((n : Int) = 1 + (P + ((logB t).length : Int)) % 24 ∧ s = sealC P t) := by
    intro n hn s hs hk2 hat
    rw [e] at hs
    rcases List.mem_append.1 hs with h1 | h1
    · exact .inl (sealA_at h hn s h1 hk2 hat)
    · rcases List.mem_cons.1 h1 with rfl | h1
      · exact .inr ⟨hat.symm, rfl⟩
      · rw [List.mem_singleton.1 h1] at hk2; exact absurd rfl hk2
  have hgR := (run_good _ D hokT hg hlT).1
  refine ⟨hgR, ?_, ?_⟩
  · intro n hn hno
    refine run_only (by omega) _ D hokT hg hlT (hoD n (by omega)) fun s hs hk2 hat => ?_
    rcases hall hn s (List.mem_of_mem_take hs) hk2 hat with ⟨i, hi, h1, _⟩ | ⟨h1, _⟩
    · exact hno i (by omega) h1
    · exact hno _ (Nat.le_refl _) h1
  · have hlA : (commitS P U t).length = (sealA P t ++ sealF t).length + 2 := by rw [e, List.length_append]; rfl
    by_cases hk1 : k + 1 < (commitS P U t).length
    · have eT : (commitS P U t).take k = (sealA P t ++ sealF t).take k := by rw [e, List.take_append_of_le_length (by omega)]
      refine .inl ⟨hk1, ?_, ?_⟩
      · intro n i hi hni
        have hn : n < 25 := by omega
        refine run_among (by omega) _ D hokT hg hlT (fun s hs => .inl (hoD n (by omega) s hs)) fun s hs hk2 hat => ?_
        rw [eT] at hs
        obtain ⟨j, hj, h1, h2⟩ := sealA_at h hn s (List.mem_of_mem_take hs) hk2 hat
        have : j = i := by omega
        subst this
        exact .inr h2
      · intro n hni
        have hn : n < 25 := by omega
        refine run_only (by omega) _ D hokT hg hlT (hoD n (by omega)) fun s hs hk2 hat => ?_
        rw [eT] at hs
        obtain ⟨j, hj, h1, h2⟩ := sealA_at h hn s (List.mem_of_mem_take hs) hk2 hat
        omega
    · have hokA : ∀ s ∈ sealA P t ++ sealF t, StepOk s := fun s hs => hok s (by rw [e]; exact List.mem_append.2 (.inl hs))
      have hlA2 : D.wr.length + (sealA P t ++ sealF t).length ≤ 200 := by rw [hw]; simp at hlA ⊢; omega
      have hgA := run_good _ D hokA hg hlA2
      -- behind the flush all of them are safe
      have hdone : ∀ (n i : Nat), i < (logB t).length → (n : Int) = 1 + (P + (i : Int)) % 24 → Only (runK D (sealA P t ++ sealF t)) n ((logB t).getD i ByteArray.empty) := by
        intro n i hi hni
        have hpos : 0 < t.rev.length + t.info.length := by
          by_cases hx : 0 < t.rev.length + t.info.length
          · exact hx
          · rw [logB_nil hx] at hi; simp at hi
        have hokB : ∀ s ∈ sealA P t, StepOk s := fun s hs => hokA s (List.mem_append.2 (.inl hs))
        have hlB : D.wr.length + (sealA P t).length ≤ 200 := by simp at hlA2 ⊢; omega
        have hgB := run_good _ D hokB hg hlB
        have eF : runK D (sealA P t ++ sealF t) = flushK (runK D (sealA P t)) := by rw [runK_append, sealF, if_pos hpos]; rfl
        rw [eF]
        have h1 := only_flush hgB.1 (n := n) (by omega)
        have h2 : readT (runK D (sealA P t)) n = (logB t).getD i ByteArray.empty := by
          rw [sealA, runK_append]
          have hd := homes_steps (data_homes hgt)
          have hs13 : (homeS t.data).length ≤ 13 := by
            have := good_small hgt
            rw [homeS, List.length_append, homeM_length]; split <;> simp <;> omega
          have hgH := run_good (homeS t.data) D hd.1 hg (by rw [hw]; simp; omega)
          have := puts_done (logB t) (placesOf P ((logB t).length + 1)) (runK D (homeS t.data)) (by rw [places_length]; omega) (places_nodup P (by omega)) (fun p hp => by
            unfold placesOf at hp
            obtain ⟨j, _, rfl⟩ := List.mem_map.1 hp
            omega) (log_fits hgt) hgH.1 (by have := hgH.2; rw [hw] at this; simp at this; omega) i hi
          rw [placeAt_get _ _ _ (by omega), ← hni] at this
          exact this
        rwa [h2] at h1
      have hokC : StepOk (sealC P t) := hok _ (by rw [e]; simp)
      have hlC : (runK D (sealA P t ++ sealF t)).wr.length < 200 := by have := hgA.2; rw [hw] at this; simp at this hlA; omega
      have hgC := step_good hokC hgA.1 hlC
      have hlC2 : (stepK (runK D (sealA P t ++ sealF t)) (sealC P t)).wr.length < 200 := by have := hgC.2; have := hgA.2; rw [hw] at this; simp at this hlA; omega
      have keepC : ∀ (n : Nat) (v : ByteArray), n < 25 → (n : Int) ≠ 1 + (P + ((logB t).length : Int)) % 24 → Only (runK D (sealA P t ++ sealF t)) n v → Only (stepK (runK D (sealA P t ++ sealF t)) (sealC P t)) n v := fun n v hn hne hv => step_only hokC hgA.1 hlC (by omega) hv (fun _ hx => hne hx.symm)
      have oldC : ∀ n : Nat, (n : Int) = 1 + (P + ((logB t).length : Int)) % 24 → Among (stepK (runK D (sealA P t ++ sealF t)) (sealC P t)) n (fun s => s = readT D n ∨ s = lastB t) := by
        intro n hni
        refine step_among hokC hgA.1 hlC (by omega) ?_ (fun _ _ => .inr rfl)
        have := run_only (n := n) (by omega) _ D hokA hg hlA2 (hoD n (by omega)) fun s hs hk2 hat => by
          obtain ⟨j, hj, h1, h2⟩ := sealA_at h (by omega) s hs hk2 hat
          omega
        exact fun s hs => .inl (this s hs)
      refine .inr ⟨by omega, ?_⟩
      by_cases hk3 : k = (commitS P U t).length
      · have eT : runK D ((commitS P U t).take k) = flushK (stepK (runK D (sealA P t ++ sealF t)) (sealC P t)) := by
          rw [hk3, List.take_length, e, runK_append]; rfl
        rw [eT]
        refine ⟨fun n i hi hni => ?_, fun n hni s hs => ?_⟩
        · have h1 := keepC n _ (by omega) (by omega) (hdone n i hi hni)
          have h2 := only_flush hgC.1 (n := n) (by omega)
          rwa [h1.read hgC.1 (by omega)] at h2
        · have h2 := only_flush hgC.1 (n := n) (by omega) s hs
          refine .inr ?_
          rw [h2]
          have he : putE (runK D (sealA P t ++ sealF t)) (1 + (P + ((logB t).length : Int)) % 24) (lastB t) = 0 := by
            obtain ⟨a, b⟩ := hokC.resolve_left (by simp [sealC, writeS])
            exact put_succ hgA.1 a b hlC
          have := (read_put he).1
          rw [hni]
          exact this
      · have eT : runK D ((commitS P U t).take k) = stepK (runK D (sealA P t ++ sealF t)) (sealC P t) := by
          have : (commitS P U t).take k = (sealA P t ++ sealF t) ++ [sealC P t] := by
            rw [e, List.take_append, List.take_of_length_le (by omega), show k - (sealA P t ++ sealF t).length = 1 by omega]
            rfl
          rw [this, runK_append]; rfl
        rw [eT]
        refine ⟨fun n i hi hni => keepC n _ (by omega) (by omega) (hdone n i hi hni), fun n hni s hs => ?_⟩
        rcases oldC n hni s hs with h1 | h1
        · exact .inl ⟨by omega, h1⟩
        · exact .inr h1
end

/-- How many blocks of the log are in use. -/
def usedN (d : Dk) : Int := if (fndP d - (superM d).pos) % 24 = 0 ∧ 0 < (fndL d).length then 24 else (fndP d - (superM d).pos) % 24
theorem scanP_moves (log : List ByteArray) (pos : Nat) (seq : Int) (acc : List Tx) : (scanP log pos seq acc = (acc, pos)) ∨ (acc.length < (scanP log pos seq acc).1.length ∧ pos < (scanP log pos seq acc).2) := by
  rw [scanP]
  split
  · split
    · exact .inl rfl
    · rename_i n t hr
      have hb := runT_bound log seq _ pos _ n t (Nat.le_refl _) hr
      have := scanP_ge log _ n (seq + 1) (acc ++ [t]) (Nat.le_refl _)
      rw [List.length_append, List.length_singleton] at this
      exact .inr ⟨by omega, by omega⟩
  · exact .inl rfl
theorem used_pos {d : Dk} (h : scanE d = 0) : usedN d = ((scanL d).2 : Int) ∧ (scanL d).2 ≤ 24 ∧ fndP d = ((superM d).pos + ((scanL d).2 : Int)) % 24 ∧ fndN d = (superM d).seq + ((scanL d).1.length : Int) := by
  obtain ⟨_, ⟨q1, q2⟩, p1, p2, _, _⟩ := scan_good2 h
  have hle : (scanL d).2 ≤ 24 := by
    have := (scanP_told (logOf d (superM d).pos) 24 0 (superM d).seq [] (by rw [logOf_length]; omega) (fun t ht => by cases ht) q2).2.2 (Nat.zero_le _)
    rw [logOf_length] at this
    exact this
  have hP : fndP d = ((superM d).pos + ((scanL d).2 : Int)) % 24 := by rw [fndP, if_pos h]; omega
  have hm := scanP_moves (logOf d (superM d).pos) 0 (superM d).seq []
  refine ⟨?_, hle, hP, by rw [fndN, if_pos h]⟩
  have hL : (fndL d).length = (scanL d).1.length := by rw [fndL, if_pos h]
  rw [usedN, hL]
  rcases hm with e | ⟨e1, e2⟩
  · have e' : scanL d = ([], 0) := e
    rw [hP, e']
    rw [if_neg (by simp)]
    show (((superM d).pos + ((0 : Nat) : Int)) % 24 - (superM d).pos) % 24 = ((0 : Nat) : Int)
    omega
  · have e1' : 0 < (scanL d).1.length := e1
    have e2' : 0 < (scanL d).2 := e2
    split <;> omega

theorem seal_pure {D : Dk} {t : Tx} (hE : scanE D = 0) (hw : D.wr = []) (hlt : laterB D (fndN D) = false) (hN : fndN D < 2147483646) (hq : t.seq = fndN D) (hS : sealE (fndP D) (usedN D) t = 0) {k : Nat} (hk : k ≤ (commitS (fndP D) (usedN D) t).length) {q : Int} (hq0 : 0 ≤ q) {R X : Dk} (hR : R = runK D ((commitS (fndP D) (usedN D) t).take k)) (hX : X = crashK R q) :
    crashE R q = 0 ∧ scanE X = 0 ∧ ((fndL X = fndL D ∧ k < (commitS (fndP D) (usedN D) t).length) ∨ (fndL X = fndL D ++ [toldOf t] ∧ (commitS (fndP D) (usedN D) t).length ≤ k + 1)) := by
  have hgD := (scan_good2 hE).1
  obtain ⟨_, ⟨sq1, sq2⟩, p1, p2, _, hkind⟩ := scan_good2 hE
  obtain ⟨hU, hpos24, hPe, hNe⟩ := used_pos hE
  obtain ⟨_, hgt, hP, hU0, hUn⟩ := commit_parts hS
  obtain ⟨r1, r2, r3⟩ := seal_ways hgD hw hS hk
  rw [← hR] at r1 r2 r3
  rw [hU] at hUn
  have hd : decide (0 ≤ q) = true := by simpa using hq0
  have hcE : crashE R q = 0 := by rw [crashE, r1, hd]; rfl
  have hXe : X = ⟨(crashL R q.toNat 37).1, []⟩ := by rw [hX, crashK, r1, hd]; rfl
  have gX : goodB X = true := by rw [hXe]; exact crash_good r1 _
  have wX : ∀ n : Nat, n < 37 → readT X n ∈ ways R n := by
    intro n hn
    rw [hXe, read_safe (crash_good r1 _) hn]
    exact crash_at _ _ _ hn
  -- places of the log, counted from its beginning
  have plc : ∀ i j : Nat, i < 24 → j ≤ (logB t).length → 1 + ((superM D).pos + (i : Int)) % 24 = 1 + (fndP D + (j : Int)) % 24 → i = (scanL D).2 + j := by
    intro i j hi hj he
    rw [hPe] at he
    omega
  have plc' : ∀ j : Nat, j ≤ (logB t).length → 1 + ((superM D).pos + (((scanL D).2 + j : Nat) : Int)) % 24 = 1 + (fndP D + (j : Int)) % 24 := by
    intro j hj
    rw [hPe]
    omega
  have h0 : readT X 0 = readT D 0 := r2 0 (by omega) (fun i _ => by show (0 : Int) ≠ _; omega) _ (wX 0 (by omega))
  have hs : superM X = superM D := by rw [superM, superM, h0]
  have hEX : scanE X = 0 := by
    have e1 : readE X 0 = 0 := good_readE gX (n := 0) (by omega)
    have e2 : readE D 0 = 0 := good_readE hgD (n := 0) (by omega)
    rw [← hE, scanE, scanE, hs, h0, e1, e2]
  have lD : ∀ i : Nat, i < 24 → (logOf D (superM D).pos).getD i ByteArray.empty = readT D ((1 + (((superM D).pos + (i : Int)) % 24).toNat : Nat) : Int) := by
    intro i hi
    rw [logOf_at _ _ _ hi]
    congr 1; omega
  have lX : ∀ i : Nat, i < 24 → (logOf X (superM D).pos).getD i ByteArray.empty = readT X ((1 + (((superM D).pos + (i : Int)) % 24).toNat : Nat) : Int) := by
    intro i hi
    rw [logOf_at _ _ _ hi]
    congr 1; omega
  have oldD : ∀ i : Nat, i < 24 → Old (fndN D) ((logOf D (superM D).pos).getD i ByteArray.empty) := by
    intro i hi
    rw [lD i hi]
    exact later_no hlt _ (by omega) (by omega)
  -- what is not written is as it was
  have same : ∀ i : Nat, i < 24 → (∀ j : Nat, j ≤ (logB t).length → i ≠ (scanL D).2 + j) → (logOf D (superM D).pos).getD i ByteArray.empty = (logOf X (superM D).pos).getD i ByteArray.empty := by
    intro i hi hne
    rw [lD i hi, lX i hi]
    refine (r2 _ (by omega) (fun j hj he => hne j hj (plc i j hi hj (by omega))) _ (wX _ (by omega))).symm
  have hsplit := scanP_split (log := logOf D (superM D).pos) (log' := logOf X (superM D).pos) (by rw [logOf_length, logOf_length]) 24 0 (superM D).seq [] (by rw [logOf_length]; omega) (fun i hi => same i (by have : i < (scanL D).2 := hi; omega) (fun j _ he => by have : i < (scanL D).2 := hi; omega))
  have hscan : scanL X = scanP (logOf X (superM D).pos) (scanL D).2 (fndN D) (scanL D).1 := by
    rw [scanL, hs, hsplit, hNe]
    simp only [List.length_nil]
    show scanP _ (scanL D).2 ((superM D).seq + ((scanL D).1.length : Int) - _) (scanL D).1 = _
    congr 1; omega
  have fL : fndL X = (scanL X).1 := by rw [fndL, if_pos hEX]
  have fLD : fndL D = (scanL D).1 := by rw [fndL, if_pos hE]
  have hlen : (scanL D).2 + (segB (segsOf t)).length + 1 ≤ (logOf X (superM D).pos).length := by rw [logOf_length, segs_log]; omega
  have hok : ∀ x ∈ segsOf t, SegOk (fndN D) x := by rw [← hq]; exact segs_ok hgt
  -- the last block is old
  have endOld : (∀ j : Nat, j < (logB t).length → (logOf X (superM D).pos).getD ((scanL D).2 + j) ByteArray.empty = (logB t).getD j ByteArray.empty ∨ Old (fndN D) ((logOf X (superM D).pos).getD ((scanL D).2 + j) ByteArray.empty)) → Old (fndN D) ((logOf X (superM D).pos).getD ((scanL D).2 + (logB t).length) ByteArray.empty) → fndL X = fndL D := by
    intro h1 h2
    rw [fL, hscan, scanP, dif_pos (by omega), runT_old (segsOf t) _ _ _ hok hlen (by rw [segs_log]; exact h1) (by rw [segs_log]; exact h2), fLD]
  have mixAt : ∀ j : Nat, j ≤ (logB t).length → ∃ n : Nat, n < 25 ∧ (n : Int) = 1 + (fndP D + (j : Int)) % 24 ∧ (logOf X (superM D).pos).getD ((scanL D).2 + j) ByteArray.empty = readT X n ∧ (logOf D (superM D).pos).getD ((scanL D).2 + j) ByteArray.empty = readT D n := by
    intro j hj
    refine ⟨1 + (((superM D).pos + (((scanL D).2 + j : Nat) : Int)) % 24).toNat, by omega, ?_, lX _ (by omega), lD _ (by omega)⟩
    rw [← plc' j hj]
    omega
  refine ⟨hcE, hEX, ?_⟩
  rcases r3 with ⟨hk1, a1, a2⟩ | ⟨hk1, a1, a2⟩
  · refine .inl ⟨endOld (fun j hj => ?_) ?_, by omega⟩
    · obtain ⟨n, hn, hni, eX, eD⟩ := mixAt j (by omega)
      rcases a1 n j hj hni _ (wX n (by omega)) with h1 | h1
      · right; rw [eX, h1, ← eD]; exact oldD _ (by omega)
      · left; rw [eX, h1]
    · obtain ⟨n, hn, hni, eX, eD⟩ := mixAt _ (Nat.le_refl _)
      rw [eX, a2 n hni _ (wX n (by omega)), ← eD]
      exact oldD _ (by omega)
  · have hnew : ∀ j : Nat, j < (logB t).length → (logOf X (superM D).pos).getD ((scanL D).2 + j) ByteArray.empty = (logB t).getD j ByteArray.empty := by
      intro j hj
      obtain ⟨n, hn, hni, eX, _⟩ := mixAt j (by omega)
      rw [eX, a1 n j hj hni _ (wX n (by omega))]
    obtain ⟨n, hn, hni, eX, eD⟩ := mixAt _ (Nat.le_refl _)
    rcases a2 n hni _ (wX n (by omega)) with ⟨h1, h2⟩ | h1
    · refine .inl ⟨endOld (fun j hj => .inl (hnew j hj)) ?_, h1⟩
      rw [eX, h2, ← eD]
      exact oldD _ (by omega)
    · refine .inr ⟨?_, hk1⟩
      have hrun := runT_new (N := fndN D) (cm := ⟨4, t.seq, 0, [], []⟩) (last_good hgt) hq rfl (segsOf t) (logOf X (superM D).pos) (scanL D).2 (txOf (fndN D)) hok hlen (by rw [segs_log]; exact hnew) (by rw [segs_log, eX, h1]; rfl)
      rw [← hq, segs_told hgt, segs_log, hq] at hrun
      have hnone : runT (logOf X (superM D).pos) (fndN D + 1) ((scanL D).2 + (logB t).length + 1) (txOf (fndN D + 1)) = none := by
        by_cases hi : (scanL D).2 + (logB t).length + 1 < 24
        · refine runT_oldHead (N := fndN D) ?_ (by omega)
          rw [← same _ hi (fun j hj => by omega)]
          exact oldD _ hi
        · rw [runT, dif_neg (by rw [logOf_length]; omega)]
      rw [fL, hscan, scanP, dif_pos (by omega), hrun]
      simp only
      rw [scanP, dif_pos (by omega), hnone, fLD]

end Go.Proofs.YtjnpndfpajjihabGreat
