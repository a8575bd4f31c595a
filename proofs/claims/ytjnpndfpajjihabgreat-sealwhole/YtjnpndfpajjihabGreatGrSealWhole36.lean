/-
  What is found on a disk, as plain data: how small it is, and that it can be put right. Nothing of the program is proved here.
  What RecoverTwice goes by, as plain data: wherever the power fails while a disk is put right. Nothing of the program is proved here.
-/
import Derived.Test.YtjnpndfpajjihabGreatGrSealWhole20
import Derived.Test.YtjnpndfpajjihabGreatXRun
import Derived.Test.YtjnpndfpajjihabGreatGrSealWhole23
import Derived.Test.YtjnpndfpajjihabGreatXCheck
import Derived.Test.YtjnpndfpajjihabGreatXReplay0
import Derived.Test.YtjnpndfpajjihabGreatGrSealWhole35
import Derived.Test.YtjnpndfpajjihabGreatGrSealWhole14
namespace Go.Proofs.YtjnpndfpajjihabGreat
open Go.RowKit

/-- A transaction as a log tells it. -/
def Told (n : Nat) (t : Tx) : Prop := t.info.length ≤ n ∧ t.rev.length ≤ 20 * n ∧ t.data = [] ∧ t.h0 = ⟨false, 0⟩ ∧ t.h1 = ⟨false, 0⟩ ∧ t.h2 = ⟨false, 0⟩
theorem mark_small {m : Mk} (h : goodM m = 0) : m.tags.length ≤ 10 ∧ m.blocks.length ≤ 20 := by
  unfold goodM at h
  split at h
  · cases h
  · split at h
    · cases h
    · split at h
      · cases h
      · rename_i h3
        split at h
        · cases h
        · rename_i h4
          constructor
          · by_cases e : m.kind = 2
            · have : ¬ (m.tags.length < 1 ∨ 10 < m.tags.length) := fun x => h4 (.inl ⟨e, x⟩)
              omega
            · have : ¬ m.tags ≠ [] := fun x => h3 (.inr (.inl ⟨e, x⟩))
              simp only [ne_eq, Decidable.not_not] at this
              rw [this]; exact Nat.zero_le _
          · by_cases e : m.kind = 3
            · have : ¬ (m.blocks.length < 1 ∨ 20 < m.blocks.length) := fun x => h4 (.inr (.inl ⟨e, x⟩))
              omega
            · have : ¬ m.blocks ≠ [] := fun x => h3 (.inr (.inr ⟨e, x⟩))
              simp only [ne_eq, Decidable.not_not] at this
              rw [this]; exact Nat.zero_le _
theorem runT_told (log : List ByteArray) (seq : Int) : ∀ (f i : Nat) (t : Tx) (n : Nat) (u : Tx), log.length - i ≤ f → i ≤ log.length → Told i t → runT log seq i t = some (n, u) → Told log.length u ∧ u.seq = t.seq := by
  intro f
  induction f with
  | zero => intro i t n u hf hi ht h; rw [runT, dif_neg (by omega)] at h; cases h
  | succ f ih =>
    intro i t n u hf hi ht h
    rw [runT] at h
    split at h
    · split at h
      · cases h
      · rename_i h1
        split at h
        · cases h
          obtain ⟨a, b, c⟩ := ht
          exact ⟨⟨by omega, by omega, c⟩, rfl⟩
        · split at h
          · rename_i h3
            have he : (stampDec (log.getD i ByteArray.empty)).2 = 0 := by
              by_cases hx : (stampDec (log.getD i ByteArray.empty)).2 = 0
              · exact hx
              · exact absurd (.inl hx) h1
            have hm := mark_small (dec_good he)
            have := ih _ _ _ _ (by omega) h3 ?_ h
            · exact ⟨this.1, this.2⟩
            · obtain ⟨a, b, c⟩ := ht
              refine ⟨?_, ?_, c⟩
              · show (t.info ++ copiesAt log (i + 1) _).length ≤ _
                rw [List.length_append, copiesAt_length]; omega
              · show (t.rev ++ _).length ≤ _
                rw [List.length_append]; omega
          · cases h
    · cases h
theorem scanP_told (log : List ByteArray) : ∀ (f pos : Nat) (seq : Int) (acc : List Tx), log.length - pos ≤ f → (∀ t ∈ acc, Told log.length t) → seq ≤ 2147483647 → (∀ t ∈ (scanP log pos seq acc).1, Told log.length t) ∧ seq + ((scanP log pos seq acc).1.length : Int) ≤ 2147483647 + (acc.length : Int) ∧ (pos ≤ log.length → (scanP log pos seq acc).2 ≤ log.length) := by
  intro f
  induction f with
  | zero =>
    intro pos seq acc hf ha hq
    rw [scanP]
    split
    · rw [runT, dif_neg (by omega)]
      exact ⟨ha, by simp; omega, fun h => h⟩
    · exact ⟨ha, by simp; omega, fun h => h⟩
  | succ f ih =>
    intro pos seq acc hf ha hq
    rw [scanP]
    split
    · split
      · exact ⟨ha, by simp; omega, fun h => h⟩
      · rename_i h2 n t hr
        have hb := runT_bound log seq _ pos _ n t (Nat.le_refl _) hr
        have ht := (runT_told log seq _ pos (txOf seq) n t (Nat.le_refl _) (by omega) ⟨Nat.zero_le _, Nat.zero_le _, rfl, rfl, rfl, rfl⟩ hr).1
        have := ih n (seq + 1) (acc ++ [t]) (by omega) (fun x hx => by
          rcases List.mem_append.1 hx with h | h
          · exact ha x h
          · rw [List.mem_singleton.1 h]; exact ht) (by omega)
        refine ⟨this.1, ?_, fun _ => this.2.2 hb.2⟩
        have h3 := this.2.1
        rw [List.length_append, List.length_singleton] at h3
        push_cast at h3 ⊢
        omega
    · exact ⟨ha, by simp; omega, fun h => h⟩
theorem scan_good2 {d : Dk} (h : scanE d = 0) : goodB d = true ∧ (1 ≤ (superM d).seq ∧ (superM d).seq ≤ 2147483647) ∧ 0 ≤ (superM d).pos ∧ (superM d).pos ≤ 23 ∧ stampDec (readT d 0) = (superM d, 0) ∧ (superM d).kind = 1 := by
  unfold scanE at h
  split at h
  · rename_i h1; exact absurd h h1
  · rename_i h1
    split at h
    · cases h
    · rename_i h2
      have h3 : (stampDec (readT d 0)).2 = 0 := by
        by_cases hx : (stampDec (readT d 0)).2 = 0
        · exact hx
        · exact absurd (.inl hx) h2
      have hk : (superM d).kind = 1 := by
        by_cases hx : (superM d).kind = 1
        · exact hx
        · exact absurd (.inr hx) h2
      have h4 := dec_good h3
      have h5 : readE d 0 = 0 := by
        by_cases hx : readE d 0 = 0
        · exact hx
        · exact absurd hx h1
      refine ⟨?_, ?_⟩
      · unfold readE at h5
        split at h5
        · rename_i hx; exact (Bool.and_eq_true_iff.1 hx).1
        · cases h5
      · have h6 : goodM (superM d) = 0 := h4
        unfold goodM at h4
        split at h4
        · cases h4
        · split at h4
          · cases h4
          · rename_i hx
            have hy : ¬ ((superM d).seq < 1 ∨ 2147483647 < (superM d).seq ∨ (superM d).pos < 0 ∨ 23 < (superM d).pos) := hx
            refine ⟨by omega, by omega, by omega, ?_, hk⟩
            exact Prod.ext rfl h3
theorem fnd_facts {d : Dk} (h : scanE d = 0) : (∀ t ∈ fndL d, Told 24 t) ∧ (1 ≤ fndN d ∧ fndN d ≤ 2147483647) ∧ 0 ≤ fndP d ∧ fndP d ≤ 23 := by
  obtain ⟨_, ⟨q1, q2⟩, p1, p2, _, _⟩ := scan_good2 h
  have := scanP_told (logOf d (superM d).pos) 24 0 (superM d).seq [] (by rw [logOf_length]; omega) (fun t ht => by cases ht) q2
  rw [logOf_length] at this
  rw [fndL, fndN, fndP, if_pos h, if_pos h, if_pos h]
  have h2 : (superM d).seq + ((scanL d).1.length : Int) ≤ 2147483647 := by have := this.2.1; simpa [scanL] using this
  exact ⟨this.1, ⟨by omega, h2⟩, by omega, by omega⟩

theorem newestF_good {l : List Tx} (h : ∀ t ∈ l, goodX t = true) (b : Int) : ∀ s, newestF l b = some s → fitsB s = true := by
  have key : ∀ (l : List Tx) (o : Option ByteArray), (∀ t ∈ l, goodX t = true) → (∀ s, o = some s → fitsB s = true) → ∀ s, l.foldl (nwStep b) o = some s → fitsB s = true := by
    intro l
    induction l with
    | nil => intro o _ ho s hs; exact ho s hs
    | cons t l ih =>
      intro o hg ho s hs
      rw [List.foldl_cons] at hs
      refine ih _ (fun x hx => hg x (by simp [hx])) ?_ s hs
      intro u hu
      unfold nwStep at hu
      split at hu
      · have hf := ((goodX_iff t).1 (hg t (by simp))).2.1.1
        have : ∀ m : List (Int × ByteArray), fitsAll m = true → textIn b m = some u → fitsB u = true := by
          intro m
          induction m with
          | nil => intro _ h; cases h
          | cons y m ih2 =>
            intro hm hx
            simp only [fitsAll, List.all_cons, Bool.and_eq_true] at hm
            rw [textIn] at hx
            split at hx
            · cases hx; exact hm.1
            · exact ih2 hm.2 hx
        exact this _ hf hu
      · split at hu
        · cases hu
        · exact ho u hu
  exact key l none h (fun s hs => by cases hs)
theorem asN_mem {f : Int → Option ByteArray} {n : Nat} {x : Int × ByteArray} (h : x ∈ asN f n) : 0 ≤ x.1 ∧ x.1 < n ∧ f x.1 = some x.2 := by
  induction n with
  | zero => simp [asN] at h
  | succ n ih =>
    rw [asN_snoc] at h
    rcases List.mem_append.1 h with h | h
    · have := ih h
      exact ⟨this.1, by omega, this.2.2⟩
    · unfold oneC at h
      cases hf : f (n : Int) with
      | none => rw [hf] at h; simp at h
      | some s => rw [hf] at h; simp at h; subst h; exact ⟨by simp, by simp; omega, hf⟩
/-- What is found can be put right. -/
theorem check_ok {d : Dk} (h : scanE d = 0) (hg : ∀ t ∈ fndL d, goodX t = true) : checkE (newestL (fndL d)) (fndP d) (fndN d) = 0 := by
  obtain ⟨_, ⟨q1, q2⟩, p1, p2⟩ := fnd_facts h
  have h1 : goodM (superMk (fndP d) (fndN d)) = 0 := by
    unfold goodM superMk
    rw [if_neg (by simp), if_neg (by simp; omega), if_neg (by simp), if_neg]
    rintro (h | h | h | h)
    · have := h.1; simp at this
    · have := h.1; simp at this
    · revert h; simp [rises, risesFrom]
    · revert h; simp [rises, risesFrom]
  rw [checkE, h1, if_neg (by simp), if_neg]
  intro hx
  obtain ⟨x, hx1, hx2⟩ := List.any_eq_true.1 hx
  obtain ⟨a, b, c⟩ := asN_mem hx1
  have hf := newestF_good hg x.1 x.2 c
  have hsz : x.2.size = 32 := by have := hf; simp [fitsB] at this; omega
  revert hx2
  simp [noCopyB, withinB, hsz]
  omega

/-- What steps leave as it was. -/
theorem runK_read (n : Nat) (hn : n < 37) : ∀ (l : List St) (d : Dk), goodB d = true → (∀ s ∈ l, s.1 ≠ 2 → s.2.1 ≠ (n : Int)) → readT (runK d l) n = readT d n ∧ goodB (runK d l) = true := by
  intro l
  induction l with
  | nil => intro d hg _; exact ⟨rfl, hg⟩
  | cons s l ih =>
    intro d hg hs
    have key : readT (stepK d s) n = readT d n ∧ goodB (stepK d s) = true := by
      unfold stepK
      by_cases hf : s.1 = 2
      · rw [if_pos hf, flushK, if_pos hg]
        exact ⟨read_flush hg hn, flush_good hg⟩
      · rw [if_neg hf]
        by_cases he : putE d s.2.1 s.2.2 = 0
        · exact ⟨(read_other he n).2 (fun e => hs s (by simp) hf e.symm), good_put he⟩
        · rw [putK_no he]; exact ⟨rfl, hg⟩
    have := ih (stepK d s) key.2 (fun x hx => hs x (by simp [hx]))
    exact ⟨this.1.trans key.1, this.2⟩

end Go.Proofs.YtjnpndfpajjihabGreat

namespace Go.Proofs.YtjnpndfpajjihabGreat
open Go.RowKit

/-- All that a place may be is one text. -/
def Only (d : Dk) (n : Nat) (v : ByteArray) : Prop := ∀ s ∈ ways d n, s = v
theorem ways_safe (l : List ByteArray) (n : Nat) : ways ⟨l, []⟩ n = [l.getD n ByteArray.empty] := rfl
theorem ways_put {d : Dk} {m : Int} {t : ByteArray} (h : putE d m t = 0) (n : Nat) : ways (putK d m t) n = if m = (n : Int) then ways d n ++ [t] else ways d n := by
  rw [putK_ok h, ways, ways]
  show d.safe.getD n ByteArray.empty :: atPlace n (d.wr ++ [(m, t)]) = _
  rw [atPlace_snoc]
  by_cases e : m = (n : Int)
  · rw [if_pos e, if_pos e]; rfl
  · rw [if_neg e, if_neg e]
theorem last_ways {d : Dk} (n : Nat) : lastOf d n ∈ ways d n := by
  have : ∀ (l : List (Int × ByteArray)) (z : ByteArray), lastIn n z l ∈ z :: atPlace n l := by
    intro l
    induction l with
    | nil => intro z; simp [lastIn]
    | cons x l ih =>
      intro z
      rw [lastIn, atPlace]
      by_cases e : x.1 = (n : Int)
      · rw [if_pos e, if_pos e]
        exact List.mem_cons_of_mem _ (ih x.2)
      · rw [if_neg e, if_neg e]
        exact ih z
  have h := this d.wr (d.safe.getD n ByteArray.empty)
  rw [lastOf, Int.toNat_natCast]
  exact h
theorem Only.last {d : Dk} {n : Nat} {v : ByteArray} (h : Only d n v) : lastOf d n = v := h _ (last_ways n)
theorem Only.read {d : Dk} {n : Nat} {v : ByteArray} (h : Only d n v) (hg : goodB d = true) (hn : n < 37) : readT d n = v := by
  rw [readT, hg, place_of hn]
  exact h.last
theorem only_safe {l : List ByteArray} (hg : goodB ⟨l, []⟩ = true) {n : Nat} (hn : n < 37) : Only ⟨l, []⟩ n (readT ⟨l, []⟩ n) := by
  intro s hs
  rw [ways_safe] at hs
  rw [read_safe hg hn]
  simpa using hs
theorem only_flush {d : Dk} (hg : goodB d = true) {n : Nat} (hn : n < 37) : Only (flushK d) n (readT d n) := by
  rw [flushK, if_pos hg, ← read_flush hg hn]
  exact only_safe (flush_good hg) hn
theorem put_succ {d : Dk} {m : Int} {t : ByteArray} (hg : goodB d = true) (hp : placeB m = true) (hf : fitsB t = true) (hl : d.wr.length < 200) : putE d m t = 0 := by
  rw [putE, hg, hp, hf]
  simp
  omega
theorem flush_wr {d : Dk} (hg : goodB d = true) : (flushK d).wr = [] := by rw [flushK, if_pos hg]
theorem flush_gd {d : Dk} (hg : goodB d = true) : goodB (flushK d) = true := by rw [flushK, if_pos hg]; exact flush_good hg

/-- Steps that write fitting blocks to places. -/
def StepOk (s : St) : Prop := s.1 = 2 ∨ (placeB s.2.1 = true ∧ fitsB s.2.2 = true)
theorem step_good {d : Dk} {s : St} (hs : StepOk s) (hg : goodB d = true) (hl : d.wr.length < 200) : goodB (stepK d s) = true ∧ (stepK d s).wr.length ≤ d.wr.length + 1 := by
  unfold stepK
  by_cases h2 : s.1 = 2
  · rw [if_pos h2]
    exact ⟨flush_gd hg, by rw [flush_wr hg]; simp⟩
  · rw [if_neg h2]
    obtain ⟨hp, hf⟩ := hs.resolve_left h2
    have he := put_succ hg hp hf hl
    refine ⟨good_put he, ?_⟩
    rw [putK_ok he]; simp
theorem step_only {d : Dk} {s : St} (hs : StepOk s) (hg : goodB d = true) (hl : d.wr.length < 200) {n : Nat} (hn : n < 37) {v : ByteArray} (hv : Only d n v) (hne : s.1 ≠ 2 → s.2.1 ≠ (n : Int)) : Only (stepK d s) n v := by
  unfold stepK
  by_cases h2 : s.1 = 2
  · rw [if_pos h2]
    have := only_flush hg hn
    rwa [hv.read hg hn] at this
  · rw [if_neg h2]
    obtain ⟨hp, hf⟩ := hs.resolve_left h2
    intro x hx
    rw [ways_put (put_succ hg hp hf hl), if_neg (hne h2)] at hx
    exact hv x hx
theorem run_good : ∀ (l : List St) (d : Dk), (∀ s ∈ l, StepOk s) → goodB d = true → d.wr.length + l.length ≤ 200 → goodB (runK d l) = true ∧ (runK d l).wr.length ≤ d.wr.length + l.length := by
  intro l
  induction l with
  | nil => intro d _ hg _; exact ⟨hg, by simp [runK]⟩
  | cons s l ih =>
    intro d hs hg hl
    simp only [List.length_cons] at hl
    have h1 := step_good (hs s (by simp)) hg (by omega)
    have h2 := ih (stepK d s) (fun x hx => hs x (by simp [hx])) h1.1 (by omega)
    refine ⟨h2.1, ?_⟩
    have := h2.2
    simp only [List.length_cons]
    show (runK (stepK d s) l).wr.length ≤ _
    omega
theorem run_only {n : Nat} (hn : n < 37) {v : ByteArray} : ∀ (l : List St) (d : Dk), (∀ s ∈ l, StepOk s) → goodB d = true → d.wr.length + l.length ≤ 200 → Only d n v → (∀ s ∈ l, s.1 ≠ 2 → s.2.1 ≠ (n : Int)) → Only (runK d l) n v := by
  intro l
  induction l with
  | nil => intro d _ _ _ hv _; exact hv
  | cons s l ih =>
    intro d hs hg hl hv hne
    simp only [List.length_cons] at hl
    have h1 := step_good (hs s (by simp)) hg (by omega)
    exact ih (stepK d s) (fun x hx => hs x (by simp [hx])) h1.1 (by omega) (step_only (hs s (by simp)) hg (by omega) hn hv (hne s (by simp))) (fun x hx => hne x (by simp [hx]))
theorem runK_append (d : Dk) (l r : List St) : runK d (l ++ r) = runK (runK d l) r := List.foldl_append

/-- Copies that can go home: each block once. -/
def Homes (cs : List (Int × ByteArray)) : Prop := (cs.map (·.1)).Nodup ∧ (∀ x ∈ cs, 0 ≤ x.1 ∧ x.1 ≤ 11 ∧ fitsB x.2 = true) ∧ cs.length ≤ 12
theorem homes_steps {cs : List (Int × ByteArray)} (h : ∀ x ∈ cs, 0 ≤ x.1 ∧ x.1 ≤ 11 ∧ fitsB x.2 = true) : (∀ s ∈ homeS cs, StepOk s) ∧ ∀ n : Nat, n < 25 → ∀ s ∈ homeS cs, s.1 ≠ 2 → s.2.1 ≠ (n : Int) := by
  have key : ∀ s ∈ homeS cs, (∃ x ∈ cs, s = writeS (25 + x.1) x.2) ∨ s = flushS := by
    intro s hs
    rw [homeS] at hs
    rcases List.mem_append.1 hs with h2 | h2
    · obtain ⟨x, hx, rfl⟩ := List.mem_map.1 h2
      exact .inl ⟨x, hx, rfl⟩
    · split at h2
      · cases h2
      · exact .inr (List.mem_singleton.1 h2)
  refine ⟨fun s hs => ?_, fun n hn s hs hk => ?_⟩
  · rcases key s hs with ⟨x, hx, rfl⟩ | rfl
    · have := h x hx
      refine .inr ⟨?_, this.2.2⟩
      show placeB (25 + x.1) = true
      simp [placeB]; omega
    · exact .inl rfl
  · rcases key s hs with ⟨x, hx, rfl⟩ | rfl
    · have := h x hx
      show (25 : Int) + x.1 ≠ _
      omega
    · exact absurd rfl hk
/-- Behind all of them, and a flush, each is home. -/
theorem homes_done : ∀ (cs : List (Int × ByteArray)) (d : Dk), Homes cs → goodB d = true → d.wr.length + cs.length ≤ 200 → ∀ x ∈ cs, lastOf (runK d (homeM cs)) (25 + x.1) = x.2 := by
  intro cs
  induction cs with
  | nil => intro d _ _ _ x hx; cases hx
  | cons c cs ih =>
    intro d hH hg hl x hx
    obtain ⟨hnd, hb, hlen⟩ := hH
    have hc := hb c (by simp)
    have hnd2 := List.nodup_cons.1 hnd
    simp only [List.length_cons] at hl hlen
    have hok : StepOk (writeS (25 + c.1) c.2) := .inr ⟨show placeB (25 + c.1) = true by simp [placeB]; omega, hc.2.2⟩
    have h1 := step_good hok hg (by omega)
    have e : homeM (c :: cs) = writeS (25 + c.1) c.2 :: homeM cs := rfl
    rw [e]
    show lastOf (runK (stepK d (writeS (25 + c.1) c.2)) (homeM cs)) (25 + x.1) = x.2
    rcases List.mem_cons.1 hx with rfl | hx2
    · -- nobody behind it writes there
      have hst : stepK d (writeS (25 + x.1) x.2) = putK d (25 + x.1) x.2 := rfl
      have he : putE d (25 + x.1) x.2 = 0 := put_succ hg (by simp [placeB]; omega) hc.2.2 (by omega)
      have key : ∀ (l : List (Int × ByteArray)) (D : Dk), (∀ y ∈ l, 0 ≤ y.1 ∧ y.1 ≤ 11 ∧ fitsB y.2 = true) → (∀ y ∈ l, y.1 ≠ x.1) → goodB D = true → D.wr.length + l.length ≤ 200 → lastOf (runK D (homeM l)) (25 + x.1) = lastOf D (25 + x.1) := by
        intro l
        induction l with
        | nil => intro D _ _ _ _; rfl
        | cons y l ih2 =>
          intro D hb2 hne hgD hlD
          simp only [List.length_cons] at hlD
          have hy := hb2 y (by simp)
          have he2 : putE D (25 + y.1) y.2 = 0 := put_succ hgD (by simp [placeB]; omega) hy.2.2 (by omega)
          have e2 : homeM (y :: l) = writeS (25 + y.1) y.2 :: homeM l := rfl
          rw [e2]
          show lastOf (runK (putK D (25 + y.1) y.2) (homeM l)) (25 + x.1) = _
          have hg2 := good_put he2
          rw [ih2 _ (fun z hz => hb2 z (by simp [hz])) (fun z hz => hne z (by simp [hz])) hg2 (by rw [putK_ok he2]; simp; omega), putK_ok he2, last_put, if_neg]
          have := hne y (by simp)
          omega
      rw [hst, key cs _ (fun y hy => hb y (by simp [hy])) (fun y hy e => hnd2.1 (List.mem_map.2 ⟨y, hy, e⟩)) (good_put he) (by rw [putK_ok he]; simp; omega), putK_ok he, last_put, if_pos rfl]
    · exact ih _ ⟨hnd2.2, fun y hy => hb y (by simp [hy]), by omega⟩ h1.1 (by omega) x hx2

end Go.Proofs.YtjnpndfpajjihabGreat
