/-
  What SealWhole goes by, as plain data: a log that is gone on from its end, old and new blocks mixed. Nothing of the program is proved here.
-/
import Derived.Test.YtjnpndfpajjihabGreatXTwiceQ
import Derived.Test.YtjnpndfpajjihabGreatEPure
namespace Go.Proofs.YtjnpndfpajjihabGreat
open Go.RowKit

/-- All that a place may be. -/
def Among (d : Dk) (n : Nat) (S : ByteArray → Prop) : Prop := ∀ s ∈ ways d n, S s
theorem Among.mono {d : Dk} {n : Nat} {S T : ByteArray → Prop} (h : Among d n S) (hT : ∀ s, S s → T s) : Among d n T := fun s hs => hT s (h s hs)
theorem step_among {d : Dk} {s : St} (hs : StepOk s) (hg : goodB d = true) (hl : d.wr.length < 200) {n : Nat} (hn : n < 37) {S : ByteArray → Prop} (hv : Among d n S) (hne : s.1 ≠ 2 → s.2.1 = (n : Int) → S s.2.2) : Among (stepK d s) n S := by
  unfold stepK
  by_cases h2 : s.1 = 2
  · rw [if_pos h2]
    intro x hx
    rw [only_flush hg hn x hx, readT, hg, place_of hn]
    exact hv _ (last_ways n)
  · rw [if_neg h2]
    obtain ⟨hp, hf⟩ := hs.resolve_left h2
    intro x hx
    rw [ways_put (put_succ hg hp hf hl)] at hx
    split at hx
    · rename_i e
      rcases List.mem_append.1 hx with h | h
      · exact hv x h
      · rw [List.mem_singleton.1 h]; exact hne h2 e
    · exact hv x hx
theorem run_among {n : Nat} (hn : n < 37) {S : ByteArray → Prop} : ∀ (l : List St) (d : Dk), (∀ s ∈ l, StepOk s) → goodB d = true → d.wr.length + l.length ≤ 200 → Among d n S → (∀ s ∈ l, s.1 ≠ 2 → s.2.1 = (n : Int) → S s.2.2) → Among (runK d l) n S := by
  intro l
  induction l with
  | nil => intro d _ _ _ hv _; exact hv
  | cons s l ih =>
    intro d hs hg hl hv hne
    simp only [List.length_cons] at hl
    have h1 := step_good (hs s (by simp)) hg (by omega)
    exact ih (stepK d s) (fun x hx => hs x (by simp [hx])) h1.1 (by omega) (step_among (hs s (by simp)) hg (by omega) hn hv (hne s (by simp))) (fun x hx => hne x (by simp [hx]))

/-! ### Logs that are alike up to a place -/
theorem copiesAt_congr {log log' : List ByteArray} (l : List (Int × Bool)) : ∀ (i : Nat), (∀ j, i ≤ j → j < i + l.length → log.getD j ByteArray.empty = log'.getD j ByteArray.empty) → copiesAt log i l = copiesAt log' i l := by
  induction l with
  | nil => intro i _; rfl
  | cons x r ih =>
    intro i h
    rw [copiesAt, copiesAt, h i (Nat.le_refl _) (by simp), ih (i + 1) (fun j h1 h2 => h j (by omega) (by simp only [List.length_cons]; omega))]
theorem runT_congr {log log' : List ByteArray} (hl : log.length = log'.length) {m : Nat} (hm : ∀ i, i < m → log.getD i ByteArray.empty = log'.getD i ByteArray.empty) (seq : Int) : ∀ (f i : Nat) (t : Tx) (n : Nat) (u : Tx), log.length - i ≤ f → runT log seq i t = some (n, u) → n ≤ m → runT log' seq i t = some (n, u) := by
  intro f
  induction f with
  | zero => intro i t n u hf h _; rw [runT, dif_neg (by omega)] at h; cases h
  | succ f ih =>
    intro i t n u hf h hn
    have hb := runT_bound log seq _ i t n u (Nat.le_refl _) h
    have e := hm i (by omega)
    rw [runT] at h ⊢
    split at h
    · rename_i h1
      rw [dif_pos (by omega), ← e]
      split at h
      · cases h
      · rename_i h2
        rw [if_neg h2]
        split at h
        · rename_i h3
          rw [if_pos h3]; exact h
        · rename_i h3
          rw [if_neg h3]
          split at h
          · rename_i h4
            rw [if_pos (by omega)]
            have hb2 := runT_bound log seq _ _ _ n u (Nat.le_refl _) h
            have hc := copiesAt_congr (log := log) (log' := log') (stampDec (log.getD i ByteArray.empty)).1.tags (i + 1) (fun j _ h6 => hm j (by omega))
            have := ih _ _ n u (by omega) h hn
            unfold more at this ⊢
            rw [hc] at this
            exact this
          · cases h
    · cases h
theorem scanP_ge (log : List ByteArray) : ∀ (f pos : Nat) (seq : Int) (acc : List Tx), log.length - pos ≤ f → pos ≤ (scanP log pos seq acc).2 ∧ acc.length ≤ (scanP log pos seq acc).1.length := by
  intro f
  induction f with
  | zero =>
    intro pos seq acc hf
    rw [scanP]
    split
    · rw [runT, dif_neg (by omega)]; exact ⟨Nat.le_refl _, Nat.le_refl _⟩
    · exact ⟨Nat.le_refl _, Nat.le_refl _⟩
  | succ f ih =>
    intro pos seq acc hf
    rw [scanP]
    split
    · split
      · exact ⟨Nat.le_refl _, Nat.le_refl _⟩
      · rename_i n t hr
        have hb := runT_bound log seq _ pos _ n t (Nat.le_refl _) hr
        have := ih n (seq + 1) (acc ++ [t]) (by omega)
        rw [List.length_append, List.length_singleton] at this
        omega
    · exact ⟨Nat.le_refl _, Nat.le_refl _⟩
/-- What a log tells up to a place, another one that is alike up to it tells too, and goes on from there. -/
theorem scanP_split {log log' : List ByteArray} (hl : log.length = log'.length) : ∀ (f pos : Nat) (seq : Int) (acc : List Tx), log.length - pos ≤ f → (∀ i, i < (scanP log pos seq acc).2 → log.getD i ByteArray.empty = log'.getD i ByteArray.empty) →
    scanP log' pos seq acc = scanP log' (scanP log pos seq acc).2 (seq + ((scanP log pos seq acc).1.length : Int) - (acc.length : Int)) (scanP log pos seq acc).1 := by
  intro f
  induction f with
  | zero =>
    intro pos seq acc hf _
    have e : scanP log pos seq acc = (acc, pos) := by
      rw [scanP]
      split
      · rw [runT, dif_neg (by omega)]
      · rfl
    rw [e]
    show scanP log' pos seq acc = scanP log' pos (seq + (acc.length : Int) - (acc.length : Int)) acc
    rw [show seq + (acc.length : Int) - (acc.length : Int) = seq by omega]
  | succ f ih =>
    intro pos seq acc hf hm
    by_cases hq : seq < 2147483647
    · cases hr : runT log seq pos (txOf seq) with
      | none =>
        have e : scanP log pos seq acc = (acc, pos) := by rw [scanP, dif_pos hq, hr]
        rw [e]
        show scanP log' pos seq acc = scanP log' pos (seq + (acc.length : Int) - (acc.length : Int)) acc
        rw [show seq + (acc.length : Int) - (acc.length : Int) = seq by omega]
      | some x =>
        obtain ⟨n, t⟩ := x
        have e : scanP log pos seq acc = scanP log n (seq + 1) (acc ++ [t]) := by rw [scanP, dif_pos hq, hr]
        rw [e] at hm ⊢
        have hb := runT_bound log seq _ pos _ n t (Nat.le_refl _) hr
        have hge := scanP_ge log _ n (seq + 1) (acc ++ [t]) (Nat.le_refl _)
        have hr' := runT_congr hl hm seq _ pos _ n t (Nat.le_refl _) hr hge.1
        have e' : scanP log' pos seq acc = scanP log' n (seq + 1) (acc ++ [t]) := by rw [scanP, dif_pos hq, hr']
        rw [e', ih n (seq + 1) (acc ++ [t]) (by omega) hm]
        congr 1
        rw [List.length_append, List.length_singleton]
        push_cast
        omega
    · have e : scanP log pos seq acc = (acc, pos) := by rw [scanP, dif_neg hq]
      rw [e]
      show scanP log' pos seq acc = scanP log' pos (seq + (acc.length : Int) - (acc.length : Int)) acc
      rw [show seq + (acc.length : Int) - (acc.length : Int) = seq by omega]

/-! ### A transaction in the log, block by block -/
theorem getD_appL {l r : List ByteArray} {j : Nat} (h : j < l.length) : (l ++ r).getD j ByteArray.empty = l.getD j ByteArray.empty := by
  rw [List.getD, List.getD, List.getElem?_append_left h]
theorem getD_appR {l r : List ByteArray} (j : Nat) : (l ++ r).getD (l.length + j) ByteArray.empty = r.getD j ByteArray.empty := by
  rw [List.getD, List.getD, List.getElem?_append_right (by omega), show l.length + j - l.length = j by omega]
/-- A mark and the copies behind it. -/
def segB (l : List (Mk × List ByteArray)) : List ByteArray := l.flatMap fun x => encT x.1 :: x.2
def SegOk (N : Int) (x : Mk × List ByteArray) : Prop := goodM x.1 = 0 ∧ x.1.seq = N ∧ x.1.kind ≠ 1 ∧ x.1.kind ≠ 4 ∧ x.2.length = x.1.tags.length
/-- A block that is no mark of a number, nor of a later one. -/
def Old (N : Int) (s : ByteArray) : Prop := (stampDec s).2 = 0 → (stampDec s).1.seq < N
theorem runT_oldHead {log : List ByteArray} {N M : Int} {i : Nat} {t : Tx} (h : Old N (log.getD i ByteArray.empty)) (hM : N ≤ M) : runT log M i t = none := by
  rw [runT]
  split
  · rw [if_pos]
    by_cases hx : (stampDec (log.getD i ByteArray.empty)).2 = 0
    · have := h hx
      exact .inr (.inl (by omega))
    · exact .inl hx
  · rfl
theorem segB_cons (x : Mk × List ByteArray) (l : List (Mk × List ByteArray)) : segB (x :: l) = encT x.1 :: (x.2 ++ segB l) := by simp [segB]
theorem runT_old {N : Int} : ∀ (l : List (Mk × List ByteArray)) (log : List ByteArray) (i : Nat) (t : Tx), (∀ x ∈ l, SegOk N x) → i + (segB l).length + 1 ≤ log.length →
    (∀ j, j < (segB l).length → log.getD (i + j) ByteArray.empty = (segB l).getD j ByteArray.empty ∨ Old N (log.getD (i + j) ByteArray.empty)) → Old N (log.getD (i + (segB l).length) ByteArray.empty) → runT log N i t = none := by
  intro l
  induction l with
  | nil => intro log i t _ _ _ h; exact runT_oldHead h (Int.le_refl _)
  | cons x l ih =>
    intro log i t hok hlen hmix hend
    rw [segB_cons] at hlen hmix hend
    simp only [List.length_cons, List.length_append] at hlen hend
    obtain ⟨hg, hq, hk1, hk4, hl⟩ := hok x (by simp)
    rcases hmix 0 (by simp) with h0 | h0
    · have e : log.getD i ByteArray.empty = encT x.1 := by simpa using h0
      rw [runT, dif_pos (by omega), e, dec_enc hg]
      dsimp only
      rw [if_neg (by simp; exact ⟨hq, hk1⟩), if_neg hk4, if_pos (by omega)]
      refine ih log _ _ (fun y hy => hok y (by simp [hy])) (by omega) (fun j hj => ?_) ?_
      · have := hmix (1 + x.2.length + j) (by simp; omega)
        rw [show 1 + x.2.length + j = (x.2.length + j) + 1 by omega, List.getD_cons_succ, getD_appR] at this
        rw [show i + 1 + x.1.tags.length + j = i + (x.2.length + j + 1) by omega]
        exact this
      · rw [show i + 1 + x.1.tags.length + (segB l).length = i + (x.2.length + (segB l).length + 1) by omega]
        exact hend
    · exact runT_oldHead (by simpa using h0) (Int.le_refl _)
/-- The copies that stand behind a descriptor. -/
def pairC : List (Int × Bool) → List ByteArray → List (Int × ByteArray)
  | x :: r, s :: l => (x.1, unescT s x.2) :: pairC r l
  | _, _ => []
theorem copiesAt_pair {log : List ByteArray} : ∀ (g : List (Int × Bool)) (l : List ByteArray) (i : Nat), l.length = g.length → (∀ j, j < l.length → log.getD (i + j) ByteArray.empty = l.getD j ByteArray.empty) → copiesAt log i g = pairC g l := by
  intro g
  induction g with
  | nil => intro l i _ _; cases l <;> rfl
  | cons x r ih =>
    intro l i hl h
    cases l with
    | nil => simp at hl
    | cons s l =>
      rw [copiesAt, pairC]
      have h0 := h 0 (by simp)
      simp only [Nat.add_zero, List.getD_cons_zero] at h0
      rw [h0, ih l (i + 1) (by simpa using hl) (fun j hj => by
        have := h (j + 1) (by simp; omega)
        rw [List.getD_cons_succ] at this
        rw [show i + 1 + j = i + (j + 1) by omega]; exact this)]
/-- A transaction behind marks and their copies. -/
def addS (t : Tx) (l : List (Mk × List ByteArray)) : Tx := { t with rev := t.rev ++ l.flatMap (·.1.blocks), info := t.info ++ l.flatMap (fun x => pairC x.1.tags x.2) }
theorem runT_new {N : Int} {cm : Mk} (hcm : goodM cm = 0) (hcq : cm.seq = N) (hck : cm.kind = 4) : ∀ (l : List (Mk × List ByteArray)) (log : List ByteArray) (i : Nat) (t : Tx), (∀ x ∈ l, SegOk N x) → i + (segB l).length + 1 ≤ log.length →
    (∀ j, j < (segB l).length → log.getD (i + j) ByteArray.empty = (segB l).getD j ByteArray.empty) → log.getD (i + (segB l).length) ByteArray.empty = encT cm → runT log N i t = some (i + (segB l).length + 1, addS t l) := by
  intro l
  induction l with
  | nil =>
    intro log i t _ hlen _ h
    have e : log.getD i ByteArray.empty = encT cm := h
    rw [runT, dif_pos (by simp [segB] at hlen; omega), e, dec_enc hcm, if_neg (by simp [hcq, hck]), if_pos hck]
    simp [segB, addS]
  | cons x l ih =>
    intro log i t hok hlen hall hend
    rw [segB_cons] at hlen hall hend ⊢
    simp only [List.length_cons, List.length_append] at hlen hend
    obtain ⟨hg, hq, hk1, hk4, hl⟩ := hok x (by simp)
    have e : log.getD i ByteArray.empty = encT x.1 := by simpa using hall 0 (by simp)
    rw [runT, dif_pos (by omega), e, dec_enc hg]
    dsimp only
    rw [if_neg (by simp; exact ⟨hq, hk1⟩), if_neg hk4, if_pos (by omega)]
    have hc : copiesAt log (i + 1) x.1.tags = pairC x.1.tags x.2 := copiesAt_pair _ _ _ hl (fun j hj => by
      have := hall (j + 1) (by simp; omega)
      rw [List.getD_cons_succ, getD_appL hj] at this
      rw [show i + 1 + j = i + (j + 1) by omega]; exact this)
    have h1 : ∀ j, j < (segB l).length → log.getD (i + 1 + x.1.tags.length + j) ByteArray.empty = (segB l).getD j ByteArray.empty := by
      intro j hj
      have := hall (1 + x.2.length + j) (by simp; omega)
      rw [show 1 + x.2.length + j = (x.2.length + j) + 1 by omega, List.getD_cons_succ, getD_appR] at this
      rw [show i + 1 + x.1.tags.length + j = i + (x.2.length + j + 1) by omega]
      exact this
    have h2 : log.getD (i + 1 + x.1.tags.length + (segB l).length) ByteArray.empty = encT cm := by
      rw [show i + 1 + x.1.tags.length + (segB l).length = i + (x.2.length + (segB l).length + 1) by omega]
      exact hend
    rw [ih log _ _ (fun y hy => hok y (by simp [hy])) (by omega) h1 h2]
    simp only [List.length_cons, List.length_append, Option.some.injEq, Prod.mk.injEq]
    refine ⟨by omega, ?_⟩
    simp [addS, more, hc]

/-! ### The blocks of a good transaction -/
def segsOf (t : Tx) : List (Mk × List ByteArray) := (if t.rev.length = 0 then [] else [(⟨3, t.seq, 0, [], t.rev⟩, [])]) ++ (List.range (partN t.info.length 10)).map fun k => (⟨2, t.seq, 0, tagsOf (partOf t.info k), []⟩, textsOf (partOf t.info k))
theorem segs_log (t : Tx) : segB (segsOf t) = logB t := by
  unfold segB segsOf logB revB metaB
  rw [List.flatMap_append, List.flatMap_map]
  congr 1
  split <;> simp
theorem rises_part {l : List (Int × ByteArray)} (h : rises (blksOf l) = true) (k : Nat) : rises ((tagsOf (partOf l k)).map (·.1)) = true := by
  have e : (tagsOf (partOf l k)).map (·.1) = blksOf (partOf l k) := by simp [tagsOf, blksOf]
  rw [e]
  rw [rises_iff] at h ⊢
  have hs : (blksOf (partOf l k)).Sublist (blksOf l) := by
    unfold blksOf partOf
    exact ((List.take_sublist _ _).trans (List.drop_sublist _ _)).map _
  exact ⟨fun x hx => h.1 x (hs.subset hx), h.2.sublist hs⟩
theorem segs_ok {t : Tx} (hg : goodX t = true) : ∀ x ∈ segsOf t, SegOk t.seq x := by
  obtain ⟨⟨q1, q2⟩, _, ⟨r1, _, r3⟩, _⟩ := (goodX_iff t).1 hg
  have hs := good_small hg
  intro x hx
  unfold segsOf at hx
  rcases List.mem_append.1 hx with h | h
  · split at h
    · cases h
    · rename_i h0
      rw [List.mem_singleton.1 h]
      refine ⟨?_, rfl, by simp, by simp, rfl⟩
      unfold goodM
      rw [if_neg (by simp), if_neg (by simp; omega), if_neg (by simp), if_neg]
      rintro (⟨h2, _⟩ | ⟨_, h2⟩ | h2 | h2)
      · simp at h2
      · simp only at h2; omega
      · simp [rises, risesFrom] at h2
      · simp only [r3] at h2; cases h2
  · obtain ⟨k, hk, rfl⟩ := List.mem_map.1 h
    have hk' := List.mem_range.1 hk
    have hpl := partOf_length t.info k
    have hlen : 1 ≤ (partOf t.info k).length ∧ (partOf t.info k).length ≤ 10 := by
      rw [hpl]
      unfold partN at hk'
      unfold partL
      split <;> omega
    refine ⟨?_, rfl, by simp, by simp, by simp [tagsOf, textsOf]⟩
    unfold goodM
    rw [if_neg (by simp), if_neg (by simp; omega), if_neg (by simp), if_neg]
    rintro (⟨_, h2⟩ | ⟨h2, _⟩ | h2 | h2)
    · simp only [tagsOf, List.length_map] at h2; omega
    · simp at h2
    · simp only [rises_part r1 k] at h2; cases h2
    · simp [rises, risesFrom] at h2
theorem pair_back (l : List (Int × ByteArray)) : pairC (tagsOf l) (textsOf l) = l := by
  induction l with
  | nil => rfl
  | cons x r ih =>
    show (x.1, unescT (escT x.2) (isMagic x.2)) :: pairC (tagsOf r) (textsOf r) = x :: r
    rw [ih, unesc_esc]
theorem parts_whole {l : List (Int × ByteArray)} (h : l.length ≤ 12) : (List.range (partN l.length 10)).flatMap (partOf l) = l := by
  by_cases h0 : l.length = 0
  · rw [List.eq_nil_of_length_eq_zero h0]; rfl
  · by_cases h1 : l.length ≤ 10
    · have e : partN l.length 10 = 1 := by unfold partN; omega
      rw [e]
      simp [partOf, List.range_succ]
      exact List.take_of_length_le h1
    · have e : partN l.length 10 = 2 := by unfold partN; omega
      rw [e]
      have e2 : (l.drop 10).take 10 = l.drop 10 := List.take_of_length_le (by rw [List.length_drop]; omega)
      simp [partOf, List.range_succ, e2]
/-- What a log tells of a transaction. -/
def toldOf (t : Tx) : Tx := ⟨t.seq, t.info, [], t.rev, ⟨false, 0⟩, ⟨false, 0⟩, ⟨false, 0⟩⟩
theorem segs_told {t : Tx} (hg : goodX t = true) : addS (txOf t.seq) (segsOf t) = toldOf t := by
  have hs := good_small hg
  have e1 : (segsOf t).flatMap (·.1.blocks) = t.rev := by
    unfold segsOf
    rw [List.flatMap_append, List.flatMap_map]
    split
    · rename_i h; simp [List.eq_nil_of_length_eq_zero h]
    · simp
  have e2 : (segsOf t).flatMap (fun x => pairC x.1.tags x.2) = t.info := by
    unfold segsOf
    rw [List.flatMap_append, List.flatMap_map]
    have : ((List.range (partN t.info.length 10)).flatMap fun k => pairC (tagsOf (partOf t.info k)) (textsOf (partOf t.info k))) = t.info := by
      rw [show (fun k => pairC (tagsOf (partOf t.info k)) (textsOf (partOf t.info k))) = partOf t.info from funext fun k => pair_back _]
      exact parts_whole hs.1
    split
    · simpa using this
    · simpa [pairC] using this
  unfold addS toldOf txOf
  rw [e1, e2]
  simp
theorem last_good {t : Tx} (hg : goodX t = true) : goodM ⟨4, t.seq, 0, [], []⟩ = 0 := by
  obtain ⟨⟨q1, q2⟩, _⟩ := (goodX_iff t).1 hg
  unfold goodM
  rw [if_neg (by simp), if_neg (by simp; omega), if_neg (by simp), if_neg]
  simp [rises, risesFrom]

end Go.Proofs.YtjnpndfpajjihabGreat
