/-
  The newest copies of blocks in transactions, as plain data: gone through from the end, and forward as the document has them. Nothing of the program is proved here.
-/
import Derived.Test.YtjnpndfpajjihabGreatTPure
namespace Go.Proofs.YtjnpndfpajjihabGreat
open Go.RowKit

/-- Copies by number, up to one. -/
def oneC (f : Int → Option ByteArray) (j : Nat) : List (Int × ByteArray) := ((f (j : Int)).map fun s => ((j : Int), s)).toList
def asN (f : Int → Option ByteArray) (n : Nat) : List (Int × ByteArray) := (List.range n).flatMap (oneC f)
theorem asN_snoc (f : Int → Option ByteArray) (n : Nat) : asN f (n + 1) = asN f n ++ oneC f n := by
  rw [asN, List.range_succ, List.flatMap_append]; simp [asN]
theorem oneC_length (f : Int → Option ByteArray) (j : Nat) : (oneC f j).length ≤ 1 := by
  unfold oneC; cases f j <;> simp
theorem asN_length (f : Int → Option ByteArray) (n : Nat) : (asN f n).length ≤ n := by
  induction n with
  | zero => exact Nat.le_refl _
  | succ n ih => rw [asN_snoc, List.length_append]; have := oneC_length f n; omega
theorem asN_congr {f g : Int → Option ByteArray} {n : Nat} (h : ∀ j : Nat, j < n → f j = g j) : asN f n = asN g n := by
  induction n with
  | zero => rfl
  | succ n ih => rw [asN_snoc, asN_snoc, ih fun j hj => h j (by omega), oneC, oneC, h n (by omega)]
theorem textIn_append (b : Int) (l r : List (Int × ByteArray)) : textIn b (l ++ r) = if (textIn b l).isSome = true then textIn b l else textIn b r := by
  induction l with
  | nil => rfl
  | cons x l ih =>
    rw [List.cons_append, textIn, textIn]
    by_cases e : x.1 = b
    · simp [e]
    · rw [if_neg e, if_neg e, ih]
theorem textIn_asN (f : Int → Option ByteArray) (n : Nat) (b : Int) : textIn b (asN f n) = if 0 ≤ b ∧ b < n then f b else none := by
  induction n with
  | zero => rw [if_neg (by omega)]; rfl
  | succ n ih =>
    rw [asN_snoc, textIn_append, ih]
    by_cases h : 0 ≤ b ∧ b < n
    · rw [if_pos h, if_pos (⟨h.1, by omega⟩ : 0 ≤ b ∧ b < (n + 1 : Nat))]
      have e : textIn b (oneC f n) = none := by
        unfold oneC
        cases f n with
        | none => rfl
        | some s => simp only [Option.map_some, Option.toList_some, textIn]; rw [if_neg (by omega)]
      rw [e]
      cases f b <;> rfl
    · rw [if_neg h]
      by_cases h2 : b = n
      · subst h2
        rw [if_pos (⟨by omega, by omega⟩ : (0 : Int) ≤ (n : Int) ∧ (n : Int) < (n + 1 : Nat))]
        unfold oneC
        cases f n with
        | none => rfl
        | some s => simp [textIn]
      · rw [if_neg (show ¬ (0 ≤ b ∧ b < ((n + 1 : Nat) : Int)) by omega)]
        unfold oneC
        cases f n with
        | none => rfl
        | some s =>
          have h3 : ¬ (n : Int) = b := fun e => h2 e.symm
          simp [textIn, h3]
theorem asN_filter (f : Int → Option ByteArray) (b : Int) (n : Nat) : (asN f n).filter (fun y => decide (y.1 ≠ b)) = asN (fun j => if j = b then none else f j) n := by
  induction n with
  | zero => rfl
  | succ n ih =>
    rw [asN_snoc, asN_snoc, List.filter_append, ih]
    congr 1
    unfold oneC
    by_cases e : (n : Int) = b
    · cases f n <;> simp [e]
    · have e2 : (fun j => if j = b then none else f j) (n : Int) = f n := by simp [e]
      rw [e2]
      cases f n <;> simp [e]
theorem asN_docW (f : Int → Option ByteArray) (b : Int) (s : ByteArray) : (List.range 12).flatMap (docW (asN f 12) b s) = asN (fun j => if j = b then some s else f j) 12 := by
  have key : ∀ j ∈ List.range 12, docW (asN f 12) b s j = oneC (fun j => if j = b then some s else f j) j := ?_
  · show _ = (List.range 12).flatMap _
    rw [List.flatMap_def, List.flatMap_def, List.map_congr_left key]
  intro j hj
  have hj := List.mem_range.1 hj
  have e1 : textIn (j : Int) (asN f 12) = f j := by rw [textIn_asN, if_pos (⟨by omega, by omega⟩ : (0 : Int) ≤ (j : Int) ∧ (j : Int) < (12 : Nat))]
  unfold docW oneC
  rw [e1]
  by_cases e : (j : Int) = b
  · simp [e]
  · simp [e]

/-- The newest copy of a block behind one more transaction, and behind all. -/
def nwStep (b : Int) (o : Option ByteArray) (t : Tx) : Option ByteArray := if (textIn b t.info).isSome = true then textIn b t.info else if amongB t.rev b = true then none else o
def newestF (l : List Tx) (b : Int) : Option ByteArray := l.foldl (nwStep b) none
theorem newestF_snoc (l : List Tx) (t : Tx) (b : Int) : newestF (l ++ [t]) b = nwStep b (newestF l b) t := by
  unfold newestF; rw [List.foldl_append]; rfl
theorem newestF_take {l : List Tx} {k : Nat} {t : Tx} (h : l[k]? = some t) (b : Int) : newestF (l.take (k + 1)) b = nwStep b (newestF (l.take k) b) t := by
  rw [List.take_add_one, h]; exact newestF_snoc _ _ _
def newestL (l : List Tx) : List (Int × ByteArray) := asN (newestF l) 12

/-- The same, forward, as the document has it: what is revoked taken away, what is copied put there. -/
def dropF (r : List Int) (f : Int → Option ByteArray) : Int → Option ByteArray := fun j => if amongB r j = true then none else f j
def putF (r : List Int) (f : Int → Option ByteArray) (c : Int × ByteArray) : Int → Option ByteArray := if withinB c.1 0 11 = true ∧ amongB r c.1 = false then (fun j => if j = c.1 then some c.2 else f j) else f
def docStep (f : Int → Option ByteArray) (t : Tx) : Int → Option ByteArray := t.info.foldl (putF t.rev) (dropF t.rev f)
def docF (l : List Tx) : Int → Option ByteArray := l.foldl docStep (fun _ => none)
theorem docF_take {l : List Tx} {k : Nat} {t : Tx} (h : l[k]? = some t) : docF (l.take (k + 1)) = docStep (docF (l.take k)) t := by
  rw [List.take_add_one, h, docF, List.foldl_append]; rfl
theorem dropF_nil (f : Int → Option ByteArray) : dropF [] f = f := rfl
theorem dropF_take {r : List Int} {k : Nat} {b : Int} (h : r[k]? = some b) (f : Int → Option ByteArray) : dropF (r.take (k + 1)) f = fun j => if j = b then none else dropF (r.take k) f j := by
  funext j
  unfold dropF
  rw [List.take_add_one, h, amongB, amongB, List.any_append]
  by_cases e : j = b
  · simp [e]
  · have : ¬ b = j := fun x => e x.symm
    simp [e, this]
theorem putF_take {l : List (Int × ByteArray)} {k : Nat} {c : Int × ByteArray} (h : l[k]? = some c) (r : List Int) (f : Int → Option ByteArray) : (l.take (k + 1)).foldl (putF r) f = putF r ((l.take k).foldl (putF r) f) c := by
  rw [List.take_add_one, h, List.foldl_append]; rfl
theorem put_all (r : List Int) (l : List (Int × ByteArray)) (hu : (blksOf l).Nodup) (hb : ∀ x ∈ l, withinB x.1 0 11 = true ∧ amongB r x.1 = false) (f : Int → Option ByteArray) (j : Int) :
    l.foldl (putF r) f j = if (textIn j l).isSome = true then textIn j l else f j := by
  induction l generalizing f with
  | nil => rfl
  | cons c l ih =>
    have hc := hb c (by simp)
    have hu2 : c.1 ∉ blksOf l ∧ (blksOf l).Nodup := List.nodup_cons.1 hu
    rw [List.foldl_cons, ih hu2.2 (fun x hx => hb x (by simp [hx])), textIn]
    have e1 : putF r f c = fun j => if j = c.1 then some c.2 else f j := by rw [putF, if_pos hc]
    by_cases e : c.1 = j
    · have e2 : textIn j l = none := by
        have : j ∉ blksOf l := by rw [← e]; exact hu2.1
        clear ih hu hb hu2
        induction l with
        | nil => rfl
        | cons y l ih2 =>
          rw [textIn, if_neg (fun h => this (by rw [← h]; simp [blksOf]))]
          exact ih2 fun h => this (by simp only [blksOf, List.map_cons, List.mem_cons] at h ⊢; exact .inr h)
      rw [e2, e1, if_pos e]
      simp [e]
    · rw [if_neg e, e1]
      by_cases h : (textIn j l).isSome = true
      · rw [if_pos h, if_pos h]
      · rw [if_neg h, if_neg h]
        exact if_neg fun x : j = c.1 => e x.symm
theorem docStep_good {t : Tx} (h : goodX t = true) (f : Int → Option ByteArray) (j : Int) : docStep f t j = nwStep j (f j) t := by
  obtain ⟨_, _, ⟨h1, _, _⟩, h2, _⟩ := (goodX_iff t).1 h
  have h3 := (rises_iff _).1 h1
  unfold allOf at h2
  rw [List.nodup_append] at h2
  have hb : ∀ x ∈ t.info, withinB x.1 0 11 = true ∧ amongB t.rev x.1 = false := by
    intro x hx
    have hm : x.1 ∈ blksOf t.info := List.mem_map.2 ⟨x, hx, rfl⟩
    have hw := h3.1 x.1 hm
    refine ⟨by simp [withinB, hw], ?_⟩
    rw [amongB, List.any_eq_false]
    intro y hy
    have := h2.2.2 x.1 hm y (by simp [hy])
    simpa using fun e : y = x.1 => this e.symm
  unfold docStep
  rw [put_all t.rev t.info h2.1 hb]
  rfl
theorem docF_good {l : List Tx} (h : ∀ t ∈ l, goodX t = true) (j : Int) : docF l j = newestF l j := by
  have key : ∀ (l : List Tx) (f : Int → Option ByteArray) (o : Option ByteArray), (∀ t ∈ l, goodX t = true) → f j = o → l.foldl docStep f j = l.foldl (nwStep j) o := by
    intro l
    induction l with
    | nil => intro f o _ e; exact e
    | cons t l ih =>
      intro f o hg e
      rw [List.foldl_cons, List.foldl_cons]
      exact ih _ _ (fun x hx => hg x (by simp [hx])) (by rw [docStep_good (hg t (by simp)), e])
  exact key l _ _ h rfl
theorem newest_doc {l : List Tx} (h : ∀ t ∈ l, goodX t = true) : newestL l = asN (docF l) 12 := asN_congr fun j _ => (docF_good h j).symm

end Go.Proofs.YtjnpndfpajjihabGreat
