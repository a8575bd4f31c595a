/-
  The newest copies of blocks in transactions, as plain data: gone through from the end, and forward as the document has them. Nothing of the program is proved here.
  The walks of package seal's newest and Newest.
  The walk of the statement SealNewest: it says true at every list of transactions and every block.
-/
import Derived.Test.YtjnpndfpajjihabTPure
import Derived.Test.YtjnpndfpajjihabXRows
import Derived.Test.YtjnpndfpajjihabTFind
import Derived.Test.YtjnpndfpajjihabTConcatC
import Derived.Test.YtjnpndfpajjihabTGood
import Derived.Test.YtjnpndfpajjihabECommitAll
namespace Go.Proofs.Ytjnpndfpajjihab
open Go.RowKit

/-- Copies by number, up to one. -/
def oneC (f : Int → Option ByteArray) (j : Nat) : List (Int × ByteArray) := ((f (j : Int)).map fun s => ((j : Int), s)).toList
def asN (f : Int → Option ByteArray) (n : Nat) : List (Int × ByteArray) := (List.range n).flatMap (oneC f)
theorem asN_snoc (f : Int → Option ByteArray) (n : Nat) : asN f (n + 1) = asN f n ++ oneC f n := by
  rw [asN, List.range_succ, List.flatMap_append]; simp [asN]
theorem oneC_length (f : Int → Option ByteArray) (j : Nat) : (oneC f j).length ≤ 1 := by
  unfold oneC; cases f j <;> simp
theorem asN_length (f : Int → Option ByteArray) (n : Nat) : (asN f n).length ≤ n := by
  induction n with
  | zero => exact Nat.le_refl _
  | succ n ih => rw [asN_snoc, List.length_append]; have := oneC_length f n; omega
theorem asN_congr {f g : Int → Option ByteArray} {n : Nat} (h : ∀ j : Nat, j < n → f j = g j) : asN f n = asN g n := by
  induction n with
  | zero => rfl
  | succ n ih => rw [asN_snoc, asN_snoc, ih fun j hj => h j (by omega), oneC, oneC, h n (by omega)]
theorem textIn_append (b : Int) (l r : List (Int × ByteArray)) : textIn b (l ++ r) = if (textIn b l).isSome = true then textIn b l else textIn b r := by
  induction l with
  | nil => rfl
  | cons x l ih =>
    rw [List.cons_append, textIn, textIn]
    by_cases e : x.1 = b
    · simp [e]
    · rw [if_neg e, if_neg e, ih]
theorem textIn_asN (f : Int → Option ByteArray) (n : Nat) (b : Int) : textIn b (asN f n) = if 0 ≤ b ∧ b < n then f b else none := by
  induction n with
  | zero => rw [if_neg (by omega)]; rfl
  | succ n ih =>
    rw [asN_snoc, textIn_append, ih]
    by_cases h : 0 ≤ b ∧ b < n
    · rw [if_pos h, if_pos (⟨h.1, by omega⟩ : 0 ≤ b ∧ b < (n + 1 : Nat))]
      have e : textIn b (oneC f n) = none := by
        unfold oneC
        cases f n with
        | none => rfl
        | some s => simp only [Option.map_some, Option.toList_some, textIn]; rw [if_neg (by omega)]
      rw [e]
      cases f b <;> rfl
    · rw [if_neg h]
      by_cases h2 : b = n
      · subst h2
        rw [if_pos (⟨by omega, by omega⟩ : (0 : Int) ≤ (n : Int) ∧ (n : Int) < (n + 1 : Nat))]
        unfold oneC
        cases f n with
        | none => rfl
        | some s => simp [textIn]
      · rw [if_neg (show ¬ (0 ≤ b ∧ b < ((n + 1 : Nat) : Int)) by omega)]
        unfold oneC
        cases f n with
        | none => rfl
        | some s =>
          have h3 : ¬ (n : Int) = b := fun e => h2 e.symm
          simp [textIn, h3]
theorem asN_filter (f : Int → Option ByteArray) (b : Int) (n : Nat) : (asN f n).filter (fun y => decide (y.1 ≠ b)) = asN (fun j => if j = b then none else f j) n := by
  induction n with
  | zero => rfl
  | succ n ih =>
    rw [asN_snoc, asN_snoc, List.filter_append, ih]
    congr 1
    unfold oneC
    by_cases e : (n : Int) = b
    · cases f n <;> simp [e]
    · have e2 : (fun j => if j = b then none else f j) (n : Int) = f n := by simp [e]
      rw [e2]
      cases f n <;> simp [e]
theorem asN_docW (f : Int → Option ByteArray) (b : Int) (s : ByteArray) : (List.range 12).flatMap (docW (asN f 12) b s) = asN (fun j => if j = b then some s else f j) 12 := by
  have key : ∀ j ∈ List.range 12, docW (asN f 12) b s j = oneC (fun j => if j = b then some s else f j) j := ?_
  · show _ = (List.range 12).flatMap _
    rw [List.flatMap_def, List.flatMap_def, List.map_congr_left key]
  intro j hj
  have hj := List.mem_range.1 hj
  have e1 : textIn (j : Int) (asN f 12) = f j := by rw [textIn_asN, if_pos (⟨by omega, by omega⟩ : (0 : Int) ≤ (j : Int) ∧ (j : Int) < (12 : Nat))]
  unfold docW oneC
  rw [e1]
  by_cases e : (j : Int) = b
  · simp [e]
  · simp [e]

/-- The newest copy of a block behind one more transaction, and behind all. -/
def nwStep (b : Int) (o : Option ByteArray) (t : Tx) : Option ByteArray := if (textIn b t.info).isSome = true then textIn b t.info else if amongB t.rev b = true then none else o
def newestF (l : List Tx) (b : Int) : Option ByteArray := l.foldl (nwStep b) none
theorem newestF_snoc (l : List Tx) (t : Tx) (b : Int) : newestF (l ++ [t]) b = nwStep b (newestF l b) t := by
  unfold newestF; rw [List.foldl_append]; rfl
theorem newestF_take {l : List Tx} {k : Nat} {t : Tx} (h : l[k]? = some t) (b : Int) : newestF (l.take (k + 1)) b = nwStep b (newestF (l.take k) b) t := by
  rw [List.take_add_one, h]; exact newestF_snoc _ _ _
def newestL (l : List Tx) : List (Int × ByteArray) := asN (newestF l) 12

/-- The same, forward, as the document has it: what is revoked taken away, what is copied put there. -/
def dropF (r : List Int) (f : Int → Option ByteArray) : Int → Option ByteArray := fun j => if amongB r j = true then none else f j
def putF (r : List Int) (f : Int → Option ByteArray) (c : Int × ByteArray) : Int → Option ByteArray := if withinB c.1 0 11 = true ∧ amongB r c.1 = false then (fun j => if j = c.1 then some c.2 else f j) else f
def docStep (f : Int → Option ByteArray) (t : Tx) : Int → Option ByteArray := t.info.foldl (putF t.rev) (dropF t.rev f)
def docF (l : List Tx) : Int → Option ByteArray := l.foldl docStep (fun _ => none)
theorem docF_take {l : List Tx} {k : Nat} {t : Tx} (h : l[k]? = some t) : docF (l.take (k + 1)) = docStep (docF (l.take k)) t := by
  rw [List.take_add_one, h, docF, List.foldl_append]; rfl
theorem dropF_nil (f : Int → Option ByteArray) : dropF [] f = f := rfl
theorem dropF_take {r : List Int} {k : Nat} {b : Int} (h : r[k]? = some b) (f : Int → Option ByteArray) : dropF (r.take (k + 1)) f = fun j => if j = b then none else dropF (r.take k) f j := by
  funext j
  unfold dropF
  rw [List.take_add_one, h, amongB, amongB, List.any_append]
  by_cases e : j = b
  · simp [e]
  · have : ¬ b = j := fun x => e x.symm
    simp [e, this]
theorem putF_take {l : List (Int × ByteArray)} {k : Nat} {c : Int × ByteArray} (h : l[k]? = some c) (r : List Int) (f : Int → Option ByteArray) : (l.take (k + 1)).foldl (putF r) f = putF r ((l.take k).foldl (putF r) f) c := by
  rw [List.take_add_one, h, List.foldl_append]; rfl
theorem put_all (r : List Int) (l : List (Int × ByteArray)) (hu : (blksOf l).Nodup) (hb : ∀ x ∈ l, withinB x.1 0 11 = true ∧ amongB r x.1 = false) (f : Int → Option ByteArray) (j : Int) :
    l.foldl (putF r) f j = if (textIn j l).isSome = true then textIn j l else f j := by
  induction l generalizing f with
  | nil => rfl
  | cons c l ih =>
    have hc := hb c (by simp)
    have hu2 : c.1 ∉ blksOf l ∧ (blksOf l).Nodup := List.nodup_cons.1 hu
    rw [List.foldl_cons, ih hu2.2 (fun x hx => hb x (by simp [hx])), textIn]
    have e1 : putF r f c = fun j => if j = c.1 then some c.2 else f j := by rw [putF, if_pos hc]
    by_cases e : c.1 = j
    · have e2 : textIn j l = none := by
        have : j ∉ blksOf l := by rw [← e]; exact hu2.1
        clear ih hu hb hu2
        induction l with
        | nil => rfl
        | cons y l ih2 =>
          rw [textIn, if_neg (fun h => this (by rw [← h]; simp [blksOf]))]
          exact ih2 fun h => this (by simp only [blksOf, List.map_cons, List.mem_cons] at h ⊢; exact .inr h)
      rw [e2, e1, if_pos e]
      simp [e]
    · rw [if_neg e, e1]
      by_cases h : (textIn j l).isSome = true
      · rw [if_pos h, if_pos h]
      · rw [if_neg h, if_neg h]
        exact if_neg fun x : j = c.1 => e x.symm
theorem docStep_good {t : Tx} (h : goodX t = true) (f : Int → Option ByteArray) (j : Int) : docStep f t j = nwStep j (f j) t := by
  obtain ⟨_, _, ⟨h1, _, _⟩, h2, _⟩ := (goodX_iff t).1 h
  have h3 := (rises_iff _).1 h1
  unfold allOf at h2
  rw [List.nodup_append] at h2
  have hb : ∀ x ∈ t.info, withinB x.1 0 11 = true ∧ amongB t.rev x.1 = false := by
    intro x hx
    have hm : x.1 ∈ blksOf t.info := List.mem_map.2 ⟨x, hx, rfl⟩
    have hw := h3.1 x.1 hm
    refine ⟨by simp [withinB, hw], ?_⟩
    rw [amongB, List.any_eq_false]
    intro y hy
    have := h2.2.2 x.1 hm y (by simp [hy])
    simpa using fun e : y = x.1 => this e.symm
  unfold docStep
  rw [put_all t.rev t.info h2.1 hb]
  rfl
theorem docF_good {l : List Tx} (h : ∀ t ∈ l, goodX t = true) (j : Int) : docF l j = newestF l j := by
  have key : ∀ (l : List Tx) (f : Int → Option ByteArray) (o : Option ByteArray), (∀ t ∈ l, goodX t = true) → f j = o → l.foldl docStep f j = l.foldl (nwStep j) o := by
    intro l
    induction l with
    | nil => intro f o _ e; exact e
    | cons t l ih =>
      intro f o hg e
      rw [List.foldl_cons, List.foldl_cons]
      exact ih _ _ (fun x hx => hg x (by simp [hx])) (by rw [docStep_good (hg t (by simp)), e])
  exact key l _ _ h rfl
theorem newest_doc {l : List Tx} (h : ∀ t ∈ l, goodX t = true) : newestL l = asN (docF l) 12 := asN_congr fun j _ => (docF_good h j).symm


set_option maxHeartbeats 2000000 in
set_option maxRecDepth 100000 in
theorem newest_any (a : Option Addr) (c : Nat) (l : List Tx) (b : Int) (w : World) (h : SegTx w a l) (hn : l.length ≤ maxLen) :
    Calls Try.prog 94 #[.slice a l.length c, .int .i64 b] w fun e w' => e = .returned (.tuple #[.string ((newestF l b).getD ⟨#[]⟩), .bool (newestF l b).isSome]) ∧ Below w.heap.size w w' := by
  unfold maxLen at hn
  have HS := hide h
  clear h
  go_enter Try.func94, Try.ntmps94
  go_wp2
  go_loopw [6] (fun i wr => ∃ k : Nat, k ≤ l.length ∧ i = .int .i64 ((k : Int) - 1) ∧ Hid (newestF (l.take k) b = newestF l b) ∧ Hid (Below w.heap.size w wr)) (fun i _ => (intOf i + 1).toNat)
  case atStart => exact ⟨l.length, Nat.le_refl _, by go_num, by rw [List.take_length]; rfl, Below.refl _ _⟩
  case round =>
    obtain ⟨k, hk, rfl, hF, hbr⟩ := hrel
    cases k with
    | zero =>
      have HF : Hid (newestF l b = none) := hF.out.symm
      clear hF
      go_wp2
      exact bodyPost_ret (v := .tuple #[.string ⟨#[]⟩, .bool false]) (by simp [results, Try.results94, go_sem]) rfl ⟨by rw [HF.out]; rfl, hbr.out⟩
    | succ j =>
      have ej : (((j + 1 : Nat) : Int) - 1) = (j : Int) := by omega
      rw [ej]
      have hj : j < l.length := by omega
      obtain ⟨b2, off, rfl, hb, hc⟩ := HS.out.resolve_left (by intro e; rw [e] at hj; simp at hj)
      obtain ⟨t, ht⟩ : ∃ t, t = l.getD j txz := ⟨_, rfl⟩
      have HX : Hid (l[j]? = some t) := by rw [ht]; exact tx_at hj
      have hcj := (hc j hj).below hbr.out hb
      rw [← ht] at hcj
      obtain ⟨a0, c0, a1, c1, r, d, ⟨x0, x1, x2, x3, x4, x5, x6, x7, x8, x9⟩, hT⟩ := hcj
      obtain ⟨s1, _, s3, n1, _, n3⟩ := hT.rows
      have HM := hide s1
      have HR := hide s3
      have N1 := hide n1
      have N3 := hide n3
      have HF : Hid (newestF l b = nwStep b (newestF (l.take j) b) t) := by rw [Hid, ← hF.out, newestF_take HX.out]
      have hlt' : (j : Int) < (l.length : Int) := by omega
      have hge : (0 : Int) ≤ (j : Int) := by omega
      clear ht hc hT s1 s3 n1 n3 hF x0 x2 x4 x5 x6 x7 x8 x9
      go_wp2_with fail
      refine (tGet_any a0 c0 t.info b _ HM.out N1.out).mono ?_
      rintro e w1 ⟨rfl, hb1⟩
      have k3 := cellKeep hb1 (Nat.lt_of_lt_of_le hb hbr.out.size) x3
      have HB1 := hide (bthen hbr.out hb1)
      replace HR := hide (HR.out.below hb1)
      clear hb1 x1 x3 HM N1
      cases hi : textIn b t.info with
      | some s =>
        have HE : Hid (newestF l b = some s) := by rw [Hid, HF.out, nwStep, hi]; rfl
        clear HF HR N3
        go_wp2
        exact bodyPost_ret (v := .tuple #[.string s, .bool true]) (by simp [results, Try.results94, go_sem]) rfl ⟨by rw [HE.out]; rfl, HB1.out⟩
      | none =>
        go_wp2_with fail
        refine (containsI_any r d t.rev b _ HR.out N3.out).mono ?_
        rintro e w2 ⟨rfl, rfl⟩
        by_cases hr : amongB t.rev b = true
        · have HE : Hid (newestF l b = none) := by rw [Hid, HF.out, nwStep, hi]; simp [hr]
          clear HF HR N3
          rw [hr]
          go_wp2
          exact bodyPost_ret (v := .tuple #[.string ⟨#[]⟩, .bool false]) (by simp [results, Try.results94, go_sem]) rfl ⟨by rw [HE.out]; rfl, HB1.out⟩
        · have hr' : amongB t.rev b = false := by simpa using hr
          have HE : Hid (newestF (l.take j) b = newestF l b) := by rw [Hid, HF.out, nwStep, hi]; simp [hr']
          clear HF HR N3 hr
          rw [hr']
          go_wp2
          go_roundw
          case rel => exact ⟨j, by omega, by go_num, HE, HB1⟩
          case measure => simp [intOf]

set_option maxHeartbeats 2000000 in
set_option maxRecDepth 100000 in
theorem sNewest_any (a : Option Addr) (c : Nat) (l : List Tx) (w : World) (h : SegTx w a l) (hn : l.length ≤ maxLen) :
    Calls Try.prog 39 #[.slice a l.length c] w fun e w' => ∃ v', e = .returned v' ∧ w'.ownsRow w.heap.size 91 2 v' (newestL l).length (cellsC (newestL l)) ∧ Below w.heap.size w w' := by
  have HS := hide h
  have HN := hide hn
  clear h hn
  go_enter Try.func39, Try.ntmps39
  go_wp2
  go_loopw [3, 7] (fun v i wr => ∃ k : Nat, k ≤ 12 ∧ i = .int .i64 k ∧ Hid (wr.ownsRow w.heap.size 91 2 v (asN (newestF l) k).length (cellsC (asN (newestF l) k))) ∧ Hid (Below w.heap.size w wr)) (fun _ i _ => 12 - (intOf i).toNat)
  case atStart => exact ⟨0, Nat.zero_le _, rfl, World.ownsRow_nil _ _ _ _, Below.refl _ _⟩
  case round =>
    obtain ⟨k, hk, rfl, hown, hbr⟩ := hrel
    by_cases hlt : k < 12
    · have hlt' : (k : Int) < 12 := by omega
      have hq := asN_length (newestF l) k
      have HF := hide (asN_snoc (newestF l) k)
      generalize asN (newestF l) k = q at *
      go_wp2_with fail
      refine (newest_any a c l (k : Int) wr (HS.out.below hbr.out) HN.out).mono ?_
      rintro e w1 ⟨rfl, hb1⟩
      have HO1 := hide (owns_keep hown.out hb1)
      have HB1 := hide (bthen hbr.out hb1)
      clear hown hbr hb1
      cases ht : newestF l (k : Int) with
      | none =>
        have HF2 : Hid (asN (newestF l) (k + 1) = q) := by rw [Hid, HF.out, oneC, ht]; simp
        clear HF
        go_wp2
        go_roundw
        case rel => exact ⟨k + 1, by omega, by go_num, by rw [HF2.out]; exact HO1, HB1⟩
        case measure => simp [intOf]; omega
      | some u =>
        have HF2 : Hid (asN (newestF l) (k + 1) = q ++ [((k : Int), u)]) := by rw [Hid, HF.out, oneC, ht]; rfl
        clear HF
        go_wp2_with (at_builtin; refine wpList_appC _ w w.heap.size rfl _ _ rfl _ q.length (cellsC q) rfl (owns_keep HO1.out (below1 _ _)) (some ⟨w1.heap.size, 0, none⟩) 1 [((k : Int), u)] rfl (.inr ⟨w1.heap.size, 0, rfl, by simp, fun i hi => ?_⟩) (by simp; omega) (Nat.le_trans HB1.out.size (by simp)) (bthen HB1.out (below1 _ _)) ?_)
        · have : i = 0 := by simpa using hi
          subst this
          exact ⟨by simp [go_sem], by simp [go_sem]⟩
        · intro v' w' hown' hB'
          clear HO1 HB1
          go_wp2
          go_roundw
          case rel => exact ⟨k + 1, by omega, by go_num, by rw [HF2.out, List.length_append, cellsC_append]; exact hown', hB'⟩
          case measure => simp [intOf]; omega
    · have e : k = 12 := by omega
      subst e
      go_wp2
      go_ret
      exact ⟨_, rfl, hown.out, hbr.out⟩


theorem textIn_newest (l : List Tx) (h : ∀ t ∈ l, goodX t = true) (b : Int) : textIn b (newestL l) = newestF l b := by
  rw [newestL, textIn_asN]
  by_cases hb : 0 ≤ b ∧ b < (12 : Nat)
  · rw [if_pos hb]
  · rw [if_neg hb]
    have key : ∀ (l : List Tx) (o : Option ByteArray), (∀ t ∈ l, goodX t = true) → o = none → l.foldl (nwStep b) o = none := by
      intro l
      induction l with
      | nil => intro o _ e; exact e
      | cons t l ih =>
        intro o hg e
        rw [List.foldl_cons]
        refine ih _ (fun x hx => hg x (by simp [hx])) ?_
        obtain ⟨_, _, ⟨h1, _, _⟩, _⟩ := (goodX_iff t).1 (hg t (by simp))
        have h3 := ((rises_iff _).1 h1).1
        have hn : textIn b t.info = none := by
          have : ∀ m : List (Int × ByteArray), (∀ x ∈ m, x.1 ≠ b) → textIn b m = none := by
            intro m
            induction m with
            | nil => intro _; rfl
            | cons y m ih2 => intro hm; rw [textIn, if_neg (hm y (by simp))]; exact ih2 fun x hx => hm x (by simp [hx])
          refine this _ fun x hx e => hb ?_
          have := h3 x.1 (List.mem_map.2 ⟨x, hx, rfl⟩)
          omega
        rw [nwStep, hn, e]
        simp
    exact (key l none h rfl).symm

set_option maxHeartbeats 4000000 in
set_option maxRecDepth 100000 in
theorem sealNewest_walk (a : Option Addr) (c : Nat) (l : List Tx) (b : Int) (w : World) (h : SegTx w a l) (hn : l.length ≤ maxLen) (hr : ∀ t ∈ l, Reached t) :
    Calls Try.prog 7 #[.slice a l.length c, .int .i64 b] w fun e w' => e = .returned (.bool true) ∧ Below w.heap.size w w' := by
  have HN := hide hn
  unfold maxLen at hn
  have HS := hide h
  have HR := hide hr
  clear h hr
  go_enter Try.func7, Try.ntmps7
  go_wp2
  go_loopw [16] (fun i wr => ∃ k : Nat, k ≤ l.length ∧ i = .int .i64 k ∧ Hid ((l.take k).all goodX = true) ∧ Hid (Below w.heap.size w wr)) (fun i _ => l.length - (intOf i).toNat)
  case atStart => exact ⟨0, Nat.zero_le _, rfl, rfl, Below.refl _ _⟩
  case round =>
    obtain ⟨k, hk, rfl, hF, hbr⟩ := hrel
    by_cases hlt : k < l.length
    · obtain ⟨b2, off, rfl, hb, hc⟩ := HS.out.resolve_left (by intro e; rw [e] at hlt; simp at hlt)
      obtain ⟨t, ht⟩ : ∃ t, t = l.getD k txz := ⟨_, rfl⟩
      have HX : Hid (l[k]? = some t) := by rw [ht]; exact tx_at hlt
      have hcj := (hc k hlt).below hbr.out hb
      rw [← ht] at hcj
      obtain ⟨a0, c0, a1, c1, r, d, ⟨x0, x1, x2, x3, x4, x5, x6, x7, x8, x9⟩, hT⟩ := hcj
      have HT := hide hT
      have HQ := hide (HR.out t (List.mem_of_getElem? HX.out))
      have hlt' : (k : Int) < (l.length : Int) := by omega
      clear ht hc hT
      go_wp2_with fail
      refine (tGood_any _ t _ (HT.out.below (below1 _ _)) HQ.out.1 HQ.out.2.1).mono ?_
      rintro e w1 ⟨rfl, hb1⟩
      have HB1 := hide (bthen (bthen hbr.out (below1 _ _)) hb1)
      clear hb1 hbr HT HQ x0 x1 x2 x3 x4 x5 x6 x7 x8 x9
      cases hg : goodX t with
      | false =>
        go_wp2_with fail
        refine (sealsK_any _).mono ?_
        rintro e w2 ⟨rfl, hb2⟩
        have HB2 := hide (bthen HB1.out hb2)
        clear hb2
        go_wp2
        go_ret
        exact ⟨rfl, HB2.out⟩
      | true =>
        have HE : Hid ((l.take (k + 1)).all goodX = true) := by
          rw [Hid, List.take_add_one, HX.out, List.all_append, hF.out]; simp [hg]
        go_wp2
        go_roundw
        case rel => exact ⟨k + 1, by omega, by go_num, HE, HB1⟩
        case measure => simp [intOf]; omega
    · have e : k = l.length := by omega
      subst e
      have HE : Hid (∀ b, textIn b (newestL l) = newestF l b) := by
        have := hF.out
        rw [List.take_length, List.all_eq_true] at this
        exact textIn_newest l this
      clear hF
      have hlt' : ¬ ((l.length : Int) < (l.length : Int)) := by omega
      go_wp2_with fail
      refine (sNewest_any a c l _ (HS.out.below hbr.out) HN.out).mono ?_
      rintro e w1 ⟨v1, rfl, hO1, hb1⟩
      obtain ⟨va, vc, rfl, hS1, _⟩ := SegC.of_owns hO1
      have HS1 := hide hS1
      have HB1 := hide (bthen hbr.out hb1)
      have hl12 : (newestL l).length ≤ 12 := asN_length _ 12
      clear hS1 hO1 hb1 hbr
      go_wp2_with fail
      refine (tGet_any va vc (newestL l) b _ HS1.out (by unfold maxLen; omega)).mono ?_
      rintro e w2 ⟨rfl, hb2⟩
      rw [HE.out b]
      have HB2 := hide (bthen HB1.out hb2)
      clear hb2 HB1 HS1 HE hl12
      obtain ⟨N, hNe⟩ : ∃ N, N = newestF l b := ⟨_, rfl⟩
      have HNE := hide hNe
      rw [← hNe]
      clear hNe
      go_wp2
      go_loopw [9] (fun i wr => ∃ k : Nat, k ≤ l.length ∧ i = .int .i64 ((k : Int) - 1) ∧ Hid (newestF (l.take k) b = N) ∧ Hid (Below w.heap.size w wr)) (fun i _ => (intOf i + 1).toNat)
      case atStart => exact ⟨l.length, Nat.le_refl _, by go_num, by rw [List.take_length]; exact HNE.out.symm, HB2⟩
      case round =>
        clear HB2
        obtain ⟨wo, hwo⟩ : ∃ wo, wo = wr := ⟨_, rfl⟩
        subst hwo
        obtain ⟨k, hk, rfl, hF, hbr⟩ := hrel
        cases k with
        | zero =>
          have HF : Hid (N = none) := hF.out.symm
          clear hF
          have e0 := HF.out
          subst e0
          go_wp2_with fail
          refine (sealsK_any _).mono ?_
          rintro e w3 ⟨rfl, hb3⟩
          have HB3 := hide (bthen hbr.out hb3)
          clear hb3
          go_wp2
          go_ret
          exact ⟨rfl, HB3.out⟩
        | succ j =>
          have ej : (((j + 1 : Nat) : Int) - 1) = (j : Int) := by omega
          rw [ej]
          have hj : j < l.length := by omega
          obtain ⟨b2, off, rfl, hb, hc⟩ := HS.out.resolve_left (by intro e; rw [e] at hj; simp at hj)
          obtain ⟨t, ht⟩ : ∃ t, t = l.getD j txz := ⟨_, rfl⟩
          have HX : Hid (l[j]? = some t) := by rw [ht]; exact tx_at hj
          have hcj := hc j hj
          rw [← ht] at hcj
          obtain ⟨a0, c0, a1, c1, r, d, ⟨x0, x1, x2, x3, x4, x5, x6, x7, x8, x9⟩, hT⟩ := hcj
          obtain ⟨s1, _, s3, n1, _, n3⟩ := hT.rows
          have HM := hide (s1.below hbr.out)
          have HQ := hide s3
          have N1 := hide n1
          unfold maxLen at n3
          have HF : Hid (N = nwStep b (newestF (l.take j) b) t) := by rw [Hid, ← hF.out, newestF_take HX.out]
          have hlt2 : (j : Int) < (l.length : Int) := by omega
          have hge : (0 : Int) ≤ (j : Int) := by omega
          have y1 := cellKeep hbr.out hb x1
          have y3 := cellKeep hbr.out hb x3
          clear ht hc hT s1 s3 n1 hF x0 x1 x2 x3 x4 x5 x6 x7 x8 x9
          go_wp2_with fail
          refine (tGet_any a0 c0 t.info b _ HM.out N1.out).mono ?_
          rintro e w3 ⟨rfl, hb3⟩
          have k3 := cellKeep hb3 (Nat.lt_of_lt_of_le hb hbr.out.size) y3
          have HB3 := hide (bthen hbr.out hb3)
          clear hb3 y1 y3 HM N1 hbr
          cases hi : textIn b t.info with
          | some s =>
            have e0 : N = some s := by rw [HF.out, nwStep, hi]; rfl
            clear HF
            subst e0
            go_wp2_with fail
            refine (sealsK_any _).mono ?_
            rintro e w4 ⟨rfl, hb4⟩
            have HB4 := hide (bthen HB3.out hb4)
            clear hb4
            go_wp2
            go_ret
            exact ⟨rfl, HB4.out⟩
          | none =>
            go_wp2
            clear k3
            go_loopw [65] (fun i wr => ∃ q : Nat, q ≤ t.rev.length ∧ i = .int .i64 q ∧ Hid ((t.rev.take q).any (· == b) = false) ∧ wr = w3) (fun i _ => t.rev.length - (intOf i).toNat)
            case atStart => exact ⟨0, Nat.zero_le _, rfl, rfl, rfl⟩
            case round =>
              obtain ⟨q, hq, rfl, hA, rfl⟩ := hrel
              by_cases hq2 : q < t.rev.length
              · obtain ⟨b3, off3, rfl, hb3, hc3⟩ := HQ.out.resolve_left (by intro e; rw [e] at hq2; simp at hq2)
                obtain ⟨x, hx⟩ : ∃ x, x = t.rev.getD q 0 := ⟨_, rfl⟩
                have g3 := cellKeep HB3.out hb3 (hc3 q hq2)
                rw [← hx] at g3
                have HX3 : Hid (t.rev[q]? = some x) := by rw [hx]; exact getD_at _ _ _ hq2
                have hq' : (q : Int) < (t.rev.length : Int) := by omega
                clear hx hc3
                by_cases he : x = b
                · have hm : amongB t.rev b = true := any_hit HX3.out (by simpa using he)
                  have e0 : N = none := by rw [HF.out, nwStep, hi]; simp [hm]
                  clear HF hA HX3
                  subst e0
                  subst he
                  go_wp2_with fail
                  refine (sealsK_any _).mono ?_
                  rintro e w4 ⟨rfl, hb4⟩
                  have HB4 := hide (bthen HB3.out hb4)
                  clear hb4
                  go_wp2
                  go_ret
                  exact ⟨rfl, HB4.out⟩
                · have HA2 := hide (any_miss HX3.out (show (x == b) = false by simpa using he) hA.out)
                  have he' : (x == b) = false := by simpa using he
                  clear hA
                  go_wp2
                  go_roundw
                  case rel => exact ⟨q + 1, by omega, by go_num, HA2, trivial⟩
                  case measure => simp [intOf]; omega
              · have hm : amongB t.rev b = false := by have := hA.out; rw [List.take_of_length_le (by omega)] at this; exact this
                have HE2 : Hid (newestF (l.take j) b = N) := by rw [Hid, HF.out, nwStep, hi]; simp [hm]
                have hq' : ¬ ((q : Int) < (t.rev.length : Int)) := by omega
                clear hA HF
                go_wp2
                go_roundw
                case rel => exact ⟨j, by omega, by go_num, HE2, HB3⟩
                case measure => simp [intOf]

end Go.Proofs.Ytjnpndfpajjihab
