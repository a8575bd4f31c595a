/-
  The newest copies of blocks in transactions, as plain data: gone through from the end, and forward as the document has them. Nothing of the program is proved here.
  The walks of package seal's newest and Newest.
  The walk of the document's own NewestOf.
  The walk of the document's own SameSteps, at two lists that are the same.
  The walk of the document's own SameCopies, at two lists that are the same.
  The walk of the statement SealChecks: it says true at all transactions, copies and numbers.
-/
import Derived.Test.YtjnpndfpajjihabGreatTPure
import Derived.Test.YtjnpndfpajjihabGreatXRowsAll
import Derived.Test.YtjnpndfpajjihabGreatTFind
import Derived.Test.YtjnpndfpajjihabGreatXChk
import Derived.Test.YtjnpndfpajjihabGreatERows
import Derived.Test.YtjnpndfpajjihabGreatTDefs
import Derived.Test.YtjnpndfpajjihabGreatXCopyAll
import Derived.Test.YtjnpndfpajjihabGreatECommitAll
namespace Go.Proofs.YtjnpndfpajjihabGreat
open Go.RowKit

/-- Copies by number, up to one. -/
def oneC (f : Int → Option ByteArray) (j : Nat) : List (Int × ByteArray) := ((f (j : Int)).map fun s => ((j : Int), s)).toList
def asN (f : Int → Option ByteArray) (n : Nat) : List (Int × ByteArray) := (List.range n).flatMap (oneC f)
theorem asN_snoc (f : Int → Option ByteArray) (n : Nat) : asN f (n + 1) = asN f n ++ oneC f n := by
  rw [asN, List.range_succ, List.flatMap_append]; simp [asN]
theorem oneC_length (f : Int → Option ByteArray) (j : Nat) : (oneC f j).length ≤ 1 := by
  unfold oneC; cases f j <;> simp
theorem asN_length (f : Int → Option ByteArray) (n : Nat) : (asN f n).length ≤ n := by
  induction n with
  | zero => exact Nat.le_refl _
  | succ n ih => rw [asN_snoc, List.length_append]; have := oneC_length f n; omega
theorem asN_congr {f g : Int → Option ByteArray} {n : Nat} (h : ∀ j : Nat, j < n → f j = g j) : asN f n = asN g n := by
  induction n with
  | zero => rfl
  | succ n ih => rw [asN_snoc, asN_snoc, ih fun j hj => h j (by omega), oneC, oneC, h n (by omega)]
theorem textIn_append (b : Int) (l r : List (Int × ByteArray)) : textIn b (l ++ r) = if (textIn b l).isSome = true then textIn b l else textIn b r := by
  induction l with
  | nil => rfl
  | cons x l ih =>
    rw [List.cons_append, textIn, textIn]
    by_cases e : x.1 = b
    · simp [e]
    · rw [if_neg e, if_neg e, ih]
theorem textIn_asN (f : Int → Option ByteArray) (n : Nat) (b : Int) : textIn b (asN f n) = if 0 ≤ b ∧ b < n then f b else none := by
  induction n with
  | zero => rw [if_neg (by omega)]; rfl
  | succ n ih =>
    rw [asN_snoc, textIn_append, ih]
    by_cases h : 0 ≤ b ∧ b < n
    · rw [if_pos h, if_pos (⟨h.1, by omega⟩ : 0 ≤ b ∧ b < (n + 1 : Nat))]
      have e : textIn b (oneC f n) = none := by
        unfold oneC
        cases f n with
        | none => rfl
        | some s => simp only [Option.map_some, Option.toList_some, textIn]; rw [if_neg (by omega)]
      rw [e]
      cases f b <;> rfl
    · rw [if_neg h]
      by_cases h2 : b = n
      · subst h2
        rw [if_pos (⟨by omega, by omega⟩ : (0 : Int) ≤ (n : Int) ∧ (n : Int) < (n + 1 : Nat))]
        unfold oneC
        cases f n with
        | none => rfl
        | some s => simp [textIn]
      · rw [if_neg (show ¬ (0 ≤ b ∧ b < ((n + 1 : Nat) : Int)) by omega)]
        unfold oneC
        cases f n with
        | none => rfl
        | some s =>
          have h3 : ¬ (n : Int) = b := fun e => h2 e.symm
          simp [textIn, h3]
theorem asN_filter (f : Int → Option ByteArray) (b : Int) (n : Nat) : (asN f n).filter (fun y => decide (y.1 ≠ b)) = asN (fun j => if j = b then none else f j) n := by
  induction n with
  | zero => rfl
  | succ n ih =>
    rw [asN_snoc, asN_snoc, List.filter_append, ih]
    congr 1
    unfold oneC
    by_cases e : (n : Int) = b
    · cases f n <;> simp [e]
    · have e2 : (fun j => if j = b then none else f j) (n : Int) = f n := by simp [e]
      rw [e2]
      cases f n <;> simp [e]
theorem asN_docW (f : Int → Option ByteArray) (b : Int) (s : ByteArray) : (List.range 12).flatMap (docW (asN f 12) b s) = asN (fun j => if j = b then some s else f j) 12 := by
  have key : ∀ j ∈ List.range 12, docW (asN f 12) b s j = oneC (fun j => if j = b then some s else f j) j := ?_
  · show _ = (List.range 12).flatMap _
    rw [List.flatMap_def, List.flatMap_def, List.map_congr_left key]
  intro j hj
  have hj := List.mem_range.1 hj
  have e1 : textIn (j : Int) (asN f 12) = f j := by rw [textIn_asN, if_pos (⟨by omega, by omega⟩ : (0 : Int) ≤ (j : Int) ∧ (j : Int) < (12 : Nat))]
  unfold docW oneC
  rw [e1]
  by_cases e : (j : Int) = b
  · simp [e]
  · simp [e]

/-- The newest copy of a block behind one more transaction, and behind all. -/
def nwStep (b : Int) (o : Option ByteArray) (t : Tx) : Option ByteArray := if (textIn b t.info).isSome = true then textIn b t.info else if amongB t.rev b = true then none else o
def newestF (l : List Tx) (b : Int) : Option ByteArray := l.foldl (nwStep b) none
theorem newestF_snoc (l : List Tx) (t : Tx) (b : Int) : newestF (l ++ [t]) b = nwStep b (newestF l b) t := by
  unfold newestF; rw [List.foldl_append]; rfl
theorem newestF_take {l : List Tx} {k : Nat} {t : Tx} (h : l[k]? = some t) (b : Int) : newestF (l.take (k + 1)) b = nwStep b (newestF (l.take k) b) t := by
  rw [List.take_add_one, h]; exact newestF_snoc _ _ _
def newestL (l : List Tx) : List (Int × ByteArray) := asN (newestF l) 12

/-- The same, forward, as the document has it: what is revoked taken away, what is copied put there. -/
def dropF (r : List Int) (f : Int → Option ByteArray) : Int → Option ByteArray := fun j => if amongB r j = true then none else f j
def putF (r : List Int) (f : Int → Option ByteArray) (c : Int × ByteArray) : Int → Option ByteArray := if withinB c.1 0 11 = true ∧ amongB r c.1 = false then (fun j => if j = c.1 then some c.2 else f j) else f
def docStep (f : Int → Option ByteArray) (t : Tx) : Int → Option ByteArray := t.info.foldl (putF t.rev) (dropF t.rev f)
def docF (l : List Tx) : Int → Option ByteArray := l.foldl docStep (fun _ => none)
theorem docF_take {l : List Tx} {k : Nat} {t : Tx} (h : l[k]? = some t) : docF (l.take (k + 1)) = docStep (docF (l.take k)) t := by
  rw [List.take_add_one, h, docF, List.foldl_append]; rfl
theorem dropF_nil (f : Int → Option ByteArray) : dropF [] f = f := rfl
theorem dropF_take {r : List Int} {k : Nat} {b : Int} (h : r[k]? = some b) (f : Int → Option ByteArray) : dropF (r.take (k + 1)) f = fun j => if j = b then none else dropF (r.take k) f j := by
  funext j
  unfold dropF
  rw [List.take_add_one, h, amongB, amongB, List.any_append]
  by_cases e : j = b
  · simp [e]
  · have : ¬ b = j := fun x => e x.symm
    simp [e, this]
theorem putF_take {l : List (Int × ByteArray)} {k : Nat} {c : Int × ByteArray} (h : l[k]? = some c) (r : List Int) (f : Int → Option ByteArray) : (l.take (k + 1)).foldl (putF r) f = putF r ((l.take k).foldl (putF r) f) c := by
  rw [List.take_add_one, h, List.foldl_append]; rfl
theorem put_all (r : List Int) (l : List (Int × ByteArray)) (hu : (blksOf l).Nodup) (hb : ∀ x ∈ l, withinB x.1 0 11 = true ∧ amongB r x.1 = false) (f : Int → Option ByteArray) (j : Int) :
    l.foldl (putF r) f j = if (textIn j l).isSome = true then textIn j l else f j := by
  induction l generalizing f with
  | nil => rfl
  | cons c l ih =>
    have hc := hb c (by simp)
    have hu2 : c.1 ∉ blksOf l ∧ (blksOf l).Nodup := List.nodup_cons.1 hu
    rw [List.foldl_cons, ih hu2.2 (fun x hx => hb x (by simp [hx])), textIn]
    have e1 : putF r f c = fun j => if j = c.1 then some c.2 else f j := by rw [putF, if_pos hc]
    by_cases e : c.1 = j
    · have e2 : textIn j l = none := by
        have : j ∉ blksOf l := by rw [← e]; exact hu2.1
        clear ih hu hb hu2
        induction l with
        | nil => rfl
        | cons y l ih2 =>
          rw [textIn, if_neg (fun h => this (by rw [← h]; simp [blksOf]))]
          exact ih2 fun h => this (by simp only [blksOf, List.map_cons, List.mem_cons] at h ⊢; exact .inr h)
      rw [e2, e1, if_pos e]
      simp [e]
    · rw [if_neg e, e1]
      by_cases h : (textIn j l).isSome = true
      · rw [if_pos h, if_pos h]
      · rw [if_neg h, if_neg h]
        exact if_neg fun x : j = c.1 => e x.symm
theorem docStep_good {t : Tx} (h : goodX t = true) (f : Int → Option ByteArray) (j : Int) : docStep f t j = nwStep j (f j) t := by
  obtain ⟨_, _, ⟨h1, _, _⟩, h2, _⟩ := (goodX_iff t).1 h
  have h3 := (rises_iff _).1 h1
  unfold allOf at h2
  rw [List.nodup_append] at h2
  have hb : ∀ x ∈ t.info, withinB x.1 0 11 = true ∧ amongB t.rev x.1 = false := by
    intro x hx
    have hm : x.1 ∈ blksOf t.info := List.mem_map.2 ⟨x, hx, rfl⟩
    have hw := h3.1 x.1 hm
    refine ⟨by simp [withinB, hw], ?_⟩
    rw [amongB, List.any_eq_false]
    intro y hy
    have := h2.2.2 x.1 hm y (by simp [hy])
    simpa using fun e : y = x.1 => this e.symm
  unfold docStep
  rw [put_all t.rev t.info h2.1 hb]
  rfl
theorem docF_good {l : List Tx} (h : ∀ t ∈ l, goodX t = true) (j : Int) : docF l j = newestF l j := by
  have key : ∀ (l : List Tx) (f : Int → Option ByteArray) (o : Option ByteArray), (∀ t ∈ l, goodX t = true) → f j = o → l.foldl docStep f j = l.foldl (nwStep j) o := by
    intro l
    induction l with
    | nil => intro f o _ e; exact e
    | cons t l ih =>
      intro f o hg e
      rw [List.foldl_cons, List.foldl_cons]
      exact ih _ _ (fun x hx => hg x (by simp [hx])) (by rw [docStep_good (hg t (by simp)), e])
  exact key l _ _ h rfl
theorem newest_doc {l : List Tx} (h : ∀ t ∈ l, goodX t = true) : newestL l = asN (docF l) 12 := asN_congr fun j _ => (docF_good h j).symm


set_option maxHeartbeats 2000000 in
set_option maxRecDepth 100000 in
theorem newest_any (a : Option Addr) (c : Nat) (l : List Tx) (b : Int) (w : World) (h : SegTx w a l) (hn : l.length ≤ maxLen) :
    Calls Tryz.prog 77 #[.slice a l.length c, .int .i64 b] w fun e w' => e = .returned (.tuple #[.string ((newestF l b).getD ⟨#[]⟩), .bool (newestF l b).isSome]) ∧ Below w.heap.size w w' := by
  unfold maxLen at hn
  have HS := hide h
  clear h
  go_enter Tryz.func77, Tryz.ntmps77
  go_wp2
  go_loopw [6] (fun i wr => ∃ k : Nat, k ≤ l.length ∧ i = .int .i64 ((k : Int) - 1) ∧ Hid (newestF (l.take k) b = newestF l b) ∧ Hid (Below w.heap.size w wr)) (fun i _ => (intOf i + 1).toNat)
  case atStart => exact ⟨l.length, Nat.le_refl _, by go_num, by rw [List.take_length]; rfl, Below.refl _ _⟩
  case round =>
    obtain ⟨k, hk, rfl, hF, hbr⟩ := hrel
    cases k with
    | zero =>
      have HF : Hid (newestF l b = none) := hF.out.symm
      clear hF
      go_wp2
      exact bodyPost_ret (v := .tuple #[.string ⟨#[]⟩, .bool false]) (by simp [results, Tryz.results77, go_sem]) rfl ⟨by rw [HF.out]; rfl, hbr.out⟩
    | succ j =>
      have ej : (((j + 1 : Nat) : Int) - 1) = (j : Int) := by omega
      rw [ej]
      have hj : j < l.length := by omega
      obtain ⟨b2, off, rfl, hb, hc⟩ := HS.out.resolve_left (by intro e; rw [e] at hj; simp at hj)
      obtain ⟨t, ht⟩ : ∃ t, t = l.getD j txz := ⟨_, rfl⟩
      have HX : Hid (l[j]? = some t) := by rw [ht]; exact tx_at hj
      have hcj := (hc j hj).below hbr.out hb
      rw [← ht] at hcj
      obtain ⟨a0, c0, a1, c1, r, d, ⟨x0, x1, x2, x3, x4, x5, x6, x7, x8, x9⟩, hT⟩ := hcj
      obtain ⟨s1, _, s3, n1, _, n3⟩ := hT.rows
      have HM := hide s1
      have HR := hide s3
      have N1 := hide n1
      have N3 := hide n3
      have HF : Hid (newestF l b = nwStep b (newestF (l.take j) b) t) := by rw [Hid, ← hF.out, newestF_take HX.out]
      have hlt' : (j : Int) < (l.length : Int) := by omega
      have hge : (0 : Int) ≤ (j : Int) := by omega
      clear ht hc hT s1 s3 n1 n3 hF x0 x2 x4 x5 x6 x7 x8 x9
      go_wp2_with fail
      refine (tGet_any a0 c0 t.info b _ HM.out N1.out).mono ?_
      rintro e w1 ⟨rfl, hb1⟩
      have k3 := cellKeep hb1 (Nat.lt_of_lt_of_le hb hbr.out.size) x3
      have HB1 := hide (bthen hbr.out hb1)
      replace HR := hide (HR.out.below hb1)
      clear hb1 x1 x3 HM N1
      cases hi : textIn b t.info with
      | some s =>
        have HE : Hid (newestF l b = some s) := by rw [Hid, HF.out, nwStep, hi]; rfl
        clear HF HR N3
        go_wp2
        exact bodyPost_ret (v := .tuple #[.string s, .bool true]) (by simp [results, Tryz.results77, go_sem]) rfl ⟨by rw [HE.out]; rfl, HB1.out⟩
      | none =>
        go_wp2_with fail
        refine (containsI_any r d t.rev b _ HR.out N3.out).mono ?_
        rintro e w2 ⟨rfl, rfl⟩
        by_cases hr : amongB t.rev b = true
        · have HE : Hid (newestF l b = none) := by rw [Hid, HF.out, nwStep, hi]; simp [hr]
          clear HF HR N3
          rw [hr]
          go_wp2
          exact bodyPost_ret (v := .tuple #[.string ⟨#[]⟩, .bool false]) (by simp [results, Tryz.results77, go_sem]) rfl ⟨by rw [HE.out]; rfl, HB1.out⟩
        · have hr' : amongB t.rev b = false := by simpa using hr
          have HE : Hid (newestF (l.take j) b = newestF l b) := by rw [Hid, HF.out, nwStep, hi]; simp [hr']
          clear HF HR N3 hr
          rw [hr']
          go_wp2
          go_roundw
          case rel => exact ⟨j, by omega, by go_num, HE, HB1⟩
          case measure => simp [intOf]

set_option maxHeartbeats 2000000 in
set_option maxRecDepth 100000 in
theorem sNewest_any (a : Option Addr) (c : Nat) (l : List Tx) (w : World) (h : SegTx w a l) (hn : l.length ≤ maxLen) :
    Calls Tryz.prog 24 #[.slice a l.length c] w fun e w' => ∃ v', e = .returned v' ∧ w'.ownsRow w.heap.size 78 2 v' (newestL l).length (cellsC (newestL l)) ∧ Below w.heap.size w w' := by
  have HS := hide h
  have HN := hide hn
  clear h hn
  go_enter Tryz.func24, Tryz.ntmps24
  go_wp2
  go_loopw [3, 7] (fun v i wr => ∃ k : Nat, k ≤ 12 ∧ i = .int .i64 k ∧ Hid (wr.ownsRow w.heap.size 78 2 v (asN (newestF l) k).length (cellsC (asN (newestF l) k))) ∧ Hid (Below w.heap.size w wr)) (fun _ i _ => 12 - (intOf i).toNat)
  case atStart => exact ⟨0, Nat.zero_le _, rfl, World.ownsRow_nil _ _ _ _, Below.refl _ _⟩
  case round =>
    obtain ⟨k, hk, rfl, hown, hbr⟩ := hrel
    by_cases hlt : k < 12
    · have hlt' : (k : Int) < 12 := by omega
      have hq := asN_length (newestF l) k
      have HF := hide (asN_snoc (newestF l) k)
      generalize asN (newestF l) k = q at *
      go_wp2_with fail
      refine (newest_any a c l (k : Int) wr (HS.out.below hbr.out) HN.out).mono ?_
      rintro e w1 ⟨rfl, hb1⟩
      have HO1 := hide (owns_keep hown.out hb1)
      have HB1 := hide (bthen hbr.out hb1)
      clear hown hbr hb1
      cases ht : newestF l (k : Int) with
      | none =>
        have HF2 : Hid (asN (newestF l) (k + 1) = q) := by rw [Hid, HF.out, oneC, ht]; simp
        clear HF
        go_wp2
        go_roundw
        case rel => exact ⟨k + 1, by omega, by go_num, by rw [HF2.out]; exact HO1, HB1⟩
        case measure => simp [intOf]; omega
      | some u =>
        have HF2 : Hid (asN (newestF l) (k + 1) = q ++ [((k : Int), u)]) := by rw [Hid, HF.out, oneC, ht]; rfl
        clear HF
        go_wp2_with (at_builtin; refine wpList_appC _ w w.heap.size rfl _ _ rfl _ q.length (cellsC q) rfl (owns_keep HO1.out (below1 _ _)) (some ⟨w1.heap.size, 0, none⟩) 1 [((k : Int), u)] rfl (.inr ⟨w1.heap.size, 0, rfl, by simp, fun i hi => ?_⟩) (by simp; omega) (Nat.le_trans HB1.out.size (by simp)) (bthen HB1.out (below1 _ _)) ?_)
        · have : i = 0 := by simpa using hi
          subst this
          exact ⟨by simp [go_sem], by simp [go_sem]⟩
        · intro v' w' hown' hB'
          clear HO1 HB1
          go_wp2
          go_roundw
          case rel => exact ⟨k + 1, by omega, by go_num, by rw [HF2.out, List.length_append, cellsC_append]; exact hown', hB'⟩
          case measure => simp [intOf]; omega
    · have e : k = 12 := by omega
      subst e
      go_wp2
      go_ret
      exact ⟨_, rfl, hown.out, hbr.out⟩


set_option maxHeartbeats 8000000 in
set_option maxRecDepth 100000 in
theorem newestOf_any (a : Option Addr) (c : Nat) (l : List Tx) (w : World) (h : SegTx w a l) (hn : l.length ≤ maxLen) :
    Calls Tryz.prog 26 #[.slice a l.length c] w fun e w' => ∃ v', e = .returned v' ∧ w'.ownsRow w.heap.size 78 2 v' (asN (docF l) 12).length (cellsC (asN (docF l) 12)) ∧ Below w.heap.size w w' := by
  unfold maxLen at hn
  have HS := hide h
  clear h
  go_enter Tryz.func26, Tryz.ntmps26
  go_wp2
  go_loopw [3, 12] (fun v i wr => ∃ k : Nat, k ≤ l.length ∧ i = .int .i64 k ∧ Hid (wr.ownsRow w.heap.size 78 2 v (asN (docF (l.take k)) 12).length (cellsC (asN (docF (l.take k)) 12))) ∧ Hid (Below w.heap.size w wr)) (fun _ i _ => l.length - (intOf i).toNat)
  case atStart => exact ⟨0, Nat.zero_le _, rfl, World.ownsRow_nil _ _ _ _, Below.refl _ _⟩
  case round =>
    obtain ⟨wo, hwo⟩ : ∃ wo, wo = wr := ⟨_, rfl⟩
    subst hwo
    obtain ⟨k, hk, rfl, hown, hbr⟩ := hrel
    by_cases hlt : k < l.length
    · obtain ⟨b2, off, rfl, hb, hc⟩ := HS.out.resolve_left (by intro e; rw [e] at hlt; simp at hlt)
      obtain ⟨t, ht⟩ : ∃ t, t = l.getD k txz := ⟨_, rfl⟩
      have HX : Hid (l[k]? = some t) := by rw [ht]; exact tx_at hlt
      have hcj := hc k hlt
      rw [← ht] at hcj
      obtain ⟨a0, c0, a1, c1, r, d, ⟨x0, x1, x2, x3, x4, x5, x6, x7, x8, x9⟩, hT⟩ := hcj
      obtain ⟨s1, _, s3, n1, _, n3⟩ := hT.rows
      replace x0 := cellKeep hbr.out hb x0
      replace x1 := cellKeep hbr.out hb x1
      replace x2 := cellKeep hbr.out hb x2
      replace x3 := cellKeep hbr.out hb x3
      replace x4 := cellKeep hbr.out hb x4
      replace x5 := cellKeep hbr.out hb x5
      replace x6 := cellKeep hbr.out hb x6
      replace x7 := cellKeep hbr.out hb x7
      replace x8 := cellKeep hbr.out hb x8
      replace x9 := cellKeep hbr.out hb x9
      unfold maxLen at n1 n3
      have HM := hide s1
      have HR := hide s3
      have HD := hide (docF_take HX.out)
      have hlt' : (k : Int) < (l.length : Int) := by omega
      clear ht hc hT s1 s3
      generalize docF (l.take k) = f at *
      go_wp2
      clear x0 x1 x2 x3 x4 x5 x6 x7 x8 x9
      go_loopw [3, 19] (fun v i wq => ∃ q : Nat, q ≤ t.rev.length ∧ i = .int .i64 q ∧ Hid (wq.ownsRow w.heap.size 78 2 v (asN (dropF (t.rev.take q) f) 12).length (cellsC (asN (dropF (t.rev.take q) f) 12))) ∧ Hid (wq.heap[wo.heap.size]? = some (.cells #[.int .i64 t.seq, .slice a0 t.info.length c0, .slice a1 t.data.length c1, .slice r t.rev.length d, .bool t.h0.on, .int .i64 t.h0.left, .bool t.h1.on, .int .i64 t.h1.left, .bool t.h2.on, .int .i64 t.h2.left] 28 (0, 0))) ∧ wo.heap.size < wq.heap.size ∧ Hid (Below w.heap.size w wq)) (fun _ i _ => t.rev.length - (intOf i).toNat)
      case atStart => exact ⟨0, Nat.zero_le _, rfl, by rw [List.take_zero, dropF_nil]; exact owns_keep hown.out (below1 _ _), heap_alloc_new wo _, by simp, bthen hbr.out (below1 _ _)⟩
      case round =>
        obtain ⟨wq, hwq⟩ : ∃ wq, wq = wr := ⟨_, rfl⟩
        subst hwq
        obtain ⟨q, hq, rfl, hO1, K1, hs1, hb1⟩ := hrel
        by_cases hq2 : q < t.rev.length
        · obtain ⟨b3, off3, rfl, hb3, hc3⟩ := HR.out.resolve_left (by intro e; rw [e] at hq2; simp at hq2)
          obtain ⟨x, hx⟩ : ∃ x, x = t.rev.getD q 0 := ⟨_, rfl⟩
          have g3 := cellKeep hb1.out hb3 (hc3 q hq2)
          rw [← hx] at g3
          have HX3 : Hid (t.rev[q]? = some x) := by rw [hx]; exact getD_at _ _ _ hq2
          have HF : Hid ((asN (dropF (t.rev.take q) f) 12).filter (fun y => decide (y.1 ≠ x)) = asN (dropF (t.rev.take (q + 1)) f) 12) := by rw [Hid, asN_filter, dropF_take HX3.out]
          have hl12 := asN_length (dropF (t.rev.take q) f) 12
          have hq' : (q : Int) < (t.rev.length : Int) := by omega
          clear hx hc3 HX3
          generalize asN (dropF (t.rev.take q) f) 12 = Q at *
          obtain ⟨va, vc, hv, hS, _⟩ := SegC.of_owns hO1.out
          have HQ := hide hS
          subst hv
          clear hS hO1
          go_wp2_with fail
          refine (rest_any va vc Q x wq HQ.out (by omega)).mono ?_
          rintro e w2 ⟨v2, rfl, hO2, hb2⟩
          rw [HF.out] at hO2
          have HO2 := hide (owns_base hO2 hb1.out.size)
          have HB2 := hide (bthen hb1.out hb2)
          have K2 := hide (boxKeep hb2 hs1 K1.out)
          have hs2 := Nat.lt_of_lt_of_le hs1 hb2.size
          clear hO2 hb2 g3 HF HQ K1 hb1
          go_wp2
          go_roundw
          case rel => exact ⟨q + 1, by omega, by go_num, HO2, K2, hs2, HB2⟩
          case measure => simp [intOf]; omega
        · have e : q = t.rev.length := by omega
          subst e
          rw [List.take_length] at hO1
          have hq' : ¬ ((t.rev.length : Int) < (t.rev.length : Int)) := by omega
          obtain ⟨⟨y0, y1, y2, y3, y4, y5, y6, y7, y8, y9⟩, _⟩ := box10 K1.out
          go_wp2
          clear y0 y1 y2 y3 y4 y5 y6 y7 y8 y9
          go_loopw [3, 30] (fun v i wp => ∃ p : Nat, p ≤ t.info.length ∧ i = .int .i64 p ∧ Hid (wp.ownsRow w.heap.size 78 2 v (asN ((t.info.take p).foldl (putF t.rev) (dropF t.rev f)) 12).length (cellsC (asN ((t.info.take p).foldl (putF t.rev) (dropF t.rev f)) 12))) ∧ Hid (wp.heap[wo.heap.size]? = some (.cells #[.int .i64 t.seq, .slice a0 t.info.length c0, .slice a1 t.data.length c1, .slice r t.rev.length d, .bool t.h0.on, .int .i64 t.h0.left, .bool t.h1.on, .int .i64 t.h1.left, .bool t.h2.on, .int .i64 t.h2.left] 28 (0, 0))) ∧ wo.heap.size < wp.heap.size ∧ Hid (Below w.heap.size w wp)) (fun _ i _ => t.info.length - (intOf i).toNat)
          case atStart => exact ⟨0, Nat.zero_le _, rfl, hO1, K1, hs1, hb1⟩
          case round =>
            clear hO1 K1 hs1 hb1
            obtain ⟨p, hp, rfl, hO1, K1, hs1, hb1⟩ := hrel
            by_cases hp2 : p < t.info.length
            · obtain ⟨b3, off3, rfl, hb3, hc3⟩ := HM.out.resolve_left (by intro e; rw [e] at hp2; simp at hp2)
              obtain ⟨x, hx⟩ : ∃ x, x = t.info.getD p (0, ByteArray.empty) := ⟨_, rfl⟩
              obtain ⟨g1, g2⟩ := hc3 p hp2
              replace g1 := cellKeep hb1.out hb3 g1
              replace g2 := cellKeep hb1.out hb3 g2
              rw [← hx] at g1 g2
              have HX3 : Hid (t.info[p]? = some x) := by rw [hx]; exact getD_at _ _ _ hp2
              have HF := hide (putF_take HX3.out t.rev (dropF t.rev f))
              have hp' : (p : Int) < (t.info.length : Int) := by omega
              clear hx hc3 HX3
              obtain ⟨n, s⟩ := x
              generalize (t.info.take p).foldl (putF t.rev) (dropF t.rev f) = F at *
              obtain ⟨⟨y0, y1, y2, y3, y4, y5, y6, y7, y8, y9⟩, _⟩ := box10 K1.out
              have K2 := hide (boxKeep (below1 wr (.cells #[.int .i64 n, .string s] 78 (0, 0))) hs1 K1.out)
              go_wp2_with fail
              refine (isBlock_any n _).mono ?_
              rintro e w2 ⟨rfl, rfl⟩
              by_cases hwb : withinB n 0 11 = true
              · rw [hwb]
                go_wp2_with fail
                refine (among_any r d t.rev n _ (HR.out.below (bthen hb1.out (below1 _ _))) n3).mono ?_
                rintro e w3 ⟨rfl, rfl⟩
                cases hr : amongB t.rev n with
                | true =>
                  have HE : Hid (putF t.rev F (n, s) = F) := by rw [Hid, putF, if_neg]; simp [hr]
                  clear HM HR
                  go_wp2
                  go_roundw
                  case rel => exact ⟨p + 1, by omega, by go_num, by rw [HF.out, HE.out]; exact owns_keep hO1.out (below1 _ _), K2, by simp; omega, bthen hb1.out (below1 _ _)⟩
                  case measure => simp [intOf]; omega
                | false =>
                  have HE : Hid ((List.range 12).flatMap (docW (asN F 12) n s) = asN (putF t.rev F (n, s)) 12) := by rw [Hid, asN_docW, putF, if_pos ⟨hwb, hr⟩]
                  have hl12 := asN_length F 12
                  obtain ⟨va, vc, hv, hS, _⟩ := SegC.of_owns hO1.out
                  have HQ := hide (hS.below (below1 wr (.cells #[.int .i64 n, .string s] 78 (0, 0))))
                  subst hv
                  clear hS hO1 HM
                  generalize asN F 12 = Q at *
                  go_wp2_with fail
                  refine (refWith_any va vc Q n s _ HQ.out (by unfold maxLen; omega)).mono ?_
                  rintro e w4 ⟨v4, rfl, hO4, hb4⟩
                  rw [HE.out] at hO4
                  have HO4 := hide (owns_base hO4 (Nat.le_trans hb1.out.size (by simp)))
                  have HB4 := hide (bthen (bthen hb1.out (below1 _ _)) hb4)
                  have K4 := hide (boxKeep hb4 (Nat.lt_of_lt_of_le hs1 (by simp)) K2.out)
                  have hs4 : wo.heap.size < w4.heap.size := Nat.lt_of_lt_of_le (Nat.lt_of_lt_of_le hs1 (by simp)) hb4.size
                  clear hO4 hb4 HQ HE
                  go_wp2
                  go_roundw
                  case rel => exact ⟨p + 1, by omega, by go_num, by rw [HF.out]; exact HO4, K4, hs4, HB4⟩
                  case measure => simp [intOf]; omega
              · have hwb' : withinB n 0 11 = false := by simpa using hwb
                have HE : Hid (putF t.rev F (n, s) = F) := by rw [Hid, putF, if_neg]; simp [hwb']
                rw [hwb']
                go_wp2
                go_roundw
                case rel => exact ⟨p + 1, by omega, by go_num, by rw [HF.out, HE.out]; exact owns_keep hO1.out (below1 _ _), K2, by simp; omega, bthen hb1.out (below1 _ _)⟩
                case measure => simp [intOf]; omega
            · have e : p = t.info.length := by omega
              subst e
              rw [List.take_length] at hO1
              have hp' : ¬ ((t.info.length : Int) < (t.info.length : Int)) := by omega
              go_wp2
              go_roundw
              case rel => exact ⟨k + 1, by omega, by go_num, by rw [HD.out]; exact hO1, hb1⟩
              case measure => simp [intOf]; omega
    · have e : k = l.length := by omega
      subst e
      rw [List.take_length] at hown
      go_wp2
      go_ret
      exact ⟨_, rfl, hown.out, hbr.out⟩


set_option maxHeartbeats 1000000 in
theorem sameSteps_walk (a : Option Addr) (c : Nat) (a' : Option Addr) (c' : Nat) (l : List St) (w : World) (h : SegSt w a l) (h' : SegSt w a' l) (hn : l.length ≤ maxLen) :
    Calls Tryz.prog 18 #[.slice a l.length c, .slice a' l.length c'] w fun e w' => e = .returned (.bool true) ∧ Below w.heap.size w w' := by
  unfold maxLen at hn
  have HS := hide h
  have HS' := hide h'
  clear h h'
  go_enter Tryz.func18, Tryz.ntmps18
  go_wp2
  go_loopw [13] (fun i wr => ∃ k q : Nat, k ≤ l.length ∧ i = .int .i64 k ∧ wr = w.drewN q) (fun i _ => l.length - (intOf i).toNat)
  case atStart => exact ⟨0, 0, Nat.zero_le _, rfl, rfl⟩
  case round =>
    obtain ⟨k, q, hk, rfl, rfl⟩ := hrel
    by_cases hlt : k < l.length
    · obtain ⟨b1, o1, rfl, hb1, hc1⟩ := HS.out.resolve_left (by intro e; rw [e] at hlt; simp at hlt)
      obtain ⟨b2, o2, rfl, hb2, hc2⟩ := HS'.out.resolve_left (by intro e; rw [e] at hlt; simp at hlt)
      obtain ⟨g1, g1', g1''⟩ := hc1 k hlt
      obtain ⟨g2, g2', g2''⟩ := hc2 k hlt
      obtain ⟨x, hx⟩ : ∃ x, x = l.getD k st0 := ⟨_, rfl⟩
      rw [← hx] at g1 g1' g1'' g2 g2' g2''
      clear hc1 hc2 hx
      obtain ⟨n, m, s⟩ := x
      have hlt' : (k : Int) < (l.length : Int) := by omega
      go_wp2
      go_quiet (fail)
      go_wp2
      go_roundw
      case rel => exact ⟨k + 1, _, by omega, by go_num, rfl⟩
      case measure => simp [intOf]; omega
    · go_wp2
      go_ret
      exact ⟨rfl, below_drewN (Below.refl _ _) _⟩


set_option maxHeartbeats 1000000 in
theorem sameCopies_walk (a : Option Addr) (c : Nat) (a' : Option Addr) (c' : Nat) (l : List (Int × ByteArray)) (w : World) (h : SegW w a l) (h' : SegW w a' l) (hn : l.length ≤ maxLen) :
    Calls Tryz.prog 23 #[.slice a l.length c, .slice a' l.length c'] w fun e w' => e = .returned (.bool true) ∧ Below w.heap.size w w' := by
  unfold maxLen at hn
  have HS := hide h
  have HS' := hide h'
  clear h h'
  go_enter Tryz.func23, Tryz.ntmps23
  go_wp2
  go_loopw [13] (fun i wr => ∃ k q : Nat, k ≤ l.length ∧ i = .int .i64 k ∧ wr = w.drewN q) (fun i _ => l.length - (intOf i).toNat)
  case atStart => exact ⟨0, 0, Nat.zero_le _, rfl, rfl⟩
  case round =>
    obtain ⟨k, q, hk, rfl, rfl⟩ := hrel
    by_cases hlt : k < l.length
    · obtain ⟨b1, o1, rfl, hb1, hc1⟩ := HS.out.resolve_left (by intro e; rw [e] at hlt; simp at hlt)
      obtain ⟨b2, o2, rfl, hb2, hc2⟩ := HS'.out.resolve_left (by intro e; rw [e] at hlt; simp at hlt)
      obtain ⟨g1, g1'⟩ := hc1 k hlt
      obtain ⟨g2, g2'⟩ := hc2 k hlt
      obtain ⟨x, hx⟩ : ∃ x, x = l.getD k (0, ByteArray.empty) := ⟨_, rfl⟩
      rw [← hx] at g1 g1' g2 g2'
      clear hc1 hc2 hx
      obtain ⟨n, s⟩ := x
      have hlt' : (k : Int) < (l.length : Int) := by omega
      go_wp2
      go_quiet (fail)
      go_wp2
      go_roundw
      case rel => exact ⟨k + 1, _, by omega, by go_num, rfl⟩
      case measure => simp [intOf]; omega
    · go_wp2
      go_ret
      exact ⟨rfl, below_drewN (Below.refl _ _) _⟩


theorem checkS_length (l : List (Int × ByteArray)) (p seq : Int) (h : l.length * 24 ≤ 140737488355328) : (checkS l p seq).length ≤ maxLen := by
  unfold checkS
  split
  · have := homeS_le l
    rw [List.length_append]
    unfold maxLen
    simp only [List.length_cons, List.length_nil]
    omega
  · exact Nat.zero_le _
/-- append of copies onto nil: a row of the call's own. -/
theorem wpList_copyC (w : World) {ops : Array Oper} {rest : List Oper} {o : Oper} {a : Act} {Q : Exit → Act → World → Prop} (hgd : o.guard = none) (s x : Operand)
    (ho : o.op = .call { callee := .builtin .append, args := #[s, x], argTypes := #[22, 22] })
    (hs : a.eval s = .slice none 0 0) (ao : Option Addr) (c : Nat) (l : List (Int × ByteArray)) (hx : a.eval x = .slice ao l.length c) (hS : SegW w ao l) (hn : l.length * 24 ≤ 140737488355328)
    (h : ∀ a2 c2 w', Hid (SegW w' a2 l) → Hid (Below w.heap.size w w') → wpList Tryz.prog ops Q rest (a.put o.dst (.slice a2 l.length c2)) w') : wpList Tryz.prog ops Q (o :: rest) a w := by
  obtain ⟨i0, hi, hz0, hz1, hz2⟩ := info_parts infoC
  cases ao with
  | none =>
    have h0 : l = [] := by rcases hS with h | ⟨b, off, he, _⟩; exact h; cases he
    subst h0
    exact Lib.wpList_append_run w hgd s x _ _ ho _ _ hs hx (.slice none 0 0) w (run_append_nilC w w.heap.size o.type _ 0 c [] (World.ownsRow_nil _ _ _ _)) (h none 0 w (.inl rfl) (Below.refl _ _))
  | some ad =>
    refine wpList_append_own_wide w hgd s x 22 ho w.heap.size 78 i0 (.agg #[.int .i64 0, .string ⟨#[]⟩]) 2 24 Tryz.underlying22 hi hz0 hz1 hz2 rfl (by decide) _ 0 [] hs (World.ownsRow_nil _ _ _ _) ad l.length c (cellsC l) hx (cellsC_length l) ?_ (cellsC_one l) (by unfold maxLen; omega) (by omega) (Nat.le_refl _) ?_
    · intro j u hj
      rcases hS with h | ⟨b, off, he, hlt, hc⟩
      · rw [h] at hj; simp [cellsC] at hj
      · cases he
        rw [Addr.add_lit]
        exact SegC.news hc j u hj
    · intro v' w' hown' hgrow _
      rw [List.nil_append] at hown'
      obtain ⟨a2, c2, hv, h2, _⟩ := SegC.of_owns hown'
      subst hv
      exact h a2 c2 w' h2 ⟨hgrow.os, hgrow.tape, hgrow.output, hgrow.size, fun k hk => hgrow.block k hk (by simp [Value.ownBlock])⟩

set_option maxHeartbeats 4000000 in
set_option maxRecDepth 100000 in
theorem sealChecks_walk (a0 : Option Addr) (c0 : Nat) (l : List Tx) (a1 : Option Addr) (c1 : Nat) (cs : List (Int × ByteArray)) (p seq : Int) (w : World) (hL : SegTx w a0 l) (hl : l.length ≤ maxLen) (hl2 : l.length * 128 ≤ 140737488355328) (hr : ∀ t ∈ l, Reached t) (hC : SegW w a1 cs) (hc : cs.length * 24 ≤ 140737488355328) :
    Calls Tryz.prog 5 #[.slice a0 l.length c0, .slice a1 cs.length c1, .int .i64 p, .int .i64 seq] w fun e w' => e = .returned (.bool true) ∧ Below w.heap.size w w' := by
  have HL := hide hL
  have HC := hide hC
  have HR := hide hr
  have HN := hide hl
  clear hL hC hr hl
  go_enter Tryz.func5, Tryz.ntmps5
  go_wp2_with (at_builtin; refine wpList_copyC _ rfl _ _ rfl rfl a1 c1 cs rfl HC.out hc ?_)
  intro a2 c2 w1 HS1 HB1
  go_wp2_with fail
  refine (check_any a2 c2 cs p seq _ HS1.out hc).mono ?_
  rintro e w2 ⟨sa, sc, rfl, hS2, hb2⟩
  have HS2 := hide hS2
  have HB2 := hide (bthen HB1.out hb2)
  clear hS2 hb2 HS1 HB1
  go_wp2_with fail
  refine (checkSteps_any a1 c1 cs p seq _ (HC.out.below HB2.out) hc).mono ?_
  rintro e w3 ⟨ta, tc, rfl, hS3, hb3⟩
  have HS3 := hide hS3
  have HB3 := hide (bthen HB2.out hb3)
  replace HS2 := hide (HS2.out.below hb3)
  have HLN := hide (checkS_length cs p seq hc)
  clear hS3 hb3 HB2
  generalize checkS cs p seq = L at *
  generalize checkE cs p seq = E0 at *
  go_wp2_with fail
  refine (sameSteps_walk sa sc ta tc L _ HS2.out HS3.out HLN.out).mono ?_
  rintro e w4 ⟨rfl, hb4⟩
  have HB4 := hide (bthen HB3.out hb4)
  clear hb4 HB3 HS2 HS3 HLN
  go_wp2_with fail
  refine (sealsL_any _).mono ?_
  rintro e w5 ⟨rfl, hb5⟩
  have HB5 := hide (bthen HB4.out hb5)
  clear hb5 HB4
  go_wp2_with fail
  refine (allGood_any a0 c0 l _ (HL.out.below HB5.out) HN.out HR.out).mono ?_
  rintro e w6 ⟨rfl, hb6⟩
  have HB6 := hide (bthen HB5.out hb6)
  clear hb6 HB5
  cases hg : l.all goodX with
  | false =>
    go_wp2
    go_ret
    exact ⟨rfl, HB6.out⟩
  | true =>
    have HD : Hid (newestL l = asN (docF l) 12) := newest_doc (List.all_eq_true.1 hg)
    clear hg
    go_wp2_with fail
    refine (txns_any a0 c0 l _ (HL.out.below HB6.out) hl2 HR.out).mono ?_
    rintro e w7 ⟨xa, xc, rfl, hX7, hb7⟩
    have HX7 := hide hX7
    have HB7 := hide (bthen HB6.out hb7)
    clear hb7 hX7 HB6
    go_wp2_with fail
    refine (sNewest_any xa xc l _ HX7.out HN.out).mono ?_
    rintro e w8 ⟨v8, rfl, hO8, hb8⟩
    obtain ⟨ya, yc, rfl, hS8, _⟩ := SegC.of_owns hO8
    have HS8 := hide hS8
    have HB8 := hide (bthen HB7.out hb8)
    clear hb8 hO8 hS8 HB7 HX7
    go_wp2_with fail
    refine (newestOf_any a0 c0 l _ (HL.out.below HB8.out) HN.out).mono ?_
    rintro e w9 ⟨v9, rfl, hO9, hb9⟩
    rw [← HD.out] at hO9
    obtain ⟨za, zc, rfl, hS9, _⟩ := SegC.of_owns hO9
    have HS9 := hide hS9
    have HB9 := hide (bthen HB8.out hb9)
    replace HS8 := hide (HS8.out.below hb9)
    have HLL : Hid ((newestL l).length ≤ maxLen) := Nat.le_trans (asN_length _ 12) (by unfold maxLen; omega)
    clear hb9 hO9 hS9 HB8 HD
    generalize newestL l = NL at *
    go_wp2_with fail
    refine (sameCopies_walk ya yc za zc NL _ HS8.out HS9.out HLL.out).mono ?_
    rintro e w10 ⟨rfl, hb10⟩
    have HB10 := hide (bthen HB9.out hb10)
    clear hb10
    go_wp2
    go_ret
    exact ⟨rfl, HB10.out⟩

end Go.Proofs.YtjnpndfpajjihabGreat
