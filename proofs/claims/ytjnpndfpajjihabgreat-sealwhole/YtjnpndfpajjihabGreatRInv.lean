/-
  A region that draws its order, by what each of its operations leaves behind: one obligation an operation, whatever the order. Nothing of the program is proved here.
-/
import Derived.Test.YtjnpndfpajjihabGreatGrSealWhole0
import Derived.Orders
import Derived.Great.Frames
namespace Go.Proofs.YtjnpndfpajjihabGreat
open Go.RowKit

section
variable {P : Program} {ops : Array Oper} {Q : Exit → Act → World → Prop} {md : Region.Mode}

/-- How many have not come up yet. -/
def leftN (listed : Array Bool) : Nat := listed.toList.countP (fun b => !b)
theorem leftN_set {listed : Array Bool} {i : Nat} (h : listed.getD i true = false) : leftN (listed.setIfInBounds i true) < leftN listed := by
  unfold leftN
  rw [Array.toList_setIfInBounds]
  have hi : i < listed.toList.length := by
    rcases Nat.lt_or_ge i listed.size with h' | h'
    · simpa using h'
    · simp [Array.getD, Nat.not_lt.2 h'] at h
  have hv : listed.toList[i] = false := by
    have hs : i < listed.size := by simpa using hi
    simpa [Array.getD, hs] using h
  generalize listed.toList = l at *
  clear h
  induction l generalizing i with
  | nil => simp at hi
  | cons x l ih =>
    cases i with
    | zero => simp only [List.getElem_cons_zero] at hv; subst hv; simp
    | succ i =>
      simp only [List.getElem_cons_succ] at hv
      simp only [List.set_cons_succ, List.countP_cons]
      have := ih (by simpa using hi) hv
      omega
theorem ready_left {listed : Array Bool} (h : leftN listed = 0) : Region.ready md ops listed = [] := by
  unfold leftN at h
  rw [List.countP_eq_zero] at h
  refine List.eq_nil_iff_forall_not_mem.2 fun i hi => ?_
  have hm := (mem_ready.1 hi).1
  rcases Nat.lt_or_ge i listed.size with h' | h'
  · have := h (listed[i]) (by simp)
    simp [Array.getD, h'] at hm
    simp [hm] at this
  · simp [Array.getD, Nat.not_lt.2 h'] at hm

theorem wpAny_inv (I : Array Bool → Act → World → Prop)
    (hstep : ∀ listed a w i, listed.size = ops.size → I listed a w → i ∈ Region.ready md ops listed → wpOp P ops Q i (I (listed.setIfInBounds i true)) a w)
    (hfin : ∀ listed a w, listed.size = ops.size → I listed a w → Region.ready md ops listed = [] → Q .normal a w) :
    ∀ (fuel : Nat) (listed : Array Bool) (a : Act) (w : World), listed.size = ops.size → leftN listed ≤ fuel → I listed a w → wpAny P md ops Q fuel listed a w := by
  intro fuel
  induction fuel with
  | zero =>
    intro listed a w hs hl hI
    have hr : Region.ready md ops listed = [] := ready_left (by omega)
    exact ⟨hr, hfin listed a w hs hI hr⟩
  | succ fuel ih =>
    intro listed a w hs hl hI
    refine ⟨hfin listed a w hs hI, fun i hi => wpOp_mono (fun a' w' h' => ih _ a' w' (by simpa using hs) ?_ h') (hstep listed a w i hs hI hi)⟩
    have := leftN_set (mem_ready.1 hi).1
    omega

def dstsOf (ops : Array Oper) : List Tmp := ops.toList.filterMap (·.dst)
/-- The frame but for what the region's operations write. -/
structure FrOf (ops : Array Oper) (a0 a : Act) : Prop where
  size : a.tmps.size = a0.tmps.size
  defers : a.defers = a0.defers
  other : ∀ t, (dstsOf ops).contains t = false → a.eval (.tmp t) = a0.eval (.tmp t)
theorem FrOf.put {a0 a : Act} (h : FrOf ops a0 a) {i : Nat} {o : Oper} (ho : ops[i]? = some o) (v : Value) : FrOf ops a0 (a.put o.dst v) := by
  refine ⟨by rw [Act.size_put]; exact h.size, by rw [Act.defers_put']; exact h.defers, fun t ht => ?_⟩
  rw [← h.other t ht]
  cases hd : o.dst with
  | none => rfl
  | some d =>
    refine Act.eval_put_ne _ _ _ _ fun e => ?_
    subst e
    have : d ∈ dstsOf ops := List.mem_filterMap.2 ⟨o, by rw [Array.mem_toList_iff]; exact Array.mem_of_getElem? ho, hd⟩
    simp [this] at ht

/-- What is asked of each operation. -/
def OpOk (P : Program) (ops : Array Oper) (Q : Exit → Act → World → Prop) (a0 : Act) (R : World → Prop) (φ : Nat → Act → World → Prop) (i : Nat) (o : Oper) : Prop :=
  ∀ a w, FrOf ops a0 a → R w → (∀ e ∈ o.after.toList, Region.binds .any e = true → φ e.on a w) →
    wpOp P ops Q i (fun a' w' => ∃ v, a' = a.put o.dst v ∧ R w' ∧ φ i a' w' ∧ ∀ j, j ≠ i → φ j a w → φ j a' w') a w
def AllOps (F : Nat → Oper → Prop) : Nat → List Oper → Prop
  | _, [] => True
  | k, o :: l => F k o ∧ AllOps F (k + 1) l
theorem AllOps.get {F : Nat → Oper → Prop} : ∀ (l : List Oper) (k : Nat), AllOps F k l → ∀ i o, l[i]? = some o → F (k + i) o
  | [], _, _, i, o, h => by simp at h
  | x :: l, k, h, 0, o, hi => by simp at hi; subst hi; exact h.1
  | x :: l, k, h, i + 1, o, hi => by
    have := AllOps.get l (k + 1) h.2 i o (by simpa using hi)
    rw [show k + (i + 1) = k + 1 + i by omega]
    exact this

theorem wp_region_posts {id : Nat} {a0 : Act} {w0 : World} (R : World → Prop) (φ : Nat → Act → World → Prop) (hm : P.follows .mixedOrders = true)
    (hR : R { w0 with drawn := w0.drawn + 1 }) (hstep : AllOps (OpOk P ops Q a0 R φ) 0 ops.toList)
    (hend : ∀ a w, FrOf ops a0 a → R w → (∀ j, j < ops.size → φ j a w) → Q .normal a w)
    (hall : ∀ listed : Array Bool, listed.size = ops.size → Region.ready .any ops listed = [] → ∀ j, j < ops.size → listed.getD j false = true) :
    (Code.region id ops true).wp P Q a0 w0 := by
  refine wp_region_any hm (wpAny_inv (fun listed a w => FrOf ops a0 a ∧ R w ∧ ∀ j, listed.getD j false = true → φ j a w) ?_ ?_ _ _ _ _ (by simp) ?_ ?_)
  · rintro listed a w i hs ⟨hF, hRw, hp⟩ hi
    obtain ⟨hun, o, ho, hall⟩ := mem_ready.1 hi
    have h := hstep.get _ _ i o (by simpa using ho)
    rw [Nat.zero_add] at h
    refine wpOp_mono ?_ (h a w hF hRw fun e he hb => hp _ (by have := hall e (by simpa using he) hb; simpa using this))
    rintro a' w' ⟨v, rfl, hR', hi', hk⟩
    refine ⟨hF.put ho v, hR', fun j hj => ?_⟩
    by_cases hji : j = i
    · subst hji; exact hi'
    · exact hk j hji (hp j (by rw [getD_set_ne false (Ne.symm hji)] at hj; exact hj))
  · rintro listed a w hs ⟨hF, hRw, hp⟩ hr
    exact hend a w hF hRw fun j hj => hp j (hall listed hs hr j hj)
  · simp [leftN, List.countP_replicate]
  · refine ⟨⟨rfl, rfl, fun _ _ => rfl⟩, hR, fun j hj => ?_⟩
    exfalso
    rcases Nat.lt_or_ge j ops.size with h | h
    · simp [Array.getD, h] at hj
    · simp [Array.getD, Nat.not_lt.2 h] at hj

/-- Edges lead back: then all come up. -/
theorem all_come {ops : Array Oper} (hb : (List.range ops.size).all (fun i => ((ops[i]?).map (·.after.all fun e => !Region.binds .any e || decide (e.on < i))).getD true) = true) :
    ∀ listed : Array Bool, listed.size = ops.size → Region.ready .any ops listed = [] → ∀ j, j < ops.size → listed.getD j false = true := by
  intro listed hs hr j
  induction j using Nat.strongRecOn with
  | _ j ih =>
    intro hj
    by_cases h : listed.getD j false = true
    · exact h
    exfalso
    have hjl : j < listed.size := by omega
    have hn : listed.getD j true = false := by
      simp only [Array.getD, hjl, dif_pos] at h ⊢
      simpa using h
    have : j ∈ Region.ready .any ops listed := by
      refine mem_ready.2 ⟨hn, ops[j], by simp [hj], fun e he hbn => ?_⟩
      have := List.all_eq_true.1 hb j (by simpa using hj)
      simp only [hj, Array.getElem?_eq_getElem, Option.map_some, Option.getD_some] at this
      have h2 := (Array.all_eq_true_iff_forall_mem.1 this) e he
      rw [hbn, Bool.not_true, Bool.false_or] at h2
      have h3 := ih e.on (by simpa using h2) (by have := of_decide_eq_true h2; omega)
      simpa using h3
    rw [hr] at this
    cases this

/-- No operation writes a slot that another one speaks of, but one that the other waits for. -/
def slotsApart (ops : Array Oper) (sl : List Tmp) : Bool :=
  (List.range ops.size).all fun i => (List.range ops.size).all fun j => i == j || (match (ops[i]?).bind (·.dst) with
    | some d => d != sl.getD j 0 || ((ops[j]?).map (·.after.any fun e => Region.binds .any e && e.on == i)).getD false
    | none => true)
/-- What is asked of each operation: of its own slot, and that it leaves what the others left. -/
def SlotOk (P : Program) (ops : Array Oper) (Q : Exit → Act → World → Prop) (a0 : Act) (R : World → Prop) (sl : List Tmp) (ψ : Nat → Value → World → Prop) (i : Nat) (o : Oper) : Prop :=
  ∀ a w, FrOf ops a0 a → R w → (∀ e ∈ o.after.toList, Region.binds .any e = true → ψ e.on (a.eval (.tmp (sl.getD e.on 0))) w) →
    wpOp P ops Q i (fun a' w' => ∃ v, a' = a.put o.dst v ∧ R w' ∧ ψ i (a'.eval (.tmp (sl.getD i 0))) w' ∧ ∀ j u, j ≠ i → ψ j u w → ψ j u w') a w
theorem wp_region_slots {id : Nat} {a0 : Act} {w0 : World} (R : World → Prop) (sl : List Tmp) (ψ : Nat → Value → World → Prop) (hm : P.follows .mixedOrders = true) (hap : slotsApart ops sl = true)
    (hback : (List.range ops.size).all (fun i => ((ops[i]?).map (·.after.all fun e => !Region.binds .any e || decide (e.on < i))).getD true) = true)
    (hR : R { w0 with drawn := w0.drawn + 1 }) (hstep : AllOps (SlotOk P ops Q a0 R sl ψ) 0 ops.toList)
    (hend : ∀ a w, FrOf ops a0 a → R w → (∀ j, j < ops.size → ψ j (a.eval (.tmp (sl.getD j 0))) w) → Q .normal a w) :
    (Code.region id ops true).wp P Q a0 w0 := by
  refine wp_region_any hm (wpAny_inv (fun listed a w => FrOf ops a0 a ∧ R w ∧ (∀ j o, ops[j]? = some o → listed.getD j false = true → ∀ e ∈ o.after, Region.binds .any e = true → listed.getD e.on false = true) ∧ ∀ j, j < ops.size → listed.getD j false = true → ψ j (a.eval (.tmp (sl.getD j 0))) w) ?_ ?_ _ _ _ _ (by simp) ?_ ?_)
  · rintro listed a w i hs ⟨hF, hRw, hcl, hp⟩ hi
    obtain ⟨hun, o, ho, hall⟩ := mem_ready.1 hi
    have hil : i < ops.size := (Array.getElem?_eq_some_iff.1 ho).1
    have hunf : listed.getD i false = false := by
      have : i < listed.size := by omega
      simp only [Array.getD, this, dif_pos] at hun ⊢
      exact hun
    have h := hstep.get _ _ i o (by simpa using ho)
    rw [Nat.zero_add] at h
    have hall' : ∀ e ∈ o.after, Region.binds .any e = true → listed.getD e.on false = true := fun e he hb => by simpa using hall e he hb
    have hon : ∀ e ∈ o.after, Region.binds .any e = true → e.on < ops.size := by
      intro e he hbn
      have h1 := List.all_eq_true.1 hback i (by simpa using hil)
      simp only [ho, Option.map_some, Option.getD_some] at h1
      have h2 := (Array.all_eq_true_iff_forall_mem.1 h1) e he
      rw [hbn, Bool.not_true, Bool.false_or] at h2
      have := of_decide_eq_true h2
      omega
    refine wpOp_mono ?_ (h a w hF hRw fun e he hb => hp _ (hon e (by simpa using he) hb) (hall' e (by simpa using he) hb))
    rintro a' w' ⟨v, rfl, hR', hi', hk⟩
    have hset : ∀ j, (listed.setIfInBounds i true).getD j false = true → j = i ∨ listed.getD j false = true := by
      intro j hj
      by_cases hji : j = i
      · exact .inl hji
      · rw [getD_set_ne false (Ne.symm hji)] at hj; exact .inr hj
    have hset' : ∀ j, listed.getD j false = true → (listed.setIfInBounds i true).getD j false = true := by
      intro j hj
      by_cases hji : j = i
      · subst hji; rw [hunf] at hj; cases hj
      · rw [getD_set_ne false (Ne.symm hji)]; exact hj
    refine ⟨hF.put ho v, hR', ?_, fun j hjs hj => ?_⟩
    · intro j oj hoj hj e he hb
      rcases hset j hj with rfl | hj
      · rw [ho] at hoj; cases hoj; exact hset' _ (hall' e he hb)
      · exact hset' _ (hcl j oj hoj hj e he hb)
    · rcases hset j hj with rfl | hj2
      · exact hi'
      · clear hj
        have hj := hj2
        have hji : j ≠ i := by intro e; subst e; rw [hunf] at hj; cases hj
        have h1 := hk j _ hji (hp j hjs hj)
        have h2 : (a.put o.dst v).eval (.tmp (sl.getD j 0)) = a.eval (.tmp (sl.getD j 0)) := by
          cases hd : o.dst with
          | none => rfl
          | some d =>
            refine Act.eval_put_ne _ _ _ _ fun e => ?_
            have h3 := List.all_eq_true.1 (List.all_eq_true.1 hap i (by simpa using hil)) j (by simpa using hjs)
            simp only [ho, Option.bind_some, hd, Bool.or_eq_true] at h3
            rcases h3 with h3 | h3 | h3
            · exact hji (by simpa using (beq_iff_eq.1 h3).symm)
            · simp [e] at h3
            · have hoj : ops[j]? = some ops[j] := by simp [hjs]
              simp only [hoj, Option.map_some, Option.getD_some] at h3
              obtain ⟨x, hx, h4⟩ := List.any_eq_true.1 (Array.any_toList.trans h3)
              simp only [Bool.and_eq_true, beq_iff_eq] at h4
              have := hcl j _ hoj hj x (by simpa using hx) h4.1
              rw [h4.2, hunf] at this
              cases this
        rw [h2]; exact h1
  · rintro listed a w hs ⟨hF, hRw, hcl, hp⟩ hr
    exact hend a w hF hRw fun j hj => hp j hj (all_come hback listed hs hr j hj)
  · simp [leftN, List.countP_replicate]
  · have hno : ∀ j, (Array.replicate ops.size false).getD j false = true → False := by
      intro j hj
      rcases Nat.lt_or_ge j ops.size with h | h
      · simp [Array.getD, h] at hj
      · simp [Array.getD, Nat.not_lt.2 h] at hj
    exact ⟨⟨rfl, rfl, fun _ _ => rfl⟩, hR, fun j _ _ hj => (hno j hj).elim, fun j _ hj => (hno j hj).elim⟩

theorem at_slot {ops : Array Oper} {a0 a : Act} {n d : Nat} {v : Value} (hF : FrOf ops a0 a) (hn : a0.tmps.size = n) (hd : d < n) : (a.put (some d) v).eval (.tmp d) = v :=
  Act.eval_put_same _ _ _ (by rw [hF.size, hn]; exact hd)
theorem _root_.Go.Act.eval_func (a : Act) (f : FuncId) : a.eval (.func f) = .func (.func f) #[] #[] := rfl
theorem _root_.Go.Act.eval_const (a : Act) (v : Value) : a.eval (.const v) = v := rfl
/-- A frame, written out. -/
theorem act_lit (a : Act) (n : Nat) (hs : a.tmps.size = n) (hd : a.defers = []) : a = ⟨((List.range n).map fun t => a.eval (.tmp t)).toArray, []⟩ := by
  obtain ⟨ts, ds⟩ := a
  simp only at hs hd
  subst hd hs
  congr 1
  refine Array.ext (by simp) fun i h1 h2 => ?_
  simp [Act.eval, h1]

/-- An operation that yields its value. -/
theorem op_yields {i : Nat} {o : Oper} {a : Act} {w : World} {K : Act → World → Prop} (v : Value) (hi : ops[i]? = some o) (hg : o.guard = none)
    (hrun : (execOp a.eval o).run P w = .ok (.value v) w) (h : K (a.put o.dst v) w) : wpOp P ops Q i K a w := by
  unfold wpOp
  have hw : Region.wanted o (yielded ops a.tmps) = true := by simp [Region.wanted, hg]
  simp only [hi, hw, if_true, Oper.wp, hrun, Oper.upon]
  exact .inl h
theorem op_runs {i : Nat} {o : Oper} {a : Act} {w w' : World} {K : Act → World → Prop} (v : Value) (hi : ops[i]? = some o) (hg : o.guard = none)
    (hrun : (execOp a.eval o).run P w = .ok (.value v) w') (h : K (a.put o.dst v) w') : wpOp P ops Q i K a w := by
  unfold wpOp
  have hw : Region.wanted o (yielded ops a.tmps) = true := by simp [Region.wanted, hg]
  simp only [hi, hw, if_true, Oper.wp, hrun, Oper.upon]
  exact .inl h
theorem op_skips {i : Nat} {o : Oper} {a : Act} {w w' : World} {K : Act → World → Prop} (hi : ops[i]? = some o) (hg : o.guard = none)
    (hrun : (execOp a.eval o).run P w = .ok .skip w') (h : K (a.put o.dst undef) w') : wpOp P ops Q i K a w := by
  unfold wpOp
  have hw : Region.wanted o (yielded ops a.tmps) = true := by simp [Region.wanted, hg]
  simp only [hi, hw, if_true, Oper.wp, hrun, Oper.upon]
  exact .inl h
theorem yielded_of {a : Act} {g d : Nat} {b : Bool} (hd : (ops[g]?).bind (·.dst) = some d) (hv : a.eval (.tmp d) = .bool b) : yielded ops a.tmps g = some b := by
  unfold yielded
  rw [hd]
  have h2 : a.tmps[d]? = some (.bool b) := by
    simp only [Act.eval, Array.getD_eq_getD_getElem?] at hv
    cases h : a.tmps[d]? with
    | none => rw [h] at hv; simp [undef] at hv
    | some x => rw [h] at hv; simp at hv; rw [hv]
  simp [h2]
/-- An operation that its guard passes over. -/
theorem op_no {i g d : Nat} {b : Bool} {o : Oper} {a : Act} {w : World} {K : Act → World → Prop} (hi : ops[i]? = some o) (hg : o.guard = some (g, b)) (hd : (ops[g]?).bind (·.dst) = some d) (hv : a.eval (.tmp d) = .bool (!b))
    (h : K (a.put o.dst undef) w) : wpOp P ops Q i K a w := by
  unfold wpOp
  have hw : Region.wanted o (yielded ops a.tmps) = false := by simp [Region.wanted, hg, yielded_of hd hv]
  simp only [hi, hw]
  exact h
theorem wanted_yes {g d : Nat} {b : Bool} {o : Oper} {a : Act} (hg : o.guard = some (g, b)) (hd : (ops[g]?).bind (·.dst) = some d) (hv : a.eval (.tmp d) = .bool b) : Region.wanted o (yielded ops a.tmps) = true := by
  simp [Region.wanted, hg, yielded_of hd hv]
theorem op_yields_g {i : Nat} {o : Oper} {a : Act} {w : World} {K : Act → World → Prop} (v : Value) (hi : ops[i]? = some o) (hw : Region.wanted o (yielded ops a.tmps) = true)
    (hrun : (execOp a.eval o).run P w = .ok (.value v) w) (h : K (a.put o.dst v) w) : wpOp P ops Q i K a w := by
  unfold wpOp
  simp only [hi, hw, if_true, Oper.wp, hrun, Oper.upon]
  exact .inl h
theorem op_calls_g {i : Nat} {o : Oper} {a : Act} {w : World} {K : Act → World → Prop} (f : FuncId) (args : Array Value) (hi : ops[i]? = some o) (hw : Region.wanted o (yielded ops a.tmps) = true)
    (hrun : (execOp a.eval o).run P w = .ok (.enter f args) w) (post : Ending → World → Prop) (hc : Calls P f args w post)
    (h : ∀ e w', post e w' → ∃ v, e = .returned v ∧ K (a.put o.dst v) w') : wpOp P ops Q i K a w := by
  unfold wpOp
  simp only [hi, hw, if_true, Oper.wp, hrun, Oper.upon]
  refine .inl (hc.mono ?_)
  intro e w' hp
  obtain ⟨v, rfl, hk⟩ := h e w' hp
  exact hk
/-- A call of a function of the program. -/
theorem op_calls {i : Nat} {o : Oper} {a : Act} {w : World} {K : Act → World → Prop} (f : FuncId) (args : Array Value) (hi : ops[i]? = some o) (hg : o.guard = none)
    (hrun : (execOp a.eval o).run P w = .ok (.enter f args) w) (post : Ending → World → Prop) (hc : Calls P f args w post)
    (h : ∀ e w', post e w' → ∃ v, e = .returned v ∧ K (a.put o.dst v) w') : wpOp P ops Q i K a w := by
  unfold wpOp
  have hw : Region.wanted o (yielded ops a.tmps) = true := by simp [Region.wanted, hg]
  simp only [hi, hw, if_true, Oper.wp, hrun, Oper.upon]
  refine .inl (hc.mono ?_)
  intro e w' hp
  obtain ⟨v, rfl, hk⟩ := h e w' hp
  exact hk
end
end Go.Proofs.YtjnpndfpajjihabGreat
