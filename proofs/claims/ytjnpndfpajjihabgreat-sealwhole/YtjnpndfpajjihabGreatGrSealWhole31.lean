/-
  Maps of the call's own from numbers to numbers and to copies. Nothing of the program is proved here.
  The walk of package scan's lastToName.
  A range over a function whose rounds are counted: what is handed to each round is known by its number, and no round leaves early. Nothing of the program is proved here.
-/
import Derived.Test.YtjnpndfpajjihabGreatGrSealWhole15
import Derived.Maps.Own
import Derived.Maps.OwnSet
import Derived.Test.YtjnpndfpajjihabGreatXPure
import Derived.Test.YtjnpndfpajjihabGreatGrSealWhole18
import Derived.RangeFuncNested
import Derived.RangeFuncBound
import Derived.RangeFuncCalls
import Derived.RangeFuncLeaves
import Derived.Shelf.Abstract
import Derived.Shelf.RegionOpen
import Derived.WalkKit
import Derived.OwnWalkIn
import Derived.TacticsInMore
import Derived.LoopNIn
import Derived.LoopIn
import Derived.Test.YtjnpndfpajjihabGreatGrSealWhole0
namespace Go.Proofs.YtjnpndfpajjihabGreat
open Go.RowKit

theorem keyN : Maps.Keyed Tryz.prog 3 := Maps.int_keyed Tryz.underlying3
theorem zeroN (w : World) : (zeroValue 3).run Tryz.prog w = .ok (.int .i64 0) w := by kernel_rfl
theorem zeroCp (w : World) : (zeroValue 78).run Tryz.prog w = .ok (.agg #[.int .i64 0, .string ⟨#[]⟩]) w := by kernel_rfl

/-- Block B is a map of numbers: what is found at each, 0 where there is none; it has no more than so many. -/
def MapI (w : World) (B n : Nat) (f : Int → Int) : Prop :=
  ∃ D : DataW Unit, w.ownsMap Tryz.prog 3 (plainElem Tryz.prog 3) B n D ∧ ∀ x : Int, (Lit.int .i64 x).wf = true → D.atKey (.int .i64 x) (.lit (.int .i64 0)) = .lit (.int .i64 (f x))
theorem MapI.made (w : World) : MapI (w.alloc (.map #[] 0)) w.heap.size 0 (fun _ => 0) :=
  ⟨.map [], World.ownsMap_made w _ _ _, fun x _ => by simp [DataW.atKey]⟩
theorem MapI.lt {w : World} {B n : Nat} {f : Int → Int} (h : MapI w B n f) : B < w.heap.size := by
  obtain ⟨D, ho, _⟩ := h; exact ho.lt
theorem MapI.block {w w' : World} {B n : Nat} {f : Int → Int} (h : MapI w B n f) (hb : w'.heap[B]? = w.heap[B]?) : MapI w' B n f := by
  obtain ⟨D, ho, ha⟩ := h
  obtain ⟨es, clock, h1, h2⟩ := ho
  exact ⟨D, ⟨es, clock, hb.trans h1, h2⟩, ha⟩
theorem MapI.below {w w' : World} {B n : Nat} {f : Int → Int} (h : MapI w B n f) (hb : Below w.heap.size w w') : MapI w' B n f := h.block (hb.block _ h.lt)
/-- A copy, as it reads. -/
def copyElem (v : Value) : Option (DataW Unit × List MemPlace) :=
  match v with
  | .agg c => match c.toList with
    | [.int .i64 a, .string s] => some (.agg [.lit (.int .i64 a), .lit (.string s.data.toList)], [])
    | _ => none
  | _ => none
def copyD (c : Int × ByteArray) : DataW Unit := .agg [.lit (.int .i64 c.1), .lit (.string c.2.data.toList)]
theorem copyElem_mk (a : Int) (s : ByteArray) : copyElem (.agg #[.int .i64 a, .string s]) = some (copyD (a, s), []) := rfl
theorem copyElem_inv {v : Value} {a : Int} {s : ByteArray} {ps : List MemPlace} (h : copyElem v = some (copyD (a, s), ps)) : v = .agg #[.int .i64 a, .string s] := by
  unfold copyElem at h
  split at h
  · rename_i c
    split at h
    · rename_i a' s' hc
      simp only [copyD, Option.some.injEq, Prod.mk.injEq, DataW.agg.injEq, List.cons.injEq, DataW.lit.injEq, Lit.int.injEq, Lit.string.injEq, and_true, true_and] at h
      obtain ⟨⟨rfl, h2⟩, _⟩ := h
      have e : s' = s := by
        cases s' with | mk d => cases s with | mk d2 =>
        simp only at h2
        congr 1
        exact Array.ext' h2
      subst e
      have : c = #[.int .i64 a', .string s'] := by
        apply Array.ext'
        rw [hc]
      rw [this]
    · cases h
  · cases h

/-- Block B is a map of copies. -/
def MapC (w : World) (B n : Nat) (f : Int → Option (Int × ByteArray)) : Prop :=
  ∃ D : DataW Unit, w.ownsMap Tryz.prog 3 copyElem B n D ∧ ∀ x : Int, (Lit.int .i64 x).wf = true → Maps.has D (.int .i64 x) = (f x).isSome ∧ ∀ c, f x = some c → ∀ z, D.atKey (.int .i64 x) z = copyD c
theorem MapC.made (w : World) : MapC (w.alloc (.map #[] 0)) w.heap.size 0 (fun _ => none) :=
  ⟨.map [], World.ownsMap_made w _ _ _, fun x _ => ⟨rfl, fun c h => by cases h⟩⟩
theorem MapC.lt {w : World} {B n : Nat} {f : Int → Option (Int × ByteArray)} (h : MapC w B n f) : B < w.heap.size := by
  obtain ⟨D, ho, _⟩ := h; exact ho.lt
theorem MapC.block {w w' : World} {B n : Nat} {f : Int → Option (Int × ByteArray)} (h : MapC w B n f) (hb : w'.heap[B]? = w.heap[B]?) : MapC w' B n f := by
  obtain ⟨D, ho, ha⟩ := h
  obtain ⟨es, clock, h1, h2⟩ := ho
  exact ⟨D, ⟨es, clock, hb.trans h1, h2⟩, ha⟩
theorem MapC.below {w w' : World} {B n : Nat} {f : Int → Option (Int × ByteArray)} (h : MapC w B n f) (hb : Below w.heap.size w w') : MapC w' B n f := h.block (hb.block _ h.lt)
end Go.Proofs.YtjnpndfpajjihabGreat

namespace Go.Proofs.YtjnpndfpajjihabGreat
open Go.RowKit

theorem wfI {x : Int} (h0 : -9223372036854775808 ≤ x) (h1 : x ≤ 9223372036854775807) : (Lit.int .i64 x).wf = true := by
  have e1 : IntKind.i64.min = -9223372036854775808 := by decide
  have e2 : IntKind.i64.max = 9223372036854775807 := by decide
  simp only [Lit.wf, e1, e2, Bool.and_eq_true, decide_eq_true_eq]
  exact ⟨h0, h1⟩
/-- A transaction with few blocks. -/
def Few (t : Tx) : Prop := t.rev.length ≤ 12 ∧ t.info.length ≤ 12 ∧ (∀ x ∈ t.rev, 0 ≤ x ∧ x ≤ 11) ∧ ∀ x ∈ t.info, 0 ≤ x.1 ∧ x.1 ≤ 11
/-- Which transaction, of some, is the last to name a block. -/
def nameB (t : Tx) (b : Int) : Bool := amongB t.rev b || amongB (blksOf t.info) b
def lastK (l : List Tx) : Nat → Int → Int
  | 0 => fun _ => 0
  | k + 1 => fun b => if nameB (l.getD k txz) b = true then (k : Int) else lastK l k b
def revK (t : Tx) (k : Nat) (f : Int → Int) (q : Nat) : Int → Int := fun b => if amongB (t.rev.take q) b = true then (k : Int) else f b
def infoK (t : Tx) (k : Nat) (f : Int → Int) (p : Nat) : Int → Int := fun b => if (amongB t.rev b || amongB (blksOf (t.info.take p)) b) = true then (k : Int) else f b
theorem revK_succ {t : Tx} {q : Nat} {x : Int} (h : t.rev[q]? = some x) (k : Nat) (f : Int → Int) : revK t k f (q + 1) = fun z => if z = x then (k : Int) else revK t k f q z := by
  funext z
  unfold revK
  rw [List.take_add_one, h, amongB, amongB, List.any_append]
  by_cases e : z = x
  · simp [e]
  · have : ¬ x = z := fun y => e y.symm
    simp [e, this]
theorem infoK_succ {t : Tx} {p : Nat} {x : Int × ByteArray} (h : t.info[p]? = some x) (k : Nat) (f : Int → Int) : infoK t k f (p + 1) = fun z => if z = x.1 then (k : Int) else infoK t k f p z := by
  funext z
  unfold infoK blksOf
  rw [List.take_add_one, h, List.map_append, amongB, amongB, amongB, List.any_append]
  by_cases e : z = x.1
  · simp [e]
  · have : ¬ x.1 = z := fun y => e y.symm
    simp [e, this]
theorem infoK_zero (t : Tx) (k : Nat) (f : Int → Int) : revK t k f t.rev.length = infoK t k f 0 := by
  funext z
  unfold revK infoK
  rw [List.take_length]
  simp [blksOf, amongB]
theorem infoK_all {l : List Tx} {k : Nat} {t : Tx} (h : t = l.getD k txz) : infoK t k (lastK l k) t.info.length = lastK l (k + 1) := by
  funext z
  rw [lastK, ← h]
  unfold infoK nameB
  rw [List.take_length]
end Go.Proofs.YtjnpndfpajjihabGreat

namespace Go.Proofs.YtjnpndfpajjihabGreat
open Go.RowKit

/-- An iterator's word: it calls its loop's rounds 0, 1, .. one behind another, each with the values of its number, and then returns. -/
def CountsTo (F : Fence) (n : Nat) (P : Program) (g : Nat) (lb : Array Value) (vals : Nat → Array Value) (N : Nat) (Kp : World → World → Prop) (w : World) : Prop :=
  ∀ (l : Nat) (J : Nat → World → Prop) (W : World), Below w.heap.size w W → (∀ k V, J k V → J k V.drew) →
    (∀ k V, k < N → J k V → YieldAt F (n - 1) P l (vals k) V fun e V' => e = .returned (.bool true) ∧ J (k + 1) V' ∧ Kp V V') →
    J 0 W → CallsIn F n P g (#[.func (.yield l) #[] #[]] ++ lb) W fun e W' => (∃ v, e = .returned v) ∧ J N W'

section
variable {F : Fence} {n : Nat} {P : Program}

/-- How a round's body ends: it goes on. -/
def GoesOn (Kp : World → World → Prop) (I : World → Prop) (W : World) : Exit → Act → World → Prop
  | .normal, _, W' => KeepsOthers W W' ∧ Kp W W' ∧ I W'
  | _, _, _ => False

/-- The statement itself. -/
theorem range_counted {g : Operand} {ps : Array Tmp} {assign body : Code} {Q : Exit → Act → World → Prop} {a : Act} {w w0 : World} {gf : Nat} {lb : Array Value} {vals : Nat → Array Value} {N : Nat} {Kp : World → World → Prop}
    (hro : F.round = none) (h1 : 1 ≤ n) (hg : a.eval g = .func (.func gf) #[] lb) (hF : F.fn gf) (eg : ∀ args w, (callFunc gf args).run P w = .ok (.enter gf args) w)
    (hc : CountsTo F (n - 1) P gf lb vals N Kp w0) (hb0 : Below w0.heap.size w0 w) (hKt : ∀ A B C : World, Kp A B → Kp B C → Kp A C)
    (hKb : ∀ (W : World) (r : Nat) (o o' : Obj), W.heap[r]? = some o → o.isCells = false → Kp W (W.putObj r o')) (hps : ∀ k, (vals k).size = ps.size)
    (I : Nat → World → Prop) (hI : ∀ k (A B : World) (row : Option Nat), I k A → A.grownBy B row → (∀ r, row = some r → w.heap.size ≤ r ∧ ∃ o : Obj, A.heap[r]? = some o ∧ o.isCells = false) → I k B) (hd : ∀ k V, I k V → I k V.drew) (h0 : I 0 w) (a₁ : Nat → Act)
    (hassign : ∀ (l k : Nat) (W : World) (K : Act → World → Prop), K (a₁ k) W →
      assign.wpIn (F.inRound l) (n - 1 - 1) P (Exit.then K (fun _ _ _ => False)) { tmps := (ps.zip (vals k)).foldl (fun t (p, v) => t.setIfInBounds p v) a.tmps, defers := [] } W)
    (hbody : ∀ (l k : Nat) (W : World), k < N → I k W → body.wpIn (F.inRound l) (n - 1 - 1) P (GoesOn Kp (I (k + 1)) W) (a₁ k) W)
    (hdone : ∀ (D : Nat) (W : World), w.heap.size ≤ D → I N W → W.heap[D]? = some (.deferred (some [])) → Q .normal { a with defers := { target := .collected D, args := #[] } :: a.defers } W) :
    (Code.rangeFunc g ps assign body).wpIn F n P Q a w := by
  refine wpIn_rangeFunc fun fn hfn => ?_
  rw [hro]
  obtain ⟨L, hL⟩ : ∃ L : LoopState → Loop, L = fun st => { state := st, pending := none, fn, tmps := a.tmps, params := ps, assign, body, defers := w.heap.size } := ⟨_, rfl⟩
  obtain ⟨V, hV⟩ : ∃ V, V = (w.alloc (.deferred (some []))).alloc (.loop (L .ready)) := ⟨_, rfl⟩
  have hz : V.heap.size = w.heap.size + 1 + 1 := by rw [hV]; simp
  have hbV : Below w.heap.size w V := by rw [hV]; exact ((Below.refl _ _).alloc (Nat.le_refl _) _).alloc (by simp) _
  have hl : V.heap[w.heap.size + 1]? = some (.loop (L .ready)) := by
    rw [hV]; have := World.alloc_heap_new (w.alloc (.deferred (some []))) (.loop (L .ready)); rwa [World.size_alloc] at this
  have hk : V.heap[w.heap.size]? = some (.deferred (some [])) := by
    rw [hV]; exact (Below.heap_alloc _ _ _ (by simp)).trans (World.alloc_heap_new w _)
  have hIV : I 0 V := by
    rw [hV]
    exact hI 0 _ _ none (hI 0 _ _ none h0 (World.grownBy_alloc _ _ none) (fun r e => by cases e)) (World.grownBy_alloc _ _ none) (fun r e => by cases e)
  have put : ∀ k A st, I k A → A.heap[w.heap.size + 1]? = some (.loop (L st)) → ∀ o', I k (A.putObj (w.heap.size + 1) o') := fun k A st hi hA o' =>
    hI k _ _ _ hi (grownBy_putObj' A (w.heap.size + 1) o') (fun r e => by cases e; exact ⟨by omega, _, hA, rfl⟩)
  refine ⟨w.heap.size + 1, [{ target := .collected w.heap.size, args := #[] }], V, { target := .fn (.func gf) lb, args := #[.func (.yield (w.heap.size + 1)) #[] #[]] }, V, gf, #[.func (.yield (w.heap.size + 1)) #[] #[]] ++ lb, V, ?_, ?_, ?_, ?_, fun _ => h1, ?_⟩
  · rw [hV, hL]; exact run_enterLoop_outer _ _ _ _ _
  · simp only [resolve, hg]; simp [go_sem]
  · intro f' hf'; simp [Target.leads] at hf'; subst hf'; exact hF
  · simp [invoke, go_sem, eg]
  · refine (hc (w.heap.size + 1) (fun k W => I k W ∧ W.heap[w.heap.size + 1]? = some (.loop (L .ready)) ∧ W.heap[w.heap.size]? = some (.deferred (some []))) V (hb0.trans (hbV.mono hb0.size)) (fun k W h => ⟨hd k W h.1, h.2.1, h.2.2⟩) ?_ ⟨hIV, hl, hk⟩).mono ?_
    · rintro k W hkN ⟨hi, hl1, hk1⟩
      have hlt := (Array.getElem?_eq_some_iff.1 hl1).1
      have hy := run_yield (P := P) (args := vals k) hl1 (by rw [hL]; exact hps k)
      rw [hL] at hy
      refine ⟨fn, _, assign, body, hy, roundIn_of_wpIn hfn (hassign _ k W _ ⟨_, run_beginRound hl1 (by rw [hL]), ?_⟩)⟩
      have e2 : (W.putObj (w.heap.size + 1) (.loop { L .ready with state := .busy })).heap[w.heap.size + 1]? = some (.loop (L .busy)) := by rw [hL]; exact World.putObj_heap_same hlt
      have k2 : (W.putObj (w.heap.size + 1) (.loop { L .ready with state := .busy })).heap[w.heap.size]? = some (.deferred (some [])) := (World.putObj_heap_other (by omega)).trans hk1
      refine wpIn_mono (hbody _ k _ hkN (put k W _ hi hl1 _)) ?_
      rintro e a3 W3 hp
      cases e with
      | normal =>
        obtain ⟨q1, q2, q3⟩ := hp
        have e3 := q1.same _ _ e2 rfl
        have k3 := q1.same _ _ k2 rfl
        have hr := run_endRound (P := P) none e3
        refine ⟨_, _, hr, rfl, ⟨put (k + 1) W3 _ q3 e3 _, ?_, (World.putObj_heap_other (by omega)).trans k3⟩, hKt _ _ _ (hKt _ _ _ (hKb _ _ _ _ hl1 rfl) q2) (hKb _ _ _ _ e3 rfl)⟩
        rw [World.putObj_heap_same (Array.getElem?_eq_some_iff.1 e3).1, hL]
        rfl
      | ret => exact hp.elim
      | exit id => exact hp.elim
      | goto t => exact hp.elim
      | panic ch => exact hp.elim
      | outgrown => exact hp.elim
    · rintro e W2 ⟨⟨v, rfl⟩, hi, hl2, hk2⟩
      have hr := run_endLoop (P := P) hl2 (by rw [hL]; simp)
      exact ⟨none, _, by rw [hL] at hr; exact hr, hdone _ _ (Nat.le_refl _) (put N W2 _ hi hl2 _) ((World.putObj_heap_other (by omega)).trans hk2)⟩

end

end Go.Proofs.YtjnpndfpajjihabGreat
