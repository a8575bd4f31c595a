/-
  A range over a function whose rounds are counted: what is handed to each round is known by its number, and no round leaves early. Nothing of the program is proved here.
-/
import Derived.RangeFuncNested
import Derived.RangeFuncBound
import Derived.RangeFuncCalls
import Derived.RangeFuncLeaves
import Derived.Shelf.Abstract
import Derived.Shelf.RegionOpen
import Derived.WalkKit
import Derived.OwnWalkIn
import Derived.TacticsInMore
import Derived.LoopNIn
import Derived.LoopIn
import Derived.Test.YtjnpndfpajjihabGreatBase
namespace Go.Proofs.YtjnpndfpajjihabGreat
open Go.RowKit

/-- An iterator's word: it calls its loop's rounds 0, 1, .. one behind another, each with the values of its number, and then returns. -/
def CountsTo (F : Fence) (n : Nat) (P : Program) (g : Nat) (lb : Array Value) (vals : Nat → Array Value) (N : Nat) (Kp : World → World → Prop) (w : World) : Prop :=
  ∀ (l : Nat) (J : Nat → World → Prop) (W : World), Below w.heap.size w W → (∀ k V, J k V → J k V.drew) →
    (∀ k V, k < N → J k V → YieldAt F (n - 1) P l (vals k) V fun e V' => e = .returned (.bool true) ∧ J (k + 1) V' ∧ Kp V V') →
    J 0 W → CallsIn F n P g (#[.func (.yield l) #[] #[]] ++ lb) W fun e W' => (∃ v, e = .returned v) ∧ J N W'

section
variable {F : Fence} {n : Nat} {P : Program}

/-- How a round's body ends: it goes on. -/
def GoesOn (Kp : World → World → Prop) (I : World → Prop) (W : World) : Exit → Act → World → Prop
  | .normal, _, W' => KeepsOthers W W' ∧ Kp W W' ∧ I W'
  | _, _, _ => False

/-- The statement itself. -/
theorem range_counted {g : Operand} {ps : Array Tmp} {assign body : Code} {Q : Exit → Act → World → Prop} {a : Act} {w w0 : World} {gf : Nat} {lb : Array Value} {vals : Nat → Array Value} {N : Nat} {Kp : World → World → Prop}
    (hro : F.round = none) (h1 : 1 ≤ n) (hg : a.eval g = .func (.func gf) #[] lb) (hF : F.fn gf) (eg : ∀ args w, (callFunc gf args).run P w = .ok (.enter gf args) w)
    (hc : CountsTo F (n - 1) P gf lb vals N Kp w0) (hb0 : Below w0.heap.size w0 w) (hKt : ∀ A B C : World, Kp A B → Kp B C → Kp A C)
    (hKb : ∀ (W : World) (r : Nat) (o o' : Obj), W.heap[r]? = some o → o.isCells = false → Kp W (W.putObj r o')) (hps : ∀ k, (vals k).size = ps.size)
    (I : Nat → World → Prop) (hI : ∀ k (A B : World) (row : Option Nat), I k A → A.grownBy B row → (∀ r, row = some r → w.heap.size ≤ r ∧ ∃ o : Obj, A.heap[r]? = some o ∧ o.isCells = false) → I k B) (hd : ∀ k V, I k V → I k V.drew) (h0 : I 0 w) (a₁ : Nat → Act)
    (hassign : ∀ (l k : Nat) (W : World) (K : Act → World → Prop), K (a₁ k) W →
      assign.wpIn (F.inRound l) (n - 1 - 1) P (Exit.then K (fun _ _ _ => False)) { tmps := (ps.zip (vals k)).foldl (fun t (p, v) => t.setIfInBounds p v) a.tmps, defers := [] } W)
    (hbody : ∀ (l k : Nat) (W : World), k < N → I k W → body.wpIn (F.inRound l) (n - 1 - 1) P (GoesOn Kp (I (k + 1)) W) (a₁ k) W)
    (hdone : ∀ (D : Nat) (W : World), w.heap.size ≤ D → I N W → W.heap[D]? = some (.deferred (some [])) → Q .normal { a with defers := { target := .collected D, args := #[] } :: a.defers } W) :
    (Code.rangeFunc g ps assign body).wpIn F n P Q a w := by
  refine wpIn_rangeFunc fun fn hfn => ?_
  rw [hro]
  obtain ⟨L, hL⟩ : ∃ L : LoopState → Loop, L = fun st => { state := st, pending := none, fn, tmps := a.tmps, params := ps, assign, body, defers := w.heap.size } := ⟨_, rfl⟩
  obtain ⟨V, hV⟩ : ∃ V, V = (w.alloc (.deferred (some []))).alloc (.loop (L .ready)) := ⟨_, rfl⟩
  have hz : V.heap.size = w.heap.size + 1 + 1 := by rw [hV]; simp
  have hbV : Below w.heap.size w V := by rw [hV]; exact ((Below.refl _ _).alloc (Nat.le_refl _) _).alloc (by simp) _
  have hl : V.heap[w.heap.size + 1]? = some (.loop (L .ready)) := by
    rw [hV]; have := World.alloc_heap_new (w.alloc (.deferred (some []))) (.loop (L .ready)); rwa [World.size_alloc] at this
  have hk : V.heap[w.heap.size]? = some (.deferred (some [])) := by
    rw [hV]; exact (Below.heap_alloc _ _ _ (by simp)).trans (World.alloc_heap_new w _)
  have hIV : I 0 V := by
    rw [hV]
    exact hI 0 _ _ none (hI 0 _ _ none h0 (World.grownBy_alloc _ _ none) (fun r e => by cases e)) (World.grownBy_alloc _ _ none) (fun r e => by cases e)
  have put : ∀ k A st, I k A → A.heap[w.heap.size + 1]? = some (.loop (L st)) → ∀ o', I k (A.putObj (w.heap.size + 1) o') := fun k A st hi hA o' =>
    hI k _ _ _ hi (grownBy_putObj' A (w.heap.size + 1) o') (fun r e => by cases e; exact ⟨by omega, _, hA, rfl⟩)
  refine ⟨w.heap.size + 1, [{ target := .collected w.heap.size, args := #[] }], V, { target := .fn (.func gf) lb, args := #[.func (.yield (w.heap.size + 1)) #[] #[]] }, V, gf, #[.func (.yield (w.heap.size + 1)) #[] #[]] ++ lb, V, ?_, ?_, ?_, ?_, fun _ => h1, ?_⟩
  · rw [hV, hL]; exact run_enterLoop_outer _ _ _ _ _
  · simp only [resolve, hg]; simp [go_sem]
  · intro f' hf'; simp [Target.leads] at hf'; subst hf'; exact hF
  · simp [invoke, go_sem, eg]
  · refine (hc (w.heap.size + 1) (fun k W => I k W ∧ W.heap[w.heap.size + 1]? = some (.loop (L .ready)) ∧ W.heap[w.heap.size]? = some (.deferred (some []))) V (hb0.trans (hbV.mono hb0.size)) (fun k W h => ⟨hd k W h.1, h.2.1, h.2.2⟩) ?_ ⟨hIV, hl, hk⟩).mono ?_
    · rintro k W hkN ⟨hi, hl1, hk1⟩
      have hlt := (Array.getElem?_eq_some_iff.1 hl1).1
      have hy := run_yield (P := P) (args := vals k) hl1 (by rw [hL]; exact hps k)
      rw [hL] at hy
      refine ⟨fn, _, assign, body, hy, roundIn_of_wpIn hfn (hassign _ k W _ ⟨_, run_beginRound hl1 (by rw [hL]), ?_⟩)⟩
      have e2 : (W.putObj (w.heap.size + 1) (.loop { L .ready with state := .busy })).heap[w.heap.size + 1]? = some (.loop (L .busy)) := by rw [hL]; exact World.putObj_heap_same hlt
      have k2 : (W.putObj (w.heap.size + 1) (.loop { L .ready with state := .busy })).heap[w.heap.size]? = some (.deferred (some [])) := (World.putObj_heap_other (by omega)).trans hk1
      refine wpIn_mono (hbody _ k _ hkN (put k W _ hi hl1 _)) ?_
      rintro e a3 W3 hp
      cases e with
      | normal =>
        obtain ⟨q1, q2, q3⟩ := hp
        have e3 := q1.same _ _ e2 rfl
        have k3 := q1.same _ _ k2 rfl
        have hr := run_endRound (P := P) none e3
        refine ⟨_, _, hr, rfl, ⟨put (k + 1) W3 _ q3 e3 _, ?_, (World.putObj_heap_other (by omega)).trans k3⟩, hKt _ _ _ (hKt _ _ _ (hKb _ _ _ _ hl1 rfl) q2) (hKb _ _ _ _ e3 rfl)⟩
        rw [World.putObj_heap_same (Array.getElem?_eq_some_iff.1 e3).1, hL]
        rfl
      | ret => exact hp.elim
      | exit id => exact hp.elim
      | goto t => exact hp.elim
      | panic ch => exact hp.elim
      | outgrown => exact hp.elim
    · rintro e W2 ⟨⟨v, rfl⟩, hi, hl2, hk2⟩
      have hr := run_endLoop (P := P) hl2 (by rw [hL]; simp)
      exact ⟨none, _, by rw [hL] at hr; exact hr, hdone _ _ (Nat.le_refl _) (put N W2 _ hi hl2 _) ((World.putObj_heap_other (by omega)).trans hk2)⟩

end

end Go.Proofs.YtjnpndfpajjihabGreat
