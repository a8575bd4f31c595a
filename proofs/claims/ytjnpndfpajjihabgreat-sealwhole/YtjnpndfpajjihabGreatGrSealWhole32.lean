/-
  slices.Backward over copies: the walk of the call, and the word of the iterator that it hands back.
  A range over a function whose rounds are counted, of which a round may change maps too. Nothing of the program is proved here.
  The walk of package scan's newestCopies.
  The walk of package scan's Replay: what it answers is the newest copies.
  The walk of slices.Sort at a row of numbers of the call's own, and of package txn's apart.
-/
import Derived.Test.YtjnpndfpajjihabGreatGrSealWhole31
import Derived.Test.YtjnpndfpajjihabGreatGrSealWhole15
import Derived.Test.YtjnpndfpajjihabGreatGrSealWhole17
import Derived.Test.YtjnpndfpajjihabGreatGrSealWhole29
import Derived.Test.YtjnpndfpajjihabGreatGrSealWhole18
import Derived.Test.YtjnpndfpajjihabGreatShelf
import Derived.Sort.OwnSortedInts
namespace Go.Proofs.YtjnpndfpajjihabGreat
open Go.RowKit Go.Shelf

attribute [local go_sem] Oper.semAt_some

/-- Two blocks of cells are kept. -/
def KeepsR (Bs Bn : Nat) (W W' : World) : Prop := ∀ k, (k = Bs ∨ k = Bn) → ∀ o, W.heap[k]? = some o → o.isCells = true → W'.heap[k]? = some o
theorem KeepsR.refl (Bs Bn : Nat) (W : World) : KeepsR Bs Bn W W := fun _ _ _ h _ => h
theorem KeepsR.trans {Bs Bn : Nat} (A B C : World) (h : KeepsR Bs Bn A B) (k : KeepsR Bs Bn B C) : KeepsR Bs Bn A C := fun j hj o ho hc => k j hj o (h j hj o ho hc) hc
theorem KeepsR.put {Bs Bn : Nat} (W : World) (r : Nat) (o o' : Obj) (hr : W.heap[r]? = some o) (ho : o.isCells = false) : KeepsR Bs Bn W (W.putObj r o') := by
  intro k _ x hx hc
  by_cases e : k = r
  · subst e
    rw [hr] at hx
    cases hx
    rw [ho] at hc
    cases hc
  · exact (World.putObj_heap_other e).trans hx
theorem cell_heap {W W' : World} {b : Nat} (h : W'.heap[b]? = W.heap[b]?) (o : Nat) : W'.cell? ⟨b, o, none⟩ = W.cell? ⟨b, o, none⟩ := by
  simp only [World.cell?, h]
theorem cell_obj {W : World} {b o : Nat} {v : Value} (h : W.cell? ⟨b, o, none⟩ = some v) : ∃ x, W.heap[b]? = some x ∧ x.isCells = true := by
  unfold World.cell? at h
  split at h
  · rename_i c t f hx
    exact ⟨_, hx, rfl⟩
  · cases h
theorem KeepsR.cell {Bs Bn : Nat} {W W' : World} (h : KeepsR Bs Bn W W') {B : Nat} (hB : B = Bs ∨ B = Bn) {o : Nat} {v : Value} (hc : W.cell? ⟨B, o, none⟩ = some v) : W'.cell? ⟨B, o, none⟩ = some v := by
  obtain ⟨x, h1, h2⟩ := cell_obj hc
  exact (cell_heap ((h B hB x h1 h2).trans h1.symm) o).trans hc

/-- The copies that come, one behind another. -/
def backV (m : List (Int × ByteArray)) (k : Nat) : Array Value := #[.int .i64 ((m.length - 1 - k : Nat) : Int), .agg #[.int .i64 (m.getD (m.length - 1 - k) (0, ByteArray.empty)).1, .string (m.getD (m.length - 1 - k) (0, ByteArray.empty)).2]]
def blkOf (a : Option Addr) : Nat := match a with | some x => x.block | none => 0
end Go.Proofs.YtjnpndfpajjihabGreat

namespace Go.Proofs.YtjnpndfpajjihabGreat
open Go.RowKit

section
variable {F : Fence} {n : Nat} {P : Program}

/-- How a round's body ends: it goes on; the loop's own two blocks are kept. -/
def GoesOnM (base : Nat) (Kp : World → World → Prop) (I : World → Prop) (W : World) : Exit → Act → World → Prop
  | .normal, _, W' => (W'.heap[base]? = W.heap[base]? ∧ W'.heap[base + 1]? = W.heap[base + 1]?) ∧ Kp W W' ∧ I W'
  | _, _, _ => False

/-- The statement itself. -/
theorem range_maps {g : Operand} {ps : Array Tmp} {assign body : Code} {Q : Exit → Act → World → Prop} {a : Act} {w w0 : World} {gf : Nat} {lb : Array Value} {vals : Nat → Array Value} {N : Nat} {Kp : World → World → Prop}
    (hro : F.round = none) (h1 : 1 ≤ n) (hg : a.eval g = .func (.func gf) #[] lb) (hF : F.fn gf) (eg : ∀ args w, (callFunc gf args).run P w = .ok (.enter gf args) w)
    (hc : CountsTo F (n - 1) P gf lb vals N Kp w0) (hb0 : Below w0.heap.size w0 w) (hKt : ∀ A B C : World, Kp A B → Kp B C → Kp A C)
    (hKb : ∀ (W : World) (r : Nat) (o o' : Obj), W.heap[r]? = some o → o.isCells = false → Kp W (W.putObj r o')) (hps : ∀ k, (vals k).size = ps.size)
    (I : Nat → World → Prop) (hI : ∀ k (A B : World) (row : Option Nat), I k A → A.grownBy B row → (∀ r, row = some r → w.heap.size ≤ r ∧ ∃ o : Obj, A.heap[r]? = some o ∧ o.isCells = false) → I k B) (hd : ∀ k V, I k V → I k V.drew) (h0 : I 0 w) (J : Nat → Act → World → Prop)
    (hJ : ∀ k a' (A B : World) (row : Option Nat), J k a' A → A.grownBy B row → (∀ r, row = some r → w.heap.size ≤ r ∧ ∃ o : Obj, A.heap[r]? = some o ∧ o.isCells = false) → J k a' B)
    (hassign : ∀ (l k : Nat) (W : World) (K : Act → World → Prop), k < N → I k W → w.heap.size + 1 < W.heap.size → (∀ a' V, V.heap[w.heap.size]? = W.heap[w.heap.size]? → V.heap[w.heap.size + 1]? = W.heap[w.heap.size + 1]? → Kp W V → J k a' V → K a' V) →
      assign.wpIn (F.inRound l) (n - 1 - 1) P (Exit.then K (fun _ _ _ => False)) { tmps := (ps.zip (vals k)).foldl (fun t (p, v) => t.setIfInBounds p v) a.tmps, defers := [] } W)
    (hbody : ∀ (l k : Nat) (a' : Act) (W : World), k < N → J k a' W → w.heap.size + 1 < W.heap.size → body.wpIn (F.inRound l) (n - 1 - 1) P (GoesOnM w.heap.size Kp (I (k + 1)) W) a' W)
    (hdone : ∀ (D : Nat) (W : World), w.heap.size ≤ D → I N W → W.heap[D]? = some (.deferred (some [])) → Q .normal { a with defers := { target := .collected D, args := #[] } :: a.defers } W) :
    (Code.rangeFunc g ps assign body).wpIn F n P Q a w := by
  refine wpIn_rangeFunc fun fn hfn => ?_
  rw [hro]
  obtain ⟨L, hL⟩ : ∃ L : LoopState → Loop, L = fun st => { state := st, pending := none, fn, tmps := a.tmps, params := ps, assign, body, defers := w.heap.size } := ⟨_, rfl⟩
  obtain ⟨V, hV⟩ : ∃ V, V = (w.alloc (.deferred (some []))).alloc (.loop (L .ready)) := ⟨_, rfl⟩
  have hz : V.heap.size = w.heap.size + 1 + 1 := by rw [hV]; simp
  have hbV : Below w.heap.size w V := by rw [hV]; exact ((Below.refl _ _).alloc (Nat.le_refl _) _).alloc (by simp) _
  have hl : V.heap[w.heap.size + 1]? = some (.loop (L .ready)) := by
    rw [hV]; have := World.alloc_heap_new (w.alloc (.deferred (some []))) (.loop (L .ready)); rwa [World.size_alloc] at this
  have hk : V.heap[w.heap.size]? = some (.deferred (some [])) := by
    rw [hV]; exact (Below.heap_alloc _ _ _ (by simp)).trans (World.alloc_heap_new w _)
  have hIV : I 0 V := by
    rw [hV]
    exact hI 0 _ _ none (hI 0 _ _ none h0 (World.grownBy_alloc _ _ none) (fun r e => by cases e)) (World.grownBy_alloc _ _ none) (fun r e => by cases e)
  have put : ∀ k A st, I k A → A.heap[w.heap.size + 1]? = some (.loop (L st)) → ∀ o', I k (A.putObj (w.heap.size + 1) o') := fun k A st hi hA o' =>
    hI k _ _ _ hi (grownBy_putObj' A (w.heap.size + 1) o') (fun r e => by cases e; exact ⟨by omega, _, hA, rfl⟩)
  refine ⟨w.heap.size + 1, [{ target := .collected w.heap.size, args := #[] }], V, { target := .fn (.func gf) lb, args := #[.func (.yield (w.heap.size + 1)) #[] #[]] }, V, gf, #[.func (.yield (w.heap.size + 1)) #[] #[]] ++ lb, V, ?_, ?_, ?_, ?_, fun _ => h1, ?_⟩
  · rw [hV, hL]; exact run_enterLoop_outer _ _ _ _ _
  · simp only [resolve, hg]; simp [go_sem]
  · intro f' hf'; simp [Target.leads] at hf'; subst hf'; exact hF
  · simp [invoke, go_sem, eg]
  · refine (hc (w.heap.size + 1) (fun k W => I k W ∧ W.heap[w.heap.size + 1]? = some (.loop (L .ready)) ∧ W.heap[w.heap.size]? = some (.deferred (some []))) V (hb0.trans (hbV.mono hb0.size)) (fun k W h => ⟨hd k W h.1, h.2.1, h.2.2⟩) ?_ ⟨hIV, hl, hk⟩).mono ?_
    · rintro k W hkN ⟨hi, hl1, hk1⟩
      have hy := run_yield (P := P) (args := vals k) hl1 (by rw [hL]; exact hps k)
      rw [hL] at hy
      refine ⟨fn, _, assign, body, hy, roundIn_of_wpIn hfn (hassign _ k W _ hkN hi (Array.getElem?_eq_some_iff.1 hl1).1 fun a' V v1 v2 hKV hj => ?_)⟩
      have hlv : V.heap[w.heap.size + 1]? = some (.loop (L .ready)) := v2.trans hl1
      have hkv : V.heap[w.heap.size]? = some (.deferred (some [])) := v1.trans hk1
      have hlt := (Array.getElem?_eq_some_iff.1 hlv).1
      refine ⟨_, run_beginRound hlv (by rw [hL]), ?_⟩
      have e2 : (V.putObj (w.heap.size + 1) (.loop { L .ready with state := .busy })).heap[w.heap.size + 1]? = some (.loop (L .busy)) := by rw [hL]; exact World.putObj_heap_same hlt
      have k2 : (V.putObj (w.heap.size + 1) (.loop { L .ready with state := .busy })).heap[w.heap.size]? = some (.deferred (some [])) := (World.putObj_heap_other (by omega)).trans hkv
      refine wpIn_mono (hbody _ k a' _ hkN (hJ k a' _ _ _ hj (grownBy_putObj' V (w.heap.size + 1) _) (fun r e => by cases e; exact ⟨by omega, _, hlv, rfl⟩)) (Array.getElem?_eq_some_iff.1 e2).1) ?_
      rintro e a3 W3 hp
      cases e with
      | normal =>
        obtain ⟨q1, q2, q3⟩ := hp
        have e3 := q1.2.trans e2
        have k3 := q1.1.trans k2
        have hr := run_endRound (P := P) none e3
        refine ⟨_, _, hr, rfl, ⟨put (k + 1) W3 _ q3 e3 _, ?_, (World.putObj_heap_other (by omega)).trans k3⟩, hKt _ _ _ (hKt _ _ _ hKV (hKt _ _ _ (hKb _ _ _ _ hlv rfl) q2)) (hKb _ _ _ _ e3 rfl)⟩
        rw [World.putObj_heap_same (Array.getElem?_eq_some_iff.1 e3).1, hL]
        rfl
      | ret => exact hp.elim
      | exit id => exact hp.elim
      | goto t => exact hp.elim
      | panic ch => exact hp.elim
      | outgrown => exact hp.elim
    · rintro e W2 ⟨⟨v, rfl⟩, hi, hl2, hk2⟩
      have hr := run_endLoop (P := P) hl2 (by rw [hL]; simp)
      exact ⟨none, _, by rw [hL] at hr; exact hr, hdone _ _ (Nat.le_refl _) (put N W2 _ hi hl2 _) ((World.putObj_heap_other (by omega)).trans hk2)⟩

end

end Go.Proofs.YtjnpndfpajjihabGreat

namespace Go.Proofs.YtjnpndfpajjihabGreat
open Go.RowKit Go.Shelf

attribute [local go_sem] Oper.semAt_some

/-- The first of some copies that is of a block. -/
def firstIn (b : Int) : List (Int × ByteArray) → Option (Int × ByteArray)
  | [] => none
  | x :: r => if x.1 = b then some x else firstIn b r
/-- What the map holds behind some copies of a transaction, from the end. -/
def backF (L : Int → Int) (k : Nat) (f : Int → Option (Int × ByteArray)) (m : List (Int × ByteArray)) : Int → Option (Int × ByteArray) := fun z => match firstIn z m with
  | some c => if L z = (k : Int) then some c else f z
  | none => f z
def newCK (l : List Tx) (L : Int → Int) : Nat → Int → Option (Int × ByteArray)
  | 0 => fun _ => none
  | k + 1 => backF L k (newCK l L k) (l.getD k txz).info
theorem backF_yes {L : Int → Int} {k : Nat} {x : Int × ByteArray} (h : L x.1 = (k : Int)) (f : Int → Option (Int × ByteArray)) (r : List (Int × ByteArray)) : backF L k f (x :: r) = fun z => if z = x.1 then some (x.1, x.2) else backF L k f r z := by
  funext z
  by_cases e : z = x.1
  · subst e; simp [backF, firstIn, h]
  · have : ¬ x.1 = z := fun y => e y.symm
    simp [backF, firstIn, e, this]
theorem backF_no {L : Int → Int} {k : Nat} {x : Int × ByteArray} (h : ¬ L x.1 = (k : Int)) (f : Int → Option (Int × ByteArray)) (r : List (Int × ByteArray)) : backF L k f (x :: r) = backF L k f r := by
  funext z
  by_cases e : x.1 = z
  · subst e
    simp only [backF, firstIn, if_true]
    cases firstIn x.1 r <;> simp [h]
  · simp [backF, firstIn, e]
theorem drop_cons {α : Type} {m : List α} {j : Nat} {z : α} (h : j < m.length) : m.drop j = m.getD j z :: m.drop (j + 1) := by
  rw [List.drop_eq_getElem_cons h, List.getD, List.getElem?_eq_getElem h]
  rfl

theorem But.grownR {R base : Nat} {w A B : World} {row : Option Nat} (h : But R base w A) (hg : A.grownBy B row) (hr : ∀ r, row = some r → base ≤ r) (hs : base ≤ w.heap.size := by omega) : But R base w B :=
  h.trans (But.of_below ((Below.refl base A).grown hg (Nat.le_trans hs h.size) hr)) (Nat.le_refl _)
theorem MapC.notCells {w : World} {B n : Nat} {f : Int → Option (Int × ByteArray)} (h : MapC w B n f) {o : Obj} (ho : w.heap[B]? = some o) : o.isCells = false := by
  obtain ⟨D, ⟨es, clock, h1, _⟩, _⟩ := h
  rw [h1] at ho
  cases ho
  rfl
theorem getD_in {m : List (Int × ByteArray)} {j : Nat} (h : j < m.length) : m.getD j (0, ByteArray.empty) ∈ m := by
  rw [List.getD, List.getElem?_eq_getElem h]
  exact List.getElem_mem h
/-- The marks that ranges leave. -/
def marks (Ms : List Nat) : List Deferred := Ms.map fun r => { target := .collected r, args := #[] }
def shut (Ms : List Nat) (w : World) : World := Ms.foldl (fun w r => w.putObj r (.deferred none)) w
theorem shut_other (Ms : List Nat) (w : World) (j : Nat) (h : ∀ r ∈ Ms, r ≠ j) : (shut Ms w).heap[j]? = w.heap[j]? := by
  induction Ms generalizing w with
  | nil => rfl
  | cons r Ms ih =>
    rw [shut, List.foldl_cons]
    refine (ih _ (fun r' hr' => h r' (by simp [hr']))).trans ?_
    exact World.putObj_heap_other (Ne.symm (h r (by simp)))

theorem shut_below {base : Nat} : ∀ (Ms : List Nat) (w : World), (∀ r ∈ Ms, base ≤ r) → Ms.Nodup → (∀ r ∈ Ms, w.heap[r]? = some (.deferred (some []))) → Below base w (shut Ms w) := by
  intro Ms
  induction Ms with
  | nil => intro w _ _ _; exact Below.refl _ _
  | cons r Ms ih =>
    intro w hb hn hd
    have hn' := List.nodup_cons.1 hn
    have h1 : Below base w (w.putObj r (.deferred none)) := ⟨rfl, rfl, rfl, by simp [World.putObj], fun j hj => World.putObj_heap_other (by have := hb r (by simp); omega)⟩
    exact h1.trans (ih _ (fun q hq => hb q (by simp [hq])) hn'.2 (fun q hq => (World.putObj_heap_other (by intro e; subst e; exact hn'.1 hq)).trans (hd q (by simp [hq]))))
theorem leaves_marks {F : Fence} {n : Nat} {P : Program} {fn : Func} {tmps : Array Value} {R : Ending → World → Prop} : ∀ (Ms : List Nat) (w : World), Ms.Nodup → (∀ r ∈ Ms, w.heap[r]? = some (.deferred (some []))) → LeavesIn F n P fn tmps R [] .returning (shut Ms w) → LeavesInM F n P fn tmps R (marks Ms) .returning w := by
  intro Ms
  induction Ms with
  | nil => intro w _ _ h; exact h
  | cons r Ms ih =>
    intro w hn hd h
    have hn' := List.nodup_cons.1 hn
    refine ⟨by simp, .inl ⟨r, _, rfl, run_takeDeferred (hd r (by simp)), ih _ hn'.2 (fun q hq => ?_) h⟩⟩
    exact (World.putObj_heap_other (by intro e; subst e; exact hn'.1 hq)).trans (hd q (by simp [hq]))
end Go.Proofs.YtjnpndfpajjihabGreat

namespace Go.Proofs.YtjnpndfpajjihabGreat
open Go.RowKit

theorem firstIn_text (b : Int) (m : List (Int × ByteArray)) : firstIn b m = (textIn b m).map fun s => (b, s) := by
  induction m with
  | nil => rfl
  | cons x m ih =>
    rw [firstIn, textIn]
    by_cases e : x.1 = b
    · subst e; simp
    · rw [if_neg e, if_neg e, ih]
theorem textIn_among (b : Int) (m : List (Int × ByteArray)) : (textIn b m).isSome = amongB (blksOf m) b := by
  induction m with
  | nil => rfl
  | cons x m ih =>
    rw [textIn]
    by_cases e : x.1 = b
    · subst e; simp [blksOf, amongB]
    · rw [if_neg e, ih]
      simp [blksOf, amongB, e]
theorem newCK_none {l : List Tx} {L : Int → Int} {b : Int} : ∀ {K : Nat}, (∀ j, j < K → L b ≠ (j : Int)) → newCK l L K b = none := by
  intro K
  induction K with
  | zero => intro _; rfl
  | succ K ih =>
    intro h
    have h1 := ih fun j hj => h j (by omega)
    have h2 := h K (by omega)
    rw [newCK, backF]
    split
    · rw [if_neg h2]; exact h1
    · exact h1
theorem newCK_congr {l : List Tx} {L L' : Int → Int} {b : Int} (h : L b = L' b) (K : Nat) : newCK l L K b = newCK l L' K b := by
  induction K with
  | zero => rfl
  | succ K ih => rw [newCK, newCK, backF, backF, h, ih]
theorem newCK_newest (l : List Tx) (b : Int) : ∀ K, K ≤ l.length → newCK l (lastK l K) K b = (newestF (l.take K) b).map fun s => (b, s) := by
  intro K
  induction K with
  | zero => intro _; rfl
  | succ K ih =>
    intro hK
    have ht : l[K]? = some (l.getD K txz) := tx_at (by omega)
    have hl : lastK l (K + 1) b = if nameB (l.getD K txz) b = true then (K : Int) else lastK l K b := rfl
    rw [newestF_take ht, newCK, backF, firstIn_text, nwStep]
    generalize l.getD K txz = t at *
    have hs := textIn_among b t.info
    by_cases hn : nameB t b = true
    · rw [if_pos hn] at hl
      have h0 : newCK l (lastK l (K + 1)) K b = none := newCK_none fun j hj e => by rw [hl] at e; omega
      cases hx : textIn b t.info with
      | some s => simp [hl]
      | none =>
        rw [hx] at hs
        have hr : amongB t.rev b = true := by
          unfold nameB at hn
          rw [← hs] at hn
          simpa using hn
        simp [h0, hr]
    · rw [if_neg hn] at hl
      have h0 := (newCK_congr (l := l) hl K).trans (ih (by omega))
      unfold nameB at hn
      simp only [Bool.or_eq_true, not_or, Bool.not_eq_true] at hn
      cases hx : textIn b t.info with
      | some s => rw [hx, hn.2] at hs; cases hs
      | none => simp [h0, hn.1]
theorem newC_newest (l : List Tx) (b : Int) : newCK l (lastK l l.length) l.length b = (newestF l b).map fun s => (b, s) := by
  have := newCK_newest l b l.length (Nat.le_refl _)
  rwa [List.take_length] at this
end Go.Proofs.YtjnpndfpajjihabGreat

namespace Go.Proofs.YtjnpndfpajjihabGreat
open Go.RowKit

/-- Numbers in their order. -/
def sortN (l : List Int) : List Int := l.mergeSort fun x y => decide (x ≤ y)
theorem sortN_length (l : List Int) : (sortN l).length = l.length := by simp [sortN]
theorem sortN_mem (l : List Int) (x : Int) : x ∈ sortN l ↔ x ∈ l := by simp [sortN]
theorem sortN_up (l : List Int) : Up id (sortN l) ↔ l.Nodup := by
  have hp : (sortN l).Perm l := List.mergeSort_perm l _
  have hs : (sortN l).Pairwise (fun a b => decide (a ≤ b) = true) := List.pairwise_mergeSort (fun a b c h1 h2 => by simp at h1 h2 ⊢; omega) (fun a b => by simp; omega) l
  rw [← hp.nodup_iff]
  constructor
  · intro h
    exact List.Pairwise.imp (fun h => by simp at h; omega) h
  · intro h
    refine (hs.and h).imp ?_
    rintro a b ⟨h1, h2⟩
    simp at h1
    simp only [id]
    omega
theorem sortN_rises (l : List Int) (h : ∀ x ∈ l, 0 ≤ x ∧ x ≤ 11) : rises (sortN l) = decide l.Nodup := by
  rw [Bool.eq_iff_iff, rises_iff, decide_eq_true_iff, sortN_up]
  exact ⟨fun h => h.2, fun e => ⟨fun x hx => h x ((sortN_mem l x).1 hx), e⟩⟩
theorem all_rises (t : Tx) (h1 : rises (blksOf t.info) = true) (h2 : rises (blksOf t.data) = true) (h3 : rises t.rev = true) : rises (sortN (allOf t)) = decide (allOf t).Nodup := by
  refine sortN_rises _ fun x hx => ?_
  rw [rises_iff] at h1 h2 h3
  simp only [allOf, List.mem_append] at hx
  rcases hx with hx | hx | hx
  · exact h1.1 x hx
  · exact h2.1 x hx
  · exact h3.1 x hx
theorem up_length (l : List Int) (a : Int) (n : Nat) (h : ∀ x ∈ l, a ≤ x ∧ x < a + n) (hu : Up id l) : l.length ≤ n := by
  induction n generalizing a l with
  | zero =>
    cases l with
    | nil => simp
    | cons x r => have := h x (by simp); omega
  | succ n ih =>
    cases l with
    | nil => simp
    | cons x r =>
      have hr := List.pairwise_cons.1 hu
      have hx := h x (by simp)
      have := ih r (a + 1) (fun y hy => by have h1 := hr.1 y hy; have h2 := h y (by simp [hy]); simp only [id] at h1; omega) hr.2
      simp; omega
theorem rises_length {l : List Int} (h : rises l = true) : l.length ≤ 12 := by
  rw [rises_iff] at h
  exact up_length l 0 12 (fun x hx => by have := h.1 x hx; omega) h.2

theorem sortI_any (base : Nat) (v : Value) (l : List Int) (w : World) (hown : w.ownsRow base 3 1 v l.length (cellsI l)) (hn : l.length ≤ 1000) :
    Calls Tryz.prog 156 #[v] w fun e w' => e = .returned (.tuple #[]) ∧ w'.ownsRow base 3 1 v l.length (cellsI (sortN l)) ∧ ∀ W, Below base W w → base ≤ w.heap.size → Below base W w' := by
  rcases hown.2 with ⟨rfl, h0⟩ | ⟨g, cap, cur, rfl, hb, hg, hnc, hcm, hcs, hct⟩
  · have e : l = [] := List.eq_nil_of_length_eq_zero h0
    subst e
    refine (Tryz.slices_Sort_int_none none 0 w).mono ?_
    rintro e w' ⟨rfl, rfl⟩
    exact ⟨rfl, by rw [show sortN [] = [] from by simp [sortN]]; exact World.ownsRow_nil _ _ _ _, fun W h _ => h⟩
  · have hlt : g < w.heap.size := (Array.getElem?_eq_some_iff.1 hg).1
    refine (Tryz.slices_Sort_int g 0 cap l w (holds_of_blockI hg (by rw [Nat.mul_one] at hct; exact hct)) hlt (by omega)).mono ?_
    rintro e w' ⟨rfl, n, os, rfl⟩
    refine ⟨rfl, ownsRow_sortedI (ts := sortN l) (ss := l) (sortN_length l) hb hg hnc hcm hcs, fun W h hbw => ?_⟩
    exact h.grown (grownBy_sortedI _) hbw (fun k hk => by cases hk; exact hb)

set_option maxHeartbeats 1000000 in
theorem apart_any (B m c : Nat) (L : List (Option Addr × Nat × List Int)) (w : World) (hm : L.length = m) (hm2 : m ≤ 1000) (h : SegLI w B L) (hn : (flatI L).length ≤ 1000) :
    Calls Tryz.prog 128 #[.slice (some ⟨B, 0, none⟩) m c] w fun e w' => e = .returned (.bool (rises (sortN (flatI L)))) ∧ Below w.heap.size w w' := by
  go_enter Tryz.func128, Tryz.ntmps128
  go_wp2_with fail
  refine (concatI_any B m c L w hm hm2 h hn).mono ?_
  rintro e w1 ⟨v1, rfl, hown1, hb1⟩
  have HO1 := hide hown1
  have HB1 := hide hb1
  clear hown1 hb1 h
  go_wp2_with fail
  refine (sortI_any w.heap.size v1 (flatI L) w1 HO1.out hn).mono ?_
  rintro e w2 ⟨rfl, hown2, hb2⟩
  have HB2 := hide (hb2 w HB1.out HB1.out.size)
  obtain ⟨a2, c2, rfl, hS, _⟩ := SegI.of_owns (l := sortN (flatI L)) (by rw [← sortN_length] at hown2; exact hown2)
  have HS := hide hS
  clear hS hown2 hb2 HO1 HB1
  go_wp2_with fail
  refine (rise_any a2 c2 (sortN (flatI L)) w2 HS.out (by rw [sortN_length]; unfold maxLen; omega)).mono ?_
  rintro e w3 ⟨rfl, rfl⟩
  go_wp2
  go_ret
  exact ⟨rfl, HB2.out⟩

end Go.Proofs.YtjnpndfpajjihabGreat
