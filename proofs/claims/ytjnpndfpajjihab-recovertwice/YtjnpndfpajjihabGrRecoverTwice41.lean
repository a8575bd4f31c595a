/-
  slices.Backward over copies: the walk of the call, and the word of the iterator that it hands back.
  A range over a function whose rounds are counted, of which a round may change maps too. Nothing of the program is proved here.
-/
import Derived.Test.YtjnpndfpajjihabERange
import Derived.Test.YtjnpndfpajjihabGrRecoverTwice17
namespace Go.Proofs.Ytjnpndfpajjihab
open Go.RowKit Go.Shelf

attribute [local go_sem] Oper.semAt_some

/-- Two blocks of cells are kept. -/
def KeepsR (Bs Bn : Nat) (W W' : World) : Prop := ∀ k, (k = Bs ∨ k = Bn) → ∀ o, W.heap[k]? = some o → o.isCells = true → W'.heap[k]? = some o
theorem KeepsR.refl (Bs Bn : Nat) (W : World) : KeepsR Bs Bn W W := fun _ _ _ h _ => h
theorem KeepsR.trans {Bs Bn : Nat} (A B C : World) (h : KeepsR Bs Bn A B) (k : KeepsR Bs Bn B C) : KeepsR Bs Bn A C := fun j hj o ho hc => k j hj o (h j hj o ho hc) hc
theorem KeepsR.put {Bs Bn : Nat} (W : World) (r : Nat) (o o' : Obj) (hr : W.heap[r]? = some o) (ho : o.isCells = false) : KeepsR Bs Bn W (W.putObj r o') := by
  intro k _ x hx hc
  by_cases e : k = r
  · subst e
    rw [hr] at hx
    cases hx
    rw [ho] at hc
    cases hc
  · exact (World.putObj_heap_other e).trans hx
theorem cell_heap {W W' : World} {b : Nat} (h : W'.heap[b]? = W.heap[b]?) (o : Nat) : W'.cell? ⟨b, o, none⟩ = W.cell? ⟨b, o, none⟩ := by
  simp only [World.cell?, h]
theorem cell_obj {W : World} {b o : Nat} {v : Value} (h : W.cell? ⟨b, o, none⟩ = some v) : ∃ x, W.heap[b]? = some x ∧ x.isCells = true := by
  unfold World.cell? at h
  split at h
  · rename_i c t f hx
    exact ⟨_, hx, rfl⟩
  · cases h
theorem KeepsR.cell {Bs Bn : Nat} {W W' : World} (h : KeepsR Bs Bn W W') {B : Nat} (hB : B = Bs ∨ B = Bn) {o : Nat} {v : Value} (hc : W.cell? ⟨B, o, none⟩ = some v) : W'.cell? ⟨B, o, none⟩ = some v := by
  obtain ⟨x, h1, h2⟩ := cell_obj hc
  exact (cell_heap ((h B hB x h1 h2).trans h1.symm) o).trans hc

set_option maxHeartbeats 400000 in
theorem backC_in (F : Fence) (n : Nat) (hF : F.fn 157) (hro : F.round = none) (a : Option Addr) (len cap : Nat) (w : World) :
    CallsIn F n Try.prog 157 #[.slice a len cap] w fun e w' => e = .returned (.func (.func 182) #[] #[.pointer (some ⟨w.heap.size, 0, none⟩)]) ∧ w' = w.alloc (.cells #[.slice a len cap] 35) := by
  refine callsIn_of_wp Try.func157 rfl hF ?_ hro
  simp only [Try.ntmps157, List.size_toArray, List.length_cons, List.length_nil, Nat.reduceAdd, Nat.reduceSub, Array.replicate_succ, Array.replicate_zero, List.push_toArray, List.append_toArray, List.nil_append, List.cons_append]
  gi_wp2
  go_ret
  exact ⟨rfl, rfl⟩

set_option maxHeartbeats 4000000 in
set_option maxRecDepth 100000 in
theorem backC_walk (F : Fence) (n : Nat) (hF : F.fn 182) (hro : F.round = none) (hn : 1 ≤ n) (l Bs b off cap : Nat) (m : List (Int × ByteArray)) (hlen : m.length ≤ maxLen) (J : Nat → World → Prop)
    (hY : ∀ k V, k < m.length → J k V → YieldAt F (n - 1) Try.prog l #[.int .i64 ((m.length - 1 - k : Nat) : Int), .agg #[.int .i64 (m.getD (m.length - 1 - k) (0, ByteArray.empty)).1, .string (m.getD (m.length - 1 - k) (0, ByteArray.empty)).2]] V fun e V' => e = .returned (.bool true) ∧ J (k + 1) V' ∧ KeepsR Bs b V V')
    (W : World) (hBs : W.cell? ⟨Bs, 0, none⟩ = some (.slice (some ⟨b, off, none⟩) m.length cap)) (hrow : ∀ i, i < m.length → W.cell? ⟨b, off + i * 2, none⟩ = some (.int .i64 (m.getD i (0, ByteArray.empty)).1) ∧ W.cell? ⟨b, off + i * 2 + 1, none⟩ = some (.string (m.getD i (0, ByteArray.empty)).2)) (h0 : J 0 W) :
    CallsIn F n Try.prog 182 #[.func (.yield l) #[] #[], .pointer (some ⟨Bs, 0, none⟩)] W fun e W' => (∃ v, e = .returned v) ∧ J m.length W' := by
  unfold maxLen at hlen
  refine callsIn_of_wp Try.func182 rfl hF ?_ hro
  simp only [Try.ntmps182, List.size_toArray, List.length_cons, List.length_nil, Nat.reduceAdd, Nat.reduceSub, Array.replicate_succ, Array.replicate_zero, List.push_toArray, List.append_toArray, List.nil_append, List.cons_append]
  gi_wp2
  gi_loopw [3] (fun i wr => ∃ k : Nat, k ≤ m.length ∧ i = .int .i64 ((m.length : Int) - 1 - (k : Int)) ∧ J k wr ∧ KeepsR Bs b W wr) (fun i _ => (intOf i + 1).toNat)
  case atStart => exact ⟨0, Nat.zero_le _, by go_num, h0, KeepsR.refl _ _ _⟩
  case round =>
    obtain ⟨k, hk, rfl, hJs, hKr⟩ := hrel
    have c1 := hKr.cell (.inl rfl) hBs
    by_cases hlt : k < m.length
    · obtain ⟨j, hj⟩ : ∃ j, j = m.length - 1 - k := ⟨_, rfl⟩
      have hjI : (m.length : Int) - 1 - (k : Int) = (j : Int) := by omega
      obtain ⟨r1, r2⟩ := hrow j (by omega)
      have d1 := hKr.cell (.inr rfl) r1
      have d2 := hKr.cell (.inr rfl) r2
      obtain ⟨fn, tmps, assign, body, hy, hR⟩ := hY k wr hlt hJs
      rw [← hj] at hy
      obtain ⟨x, hx⟩ : ∃ x, x = m.getD j (0, ByteArray.empty) := ⟨_, rfl⟩
      rw [← hx] at d1 d2 hy
      rw [hjI]
      have hj0 : (0 : Int) ≤ (j : Int) := by omega
      have hjl : j < m.length := by omega
      have HJ := hide hj
      clear r1 r2 hx hj hjI
      gi_wp2
      refine hR.mono ?_
      rintro e W3 ⟨rfl, hJ3, hk3⟩
      have c3 := KeepsR.trans _ _ _ hKr hk3
      have d3 := c3.cell (.inl rfl) hBs
      clear hR hy d1 d2
      gi_wp2
      go_roundw
      case rel => exact ⟨k + 1, by omega, by have := HJ.out; go_num, hJ3, c3⟩
      case measure => have := HJ.out; first | (simp [intOf]; omega) | simp [intOf]
    · have e : k = m.length := by omega
      subst e
      have hneg : ¬ ((0 : Int) ≤ (m.length : Int) - 1 - (m.length : Int)) := by omega
      gi_wp2
      go_end0
      exact ⟨⟨_, rfl⟩, hJs⟩

set_option maxHeartbeats 1000000 in
set_option maxRecDepth 100000 in
theorem backC_zero (F : Fence) (n : Nat) (hF : F.fn 182) (hro : F.round = none) (l Bs cap : Nat) (a : Option Addr) (J : Nat → World → Prop) (W : World) (hBs : W.cell? ⟨Bs, 0, none⟩ = some (.slice a 0 cap)) (h0 : J 0 W) :
    CallsIn F n Try.prog 182 #[.func (.yield l) #[] #[], .pointer (some ⟨Bs, 0, none⟩)] W fun e W' => (∃ v, e = .returned v) ∧ J 0 W' := by
  refine callsIn_of_wp Try.func182 rfl hF ?_ hro
  simp only [Try.ntmps182, List.size_toArray, List.length_cons, List.length_nil, Nat.reduceAdd, Nat.reduceSub, Array.replicate_succ, Array.replicate_zero, List.push_toArray, List.append_toArray, List.nil_append, List.cons_append]
  gi_wp2
  gi_loopw [3] (fun i wr => i = .int .i64 (-1) ∧ J 0 wr ∧ wr = W) (fun _ _ => 0)
  case atStart => exact ⟨by go_num, h0, rfl⟩
  case round =>
    obtain ⟨rfl, hJs, rfl⟩ := hrel
    gi_wp2
    go_end0
    exact ⟨⟨_, rfl⟩, hJs⟩

/-- The copies that come, one behind another. -/
def backV (m : List (Int × ByteArray)) (k : Nat) : Array Value := #[.int .i64 ((m.length - 1 - k : Nat) : Int), .agg #[.int .i64 (m.getD (m.length - 1 - k) (0, ByteArray.empty)).1, .string (m.getD (m.length - 1 - k) (0, ByteArray.empty)).2]]
def blkOf (a : Option Addr) : Nat := match a with | some x => x.block | none => 0
theorem backC_counts (F : Fence) (n : Nat) (hF : F.fn 182) (hro : F.round = none) (hn : 1 ≤ n) (Bs cap : Nat) (a : Option Addr) (m : List (Int × ByteArray)) (hlen : m.length ≤ maxLen) (w : World) (hlt : Bs < w.heap.size) (hBs : w.cell? ⟨Bs, 0, none⟩ = some (.slice a m.length cap)) (hm : SegW w a m) :
    CountsTo F n Try.prog 182 #[.pointer (some ⟨Bs, 0, none⟩)] (backV m) m.length (KeepsR Bs (blkOf a)) w := by
  intro l J W hW hd hY h0
  rcases hm with rfl | ⟨b, off, rfl, hb, hc⟩
  · exact backC_zero F n hF hro l Bs cap a J W (cellKeep hW hlt hBs) h0
  · exact backC_walk F n hF hro hn l Bs b off cap m hlen J hY W (cellKeep hW hlt hBs) (fun i hi => ⟨cellKeep hW hb (hc i hi).1, cellKeep hW hb (hc i hi).2⟩) h0

end Go.Proofs.Ytjnpndfpajjihab

namespace Go.Proofs.Ytjnpndfpajjihab
open Go.RowKit

section
variable {F : Fence} {n : Nat} {P : Program}

/-- How a round's body ends: it goes on; the loop's own two blocks are kept. -/
def GoesOnM (base : Nat) (Kp : World → World → Prop) (I : World → Prop) (W : World) : Exit → Act → World → Prop
  | .normal, _, W' => (W'.heap[base]? = W.heap[base]? ∧ W'.heap[base + 1]? = W.heap[base + 1]?) ∧ Kp W W' ∧ I W'
  | _, _, _ => False

/-- The statement itself. -/
theorem range_maps {g : Operand} {ps : Array Tmp} {assign body : Code} {Q : Exit → Act → World → Prop} {a : Act} {w w0 : World} {gf : Nat} {lb : Array Value} {vals : Nat → Array Value} {N : Nat} {Kp : World → World → Prop}
    (hro : F.round = none) (h1 : 1 ≤ n) (hg : a.eval g = .func (.func gf) #[] lb) (hF : F.fn gf) (eg : ∀ args w, (callFunc gf args).run P w = .ok (.enter gf args) w)
    (hc : CountsTo F (n - 1) P gf lb vals N Kp w0) (hb0 : Below w0.heap.size w0 w) (hKt : ∀ A B C : World, Kp A B → Kp B C → Kp A C)
    (hKb : ∀ (W : World) (r : Nat) (o o' : Obj), W.heap[r]? = some o → o.isCells = false → Kp W (W.putObj r o')) (hps : ∀ k, (vals k).size = ps.size)
    (I : Nat → World → Prop) (hI : ∀ k (A B : World) (row : Option Nat), I k A → A.grownBy B row → (∀ r, row = some r → w.heap.size ≤ r ∧ ∃ o : Obj, A.heap[r]? = some o ∧ o.isCells = false) → I k B) (hd : ∀ k V, I k V → I k V.drew) (h0 : I 0 w) (J : Nat → Act → World → Prop)
    (hJ : ∀ k a' (A B : World) (row : Option Nat), J k a' A → A.grownBy B row → (∀ r, row = some r → w.heap.size ≤ r ∧ ∃ o : Obj, A.heap[r]? = some o ∧ o.isCells = false) → J k a' B)
    (hassign : ∀ (l k : Nat) (W : World) (K : Act → World → Prop), k < N → I k W → w.heap.size + 1 < W.heap.size → (∀ a' V, V.heap[w.heap.size]? = W.heap[w.heap.size]? → V.heap[w.heap.size + 1]? = W.heap[w.heap.size + 1]? → Kp W V → J k a' V → K a' V) →
      assign.wpIn (F.inRound l) (n - 1 - 1) P (Exit.then K (fun _ _ _ => False)) { tmps := (ps.zip (vals k)).foldl (fun t (p, v) => t.setIfInBounds p v) a.tmps, defers := [] } W)
    (hbody : ∀ (l k : Nat) (a' : Act) (W : World), k < N → J k a' W → w.heap.size + 1 < W.heap.size → body.wpIn (F.inRound l) (n - 1 - 1) P (GoesOnM w.heap.size Kp (I (k + 1)) W) a' W)
    (hdone : ∀ (D : Nat) (W : World), w.heap.size ≤ D → I N W → W.heap[D]? = some (.deferred (some [])) → Q .normal { a with defers := { target := .collected D, args := #[] } :: a.defers } W) :
    (Code.rangeFunc g ps assign body).wpIn F n P Q a w := by
  refine wpIn_rangeFunc fun fn hfn => ?_
  rw [hro]
  obtain ⟨L, hL⟩ : ∃ L : LoopState → Loop, L = fun st => { state := st, pending := none, fn, tmps := a.tmps, params := ps, assign, body, defers := w.heap.size } := ⟨_, rfl⟩
  obtain ⟨V, hV⟩ : ∃ V, V = (w.alloc (.deferred (some []))).alloc (.loop (L .ready)) := ⟨_, rfl⟩
  have hz : V.heap.size = w.heap.size + 1 + 1 := by rw [hV]; simp
  have hbV : Below w.heap.size w V := by rw [hV]; exact ((Below.refl _ _).alloc (Nat.le_refl _) _).alloc (by simp) _
  have hl : V.heap[w.heap.size + 1]? = some (.loop (L .ready)) := by
    rw [hV]; have := World.alloc_heap_new (w.alloc (.deferred (some []))) (.loop (L .ready)); rwa [World.size_alloc] at this
  have hk : V.heap[w.heap.size]? = some (.deferred (some [])) := by
    rw [hV]; exact (Below.heap_alloc _ _ _ (by simp)).trans (World.alloc_heap_new w _)
  have hIV : I 0 V := by
    rw [hV]
    exact hI 0 _ _ none (hI 0 _ _ none h0 (World.grownBy_alloc _ _ none) (fun r e => by cases e)) (World.grownBy_alloc _ _ none) (fun r e => by cases e)
  have put : ∀ k A st, I k A → A.heap[w.heap.size + 1]? = some (.loop (L st)) → ∀ o', I k (A.putObj (w.heap.size + 1) o') := fun k A st hi hA o' =>
    hI k _ _ _ hi (grownBy_putObj' A (w.heap.size + 1) o') (fun r e => by cases e; exact ⟨by omega, _, hA, rfl⟩)
  refine ⟨w.heap.size + 1, [{ target := .collected w.heap.size, args := #[] }], V, { target := .fn (.func gf) lb, args := #[.func (.yield (w.heap.size + 1)) #[] #[]] }, V, gf, #[.func (.yield (w.heap.size + 1)) #[] #[]] ++ lb, V, ?_, ?_, ?_, ?_, fun _ => h1, ?_⟩
  · rw [hV, hL]; exact run_enterLoop_outer _ _ _ _ _
  · simp only [resolve, hg]; simp [go_sem]
  · intro f' hf'; simp [Target.leads] at hf'; subst hf'; exact hF
  · simp [invoke, go_sem, eg]
  · refine (hc (w.heap.size + 1) (fun k W => I k W ∧ W.heap[w.heap.size + 1]? = some (.loop (L .ready)) ∧ W.heap[w.heap.size]? = some (.deferred (some []))) V (hb0.trans (hbV.mono hb0.size)) (fun k W h => ⟨hd k W h.1, h.2.1, h.2.2⟩) ?_ ⟨hIV, hl, hk⟩).mono ?_
    · rintro k W hkN ⟨hi, hl1, hk1⟩
      have hy := run_yield (P := P) (args := vals k) hl1 (by rw [hL]; exact hps k)
      rw [hL] at hy
      refine ⟨fn, _, assign, body, hy, roundIn_of_wpIn hfn (hassign _ k W _ hkN hi (Array.getElem?_eq_some_iff.1 hl1).1 fun a' V v1 v2 hKV hj => ?_)⟩
      have hlv : V.heap[w.heap.size + 1]? = some (.loop (L .ready)) := v2.trans hl1
      have hkv : V.heap[w.heap.size]? = some (.deferred (some [])) := v1.trans hk1
      have hlt := (Array.getElem?_eq_some_iff.1 hlv).1
      refine ⟨_, run_beginRound hlv (by rw [hL]), ?_⟩
      have e2 : (V.putObj (w.heap.size + 1) (.loop { L .ready with state := .busy })).heap[w.heap.size + 1]? = some (.loop (L .busy)) := by rw [hL]; exact World.putObj_heap_same hlt
      have k2 : (V.putObj (w.heap.size + 1) (.loop { L .ready with state := .busy })).heap[w.heap.size]? = some (.deferred (some [])) := (World.putObj_heap_other (by omega)).trans hkv
      refine wpIn_mono (hbody _ k a' _ hkN (hJ k a' _ _ _ hj (grownBy_putObj' V (w.heap.size + 1) _) (fun r e => by cases e; exact ⟨by omega, _, hlv, rfl⟩)) (Array.getElem?_eq_some_iff.1 e2).1) ?_
      rintro e a3 W3 hp
      cases e with
      | normal =>
        obtain ⟨q1, q2, q3⟩ := hp
        have e3 := q1.2.trans e2
        have k3 := q1.1.trans k2
        have hr := run_endRound (P := P) none e3
        refine ⟨_, _, hr, rfl, ⟨put (k + 1) W3 _ q3 e3 _, ?_, (World.putObj_heap_other (by omega)).trans k3⟩, hKt _ _ _ (hKt _ _ _ hKV (hKt _ _ _ (hKb _ _ _ _ hlv rfl) q2)) (hKb _ _ _ _ e3 rfl)⟩
        rw [World.putObj_heap_same (Array.getElem?_eq_some_iff.1 e3).1, hL]
        rfl
      | ret => exact hp.elim
      | exit id => exact hp.elim
      | goto t => exact hp.elim
      | panic ch => exact hp.elim
      | outgrown => exact hp.elim
    · rintro e W2 ⟨⟨v, rfl⟩, hi, hl2, hk2⟩
      have hr := run_endLoop (P := P) hl2 (by rw [hL]; simp)
      exact ⟨none, _, by rw [hL] at hr; exact hr, hdone _ _ (Nat.le_refl _) (put N W2 _ hi hl2 _) ((World.putObj_heap_other (by omega)).trans hk2)⟩

end

end Go.Proofs.Ytjnpndfpajjihab
