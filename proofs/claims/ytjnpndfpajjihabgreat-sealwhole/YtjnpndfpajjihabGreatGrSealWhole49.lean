/-
  The walk of seal's Commit, whatever it answers; what it answers at the least transaction.
  The walk of a statement's own seals: package seal answers at all.
  Steps of a region that draws its order, taken one by one by number: what its guard passes over, and what yields its value under the condition. Nothing of the program is proved here.
  The calls of the statement RecoverTwice as steps of a region that draws its order.
  Small facts that the walks of RecoverTwice and SealWhole share.
-/
import Derived.Test.YtjnpndfpajjihabGreatECommit
import Derived.Test.YtjnpndfpajjihabGreatGrSealWhole0
import Derived.Deep.RegionHeld3
import Derived.Test.YtjnpndfpajjihabGreatGrSealWhole27
import Derived.Test.YtjnpndfpajjihabGreatGrSealWhole35
import Derived.Test.YtjnpndfpajjihabGreatGrSealWhole45
import Derived.Test.YtjnpndfpajjihabGreatXTwiceQ
namespace Go.Proofs.YtjnpndfpajjihabGreat
open Go.RowKit

theorem commit_cap (rh ru : Int) (t : Tx) (a0 a2 a4 : Option Addr) (a1 a3 a5 : Nat) (w : World) (hT : IsTx w (.agg #[.int .i64 t.seq, .slice a0 t.info.length a1, .slice a2 t.data.length a3, .slice a4 t.rev.length a5, .bool t.h0.on, .int .i64 t.h0.left, .bool t.h1.on, .int .i64 t.h1.left, .bool t.h2.on, .int .i64 t.h2.left]) t) (hci : t.info.length ≤ a1) (hcr : t.rev.length ≤ a5) (r1 : t.info.length * 24 ≤ 140737488355328) (r2 : t.data.length * 24 ≤ 140737488355328) :
    Calls Tryz.prog 16 #[.agg #[.int .i64 rh, .int .i64 ru], .agg #[.int .i64 t.seq, .slice a0 t.info.length a1, .slice a2 t.data.length a3, .slice a4 t.rev.length a5, .bool t.h0.on, .int .i64 t.h0.left, .bool t.h1.on, .int .i64 t.h1.left, .bool t.h2.on, .int .i64 t.h2.left]] w fun e w' => ∃ a c, e = .returned (.tuple #[.agg #[.int .i64 (sealH rh ru t), .int .i64 (sealU rh ru t)], .slice a (commitS rh ru t).length c, .int .i64 (sealE rh ru t)]) ∧ (commitS rh ru t).length ≤ c ∧ SegSt w' a (commitS rh ru t) ∧ Below w.heap.size w w' := by
  by_cases he : sealE rh ru t = 0
  · exact (commit_ok rh ru t a0 a2 a4 a1 a3 a5 w hT hci hcr he).mono fun _ _ ⟨a, c, h1, hc, _, h2, h3⟩ => ⟨a, c, h1, hc, h2, h3⟩
  · exact (commit_no rh ru _ t w hT r1 r2 he).mono fun _ _ ⟨a, c, h1, h2, h3⟩ => ⟨a, c, h1, by rw [commitS, if_neg he]; exact Nat.zero_le _, h2, h3⟩
theorem commit_any (rh ru : Int) (t : Tx) (a0 a2 a4 : Option Addr) (a1 a3 a5 : Nat) (w : World) (hT : IsTx w (.agg #[.int .i64 t.seq, .slice a0 t.info.length a1, .slice a2 t.data.length a3, .slice a4 t.rev.length a5, .bool t.h0.on, .int .i64 t.h0.left, .bool t.h1.on, .int .i64 t.h1.left, .bool t.h2.on, .int .i64 t.h2.left]) t) (hci : t.info.length ≤ a1) (hcr : t.rev.length ≤ a5) (r1 : t.info.length * 24 ≤ 140737488355328) (r2 : t.data.length * 24 ≤ 140737488355328) :
    Calls Tryz.prog 16 #[.agg #[.int .i64 rh, .int .i64 ru], .agg #[.int .i64 t.seq, .slice a0 t.info.length a1, .slice a2 t.data.length a3, .slice a4 t.rev.length a5, .bool t.h0.on, .int .i64 t.h0.left, .bool t.h1.on, .int .i64 t.h1.left, .bool t.h2.on, .int .i64 t.h2.left]] w fun e w' => ∃ a c, e = .returned (.tuple #[.agg #[.int .i64 (sealH rh ru t), .int .i64 (sealU rh ru t)], .slice a (commitS rh ru t).length c, .int .i64 (sealE rh ru t)]) ∧ SegSt w' a (commitS rh ru t) ∧ Below w.heap.size w w' := by
  exact (commit_cap rh ru t a0 a2 a4 a1 a3 a5 w hT hci hcr r1 r2).mono fun _ _ ⟨a, c, h1, _, h2, h3⟩ => ⟨a, c, h1, h2, h3⟩

def tx4 : Tx := ⟨1, [], [], [4], ⟨false, 0⟩, ⟨false, 0⟩, ⟨false, 0⟩⟩
theorem seal4 : sealE 0 0 tx4 = 0 ∧ sealH 0 0 tx4 = 2 ∧ sealU 0 0 tx4 = 2 := by decide +kernel
theorem commit4 : ∃ s1 s2, commitS 0 0 tx4 = [s1, flushS, s2, flushS] := by
  have hp : sealP 0 0 tx4 = [0, 1] := by decide +kernel
  refine ⟨writeS (1 + 0) (encT ⟨3, 1, 0, [], [4]⟩), writeS (1 + 1) (lastB tx4), ?_⟩
  rw [commitS, if_pos seal4.1, hp]
  rfl

end Go.Proofs.YtjnpndfpajjihabGreat

namespace Go.Proofs.YtjnpndfpajjihabGreat
open Go.RowKit

set_option maxHeartbeats 2000000 in
set_option maxRecDepth 100000 in
theorem sealsK_any (w : World) :
    Calls Tryz.prog 29 #[] w fun e w' => e = .returned (.bool true) ∧ Below w.heap.size w w' := by
  obtain ⟨s1, s2, h4⟩ := commit4
  go_enter Tryz.func29, Tryz.ntmps29
  go_wp2_with fail
  refine (commit_any 0 0 tx4 none none (some ⟨w.heap.size, 0, none⟩) 0 0 1 _ ⟨none, 0, none, 0, _, _, rfl, .inl rfl, .inl rfl, .inr ⟨w.heap.size, 0, rfl, by simp, fun i hi => ?_⟩, Nat.zero_le _, Nat.zero_le _, by decide⟩ (by decide) (by decide) (by decide) (by decide)).mono ?_
  · have : i = 0 := by simpa [tx4] using hi
    subst this
    simp [go_sem, tx4]
  rintro e w1 ⟨a, c, rfl, hS, hb1⟩
  rw [h4] at hS
  rw [h4, seal4.1, seal4.2.1, seal4.2.2]
  have HB := hide (bthen (below1 _ _) hb1)
  obtain ⟨b, off, rfl, hlt, hc⟩ := hS.resolve_left (by simp)
  have h3 := (hc 3 (by simp)).1
  have h3' : w1.cell? ⟨b, off + 9, none⟩ = some (.int .i64 2) := h3
  clear hc h3 hS hb1
  go_wp2
  go_ret
  exact ⟨rfl, bthen HB.out (below1 _ _)⟩

end Go.Proofs.YtjnpndfpajjihabGreat

namespace Go.Proofs.YtjnpndfpajjihabGreat
open Go.RowKit

section
variable {P : Program} {ops : Array Oper} {Q : Exit → Act → World → Prop} {md : Region.Mode} {S : World → Prop}

/-- An operation that its guard passes over comes first. -/
theorem held_skip (i : Nat) (d : Tmp) {fuel : Nat} {listed : Array Bool} {a : Act} {w : World}
    (hs : Region.noSelect ops = true) (hf : Region.free md ops listed i = true) (hr : (Region.ready md ops listed).contains i = true)
    (hw : (ops[i]?).map (fun o => (o.dst, Region.wanted o (yielded ops a.tmps))) = some (some d, false))
    (hQ : ∀ c a w, Q (.panic c) (a.put (some d) undef) w → Q (.panic c) a w) (hS : S w)
    (h : wpAnyH P md ops Q S fuel (listed.setIfInBounds i true) (a.put (some d) undef) w) : wpAnyH P md ops Q S (fuel + 1) listed a w := by
  obtain ⟨o, ho, he⟩ := Option.map_eq_some_iff.1 hw
  simp only [Prod.mk.injEq] at he
  obtain ⟨hd, hn⟩ := he
  refine wpAnyH_take (i := i) (oi := o) (v := undef) ho hs hf hr ?_ (Or.inr ⟨hn, rfl⟩) hS ?_
  · rw [hd]; exact hQ
  · rw [hd]; exact h

/-- An operation that yields its value under the condition comes first. -/
theorem held_take (i : Nat) (o : Oper) (d : Tmp) (v : Value) {fuel : Nat} {listed : Array Bool} {a : Act} {w : World}
    (hs : Region.noSelect ops = true) (hf : Region.free md ops listed i = true) (hr : (Region.ready md ops listed).contains i = true)
    (ho : ops[i]? = some o) (hd : o.dst = some d) (hw : Region.wanted o (yielded ops a.tmps) = true)
    (hy : ∀ w, S w → (execOp a.eval o).run P w = .ok (.value v) w)
    (hQ : ∀ c a w, Q (.panic c) (a.put (some d) v) w → Q (.panic c) a w) (hS : S w)
    (h : wpAnyH P md ops Q S fuel (listed.setIfInBounds i true) (a.put (some d) v) w) : wpAnyH P md ops Q S (fuel + 1) listed a w := by
  refine wpAnyH_take (i := i) (oi := o) (v := v) ho hs hf hr ?_ (Or.inl ⟨hw, hy⟩) hS ?_
  · rw [hd]; exact hQ
  · rw [hd]; exact h

end
end Go.Proofs.YtjnpndfpajjihabGreat

namespace Go.Proofs.YtjnpndfpajjihabGreat
open Go.RowKit

set_option maxRecDepth 100000 in
theorem step_run {w : World} {ops : Array Oper} {o : Oper} {a : Act} {K : Act → World → Prop} {Q : Exit → Act → World → Prop} {E : Prop} (hgd : o.guard = none) (x y : Operand)
    (ho : o.op = .call { callee := .value (.func 34), args := #[x, y], argTypes := #[58, 42] }) (vx vy : Value) (hx : a.eval x = vx) (hy : a.eval y = vy) (post : Ending → World → Prop) (hc : Calls Tryz.prog 34 #[vx, vy] w post)
    (h : ∀ e w', post e w' → ∃ v, e = .returned v ∧ K (a.put o.dst v) w') : if Region.wanted o (yielded ops a.tmps) = true then Oper.wp Tryz.prog o a w K Q else E := by
  have hw : Region.wanted o (yielded ops a.tmps) = true := by simp [Region.wanted, hgd]
  rw [if_pos hw]
  have hf : a.eval (.func 34) = .func (.func 34) #[] #[] := rfl
  unfold Oper.wp
  simp [execOp, ho, resolve, invoke, hf, hx, hy, Result.andThen]
  refine hc.mono ?_
  intro e w' hp
  obtain ⟨v, rfl, hk⟩ := h e w' hp
  exact hk
set_option maxRecDepth 100000 in
theorem step_pick {w : World} {ops : Array Oper} {o : Oper} {a : Act} {K : Act → World → Prop} {Q : Exit → Act → World → Prop} {E : Prop} (hgd : o.guard = none) (x y : Operand)
    (ho : o.op = .call { callee := .value (.func 32), args := #[x, y], argTypes := #[3, 3] }) (vx vy : Value) (hx : a.eval x = vx) (hy : a.eval y = vy) (post : Ending → World → Prop) (hc : Calls Tryz.prog 32 #[vx, vy] w post)
    (h : ∀ e w', post e w' → ∃ v, e = .returned v ∧ K (a.put o.dst v) w') : if Region.wanted o (yielded ops a.tmps) = true then Oper.wp Tryz.prog o a w K Q else E := by
  have hw : Region.wanted o (yielded ops a.tmps) = true := by simp [Region.wanted, hgd]
  rw [if_pos hw]
  have hf : a.eval (.func 32) = .func (.func 32) #[] #[] := rfl
  unfold Oper.wp
  simp [execOp, ho, resolve, invoke, hf, hx, hy, Result.andThen]
  refine hc.mono ?_
  intro e w' hp
  obtain ⟨v, rfl, hk⟩ := h e w' hp
  exact hk
set_option maxRecDepth 100000 in
theorem step_crash {w : World} {ops : Array Oper} {o : Oper} {a : Act} {K : Act → World → Prop} {Q : Exit → Act → World → Prop} {E : Prop} (hgd : o.guard = none) (x y : Operand)
    (ho : o.op = .call { callee := .value (.func 33), args := #[x, y], argTypes := #[58, 3] }) (vx vy : Value) (hx : a.eval x = vx) (hy : a.eval y = vy) (post : Ending → World → Prop) (hc : Calls Tryz.prog 33 #[vx, vy] w post)
    (h : ∀ e w', post e w' → ∃ v, e = .returned v ∧ K (a.put o.dst v) w') : if Region.wanted o (yielded ops a.tmps) = true then Oper.wp Tryz.prog o a w K Q else E := by
  have hw : Region.wanted o (yielded ops a.tmps) = true := by simp [Region.wanted, hgd]
  rw [if_pos hw]
  have hf : a.eval (.func 33) = .func (.func 33) #[] #[] := rfl
  unfold Oper.wp
  simp [execOp, ho, resolve, invoke, hf, hx, hy, Result.andThen]
  refine hc.mono ?_
  intro e w' hp
  obtain ⟨v, rfl, hk⟩ := h e w' hp
  exact hk

end Go.Proofs.YtjnpndfpajjihabGreat

namespace Go.Proofs.YtjnpndfpajjihabGreat
open Go.RowKit

theorem newestL_in {l : List Tx} {x : Int × ByteArray} (h : x ∈ newestL l) : 0 ≤ x.1 ∧ x.1 ≤ 11 := by
  unfold newestL asN at h
  obtain ⟨i, hi, hx⟩ := List.mem_flatMap.1 h
  have hi' := List.mem_range.1 hi
  unfold oneC at hx
  cases hf : newestF l (i : Int) with
  | none => rw [hf] at hx; simp at hx
  | some s => rw [hf] at hx; simp at hx; subst hx; simp; omega
theorem told_reachT {d : Dk} : ∀ t ∈ fndL d, Reached t := by
  intro t ht
  by_cases h : scanE d = 0
  · obtain ⟨h1, h2, h3, _⟩ := (fnd_facts h).1 t ht
    unfold Reached
    rw [h3]
    refine ⟨by omega, by simp, by omega⟩
  · rw [fndL, if_neg h] at ht; cases ht
theorem scan_wr {d : Dk} (h : scanE (flushK d) = 0) : (flushK d).wr = [] := by
  have hg := (scan_good2 h).1
  unfold flushK at hg ⊢
  split
  · rfl
  · rename_i hx
    rw [if_neg hx] at hg
    exact absurd hg hx
theorem SegSt.take {w : World} {a : Option Addr} {l : List St} (h : SegSt w a l) (k : Nat) : SegSt w a (l.take k) := by
  rcases h with rfl | ⟨b, off, rfl, hlt, hc⟩
  · exact .inl (by simp)
  · refine .inr ⟨b, off, rfl, hlt, fun i hi => ?_⟩
    rw [List.length_take] at hi
    have := hc i (by omega)
    have e : (l.take k).getD i st0 = l.getD i st0 := by rw [List.getD, List.getD, List.getElem?_take_of_lt (by omega)]
    rw [e]
    exact this
theorem run_n (v : Value) (d : Dk) (a : Option Addr) (n c : Nat) (l : List St) (w : World) (hl : n = l.length) (h : IsDk w v d) (hS : SegSt w a l) (hn : l.length ≤ 1000) :
    Calls Tryz.prog 34 #[v, .slice a n c] w fun e w' => ∃ v2, e = .returned v2 ∧ IsDk w' v2 (runK d l) ∧ Below w.heap.size w w' := by
  subst hl
  exact run_any v d a c l w h hS hn
/-- What is found, behind a store into an elder block. -/
theorem ScPost.foundB {w w' : World} {d : Dk} {e : Ending} (h : ScPost w w' d e) {B : Nat} (hB : B < w.heap.size) : ∃ va vc, e = .returned (.tuple #[.agg #[.slice va (fndL d).length vc, .int .i64 (fndN d), .int .i64 (fndP d)], .int .i64 (scanE d)]) ∧ SegTx w' va (fndL d) ∧ (∀ k u, SegTx (w'.setCell ⟨B, k, none⟩ u) va (fndL d)) ∧ Below w.heap.size w w' := by
  obtain ⟨v, rfl, hb, h1, h2⟩ := h
  by_cases hE : scanE d = 0
  · obtain ⟨q, va, vc, rfl, hq, hO, hX⟩ := h2 hE
    obtain ⟨a, c, hv, hS, _⟩ := SegTx.of_owns hO hX
    simp only [Value.slice.injEq] at hv
    obtain ⟨rfl, _, rfl⟩ := hv
    have hl : fndL d = q.map (·.t) := by rw [fndL, if_pos hE, hq]
    have hlen : q.length = (scanL d).1.length := by rw [← hq, List.length_map]
    refine ⟨va, vc, ?_, by rw [hl]; exact hS, fun k u => ?_, hb⟩
    · rw [hl, fndN, fndP, if_pos hE, if_pos hE, List.length_map, hlen]
    · have hO2 := ownsRow_setCell_below hO (a := ⟨B, k, none⟩) hB u
      have hX2 : ∀ x ∈ q, OwnR (w'.setCell ⟨B, k, none⟩ u) w.heap.size x := fun x hx => by
        obtain ⟨r1, r2, r3⟩ := hX x hx
        exact ⟨ownsRow_setCell_below r1 (a := ⟨B, k, none⟩) hB u, ownsRow_setCell_below r2 (a := ⟨B, k, none⟩) hB u, ownsRow_setCell_below r3 (a := ⟨B, k, none⟩) hB u⟩
      obtain ⟨a, c, hv, hS2, _⟩ := SegTx.of_owns hO2 hX2
      simp only [Value.slice.injEq] at hv
      obtain ⟨rfl, _, rfl⟩ := hv
      rw [hl]; exact hS2
  · rw [h1 hE]
    refine ⟨none, 0, ?_, .inl (by rw [fndL, if_neg hE]), fun k u => .inl (by rw [fndL, if_neg hE]), hb⟩
    rw [fndL, fndN, fndP, if_neg hE, if_neg hE, if_neg hE]
    rfl
/-- A disk is not touched by a store into a box without texts. -/
theorem IsDk.setFlat {w : World} {v : Value} {d : Dk} {B : Nat} {cs : Array Value} {t : TypeId} (h : IsDk w v d) (hB : w.heap[B]? = some (.cells cs t (0, 0))) (hc : ∀ (o : Nat) (s : ByteArray), cs[o]? ≠ some (.string s)) (k : Nat) (u : Value) : IsDk (w.setCell ⟨B, k, none⟩ u) v d := by
  obtain ⟨a, c, a', c', rfl, hS, hW, l1, l2⟩ := h
  have hcell : ∀ o s, w.cell? ⟨B, o, none⟩ ≠ some (.string s) := by
    intro o s hx
    rw [cell_of_row w _ _ _ _ _ hB] at hx
    exact hc o s hx
  refine ⟨a, c, a', c', rfl, ?_, ?_, l1, l2⟩
  · rcases hS with e | ⟨b, off, rfl, hlt, hq⟩
    · exact .inl e
    · by_cases h0 : d.safe.length = 0
      · exact .inl (List.eq_nil_of_length_eq_zero h0)
      · have hne : b ≠ B := by intro e; subst e; exact hcell _ _ (hq 0 (by omega))
        exact .inr ⟨b, off, rfl, by simpa [World.setCell] using hlt, fun i hi => cellSet (hq i hi) (by simpa using hne)⟩
  · rcases hW with e | ⟨b, off, rfl, hlt, hq⟩
    · exact .inl e
    · by_cases h0 : d.wr.length = 0
      · exact .inl (List.eq_nil_of_length_eq_zero h0)
      · have hne : b ≠ B := by intro e; subst e; exact hcell _ _ (hq 0 (by omega)).2
        exact .inr ⟨b, off, rfl, by simpa [World.setCell] using hlt, fun i hi => ⟨cellSet (hq i hi).1 (by simpa using hne), cellSet (hq i hi).2 (by simpa using hne)⟩⟩

end Go.Proofs.YtjnpndfpajjihabGreat
