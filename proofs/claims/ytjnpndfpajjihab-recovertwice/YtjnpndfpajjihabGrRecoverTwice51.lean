/-
  The walk of the statements' own pick.
  A good transaction has few blocks.
  Steps of a region that draws its order, taken one by one by number: what its guard passes over, and what yields its value under the condition. Nothing of the program is proved here.
  The calls of the statement RecoverTwice as steps of a region that draws its order.
-/
import Derived.Test.YtjnpndfpajjihabGrRecoverTwice0
import Derived.Test.YtjnpndfpajjihabXLast
import Derived.Test.YtjnpndfpajjihabGrRecoverTwice44
import Derived.Deep.RegionHeld3
import Derived.Test.YtjnpndfpajjihabXRun
import Derived.Test.YtjnpndfpajjihabGrRecoverTwice46
namespace Go.Proofs.Ytjnpndfpajjihab
open Go.RowKit

/-- What pick answers. -/
def pickN (n m : Int) : Int := n % m
set_option maxHeartbeats 1000000 in
theorem pick_any (n m : Int) (w : World) (hm : 0 < m) (hm2 : m ≤ 4611686018427387904) (hn : -9223372036854775808 ≤ n) (hn2 : n ≤ 9223372036854775807) :
    Calls Try.prog 11 #[.int .i64 n, .int .i64 m] w fun e w' => e = .returned (.int .i64 (n % m)) ∧ w = w' := by
  have hlt := Int.emod_lt_of_pos n hm
  have hge := Int.emod_nonneg n (show m ≠ 0 by omega)
  by_cases h : n.tmod m < 0
  · have HE : Hid (n % m = n.tmod m + m) := by
      rw [Hid, Int.emod_eq_tmod]
      rw [if_neg]
      · omega
      · rintro (h1 | h1)
        · have := Int.tmod_nonneg m h1; omega
        · have := Int.tmod_eq_zero_of_dvd h1; omega
    have hlo : -m < n.tmod m := by have := Int.lt_tmod_of_pos n hm; omega
    have hm0 : ¬ m = 0 := by omega
    have hmm : ¬ m = -1 := by omega
    go_enter Try.func11, Try.ntmps11
    go_wp2
    go_ret
    exact ⟨by rw [HE.out]; rfl, rfl⟩
  · have HE : Hid (n % m = n.tmod m) := by
      by_cases h1 : 0 ≤ n ∨ m ∣ n
      · rw [Hid, Int.emod_eq_tmod, if_pos h1]; omega
      · have h2 := Int.emod_eq_tmod (a := n) (b := m)
        rw [if_neg h1] at h2
        have h3 : n < 0 := by omega
        have h4 : n.tmod m ≤ 0 := by
          have := Int.tmod_nonneg m (show 0 ≤ -n by omega)
          rw [Int.neg_tmod] at this
          omega
        have h5 : n.tmod m = 0 := by omega
        exact absurd (.inr (Int.dvd_of_tmod_eq_zero h5)) h1
    have hm0 : ¬ m = 0 := by omega
    have hmm : ¬ m = -1 := by omega
    have hlo : n.tmod m < m := by rw [← HE.out]; exact hlt
    go_enter Try.func11, Try.ntmps11
    go_wp2
    go_ret
    exact ⟨by rw [HE.out]; rfl, rfl⟩

end Go.Proofs.Ytjnpndfpajjihab

namespace Go.Proofs.Ytjnpndfpajjihab
open Go.RowKit

theorem few_good {t : Tx} (h : goodX t = true) : Few t := by
  have h1 := good_small h
  have h2 := (goodX_iff t).1 h
  refine ⟨h1.2.2, h1.1, ((rises_iff _).1 h2.2.2.1.2.2).1, fun x hx => ?_⟩
  exact ((rises_iff _).1 h2.2.2.1.1).1 x.1 (List.mem_map.2 ⟨x, hx, rfl⟩)

end Go.Proofs.Ytjnpndfpajjihab

namespace Go.Proofs.Ytjnpndfpajjihab
open Go.RowKit

section
variable {P : Program} {ops : Array Oper} {Q : Exit → Act → World → Prop} {md : Region.Mode} {S : World → Prop}

/-- An operation that its guard passes over comes first. -/
theorem held_skip (i : Nat) (d : Tmp) {fuel : Nat} {listed : Array Bool} {a : Act} {w : World}
    (hs : Region.noSelect ops = true) (hf : Region.free md ops listed i = true) (hr : (Region.ready md ops listed).contains i = true)
    (hw : (ops[i]?).map (fun o => (o.dst, Region.wanted o (yielded ops a.tmps))) = some (some d, false))
    (hQ : ∀ c a w, Q (.panic c) (a.put (some d) undef) w → Q (.panic c) a w) (hS : S w)
    (h : wpAnyH P md ops Q S fuel (listed.setIfInBounds i true) (a.put (some d) undef) w) : wpAnyH P md ops Q S (fuel + 1) listed a w := by
  obtain ⟨o, ho, he⟩ := Option.map_eq_some_iff.1 hw
  simp only [Prod.mk.injEq] at he
  obtain ⟨hd, hn⟩ := he
  refine wpAnyH_take (i := i) (oi := o) (v := undef) ho hs hf hr ?_ (Or.inr ⟨hn, rfl⟩) hS ?_
  · rw [hd]; exact hQ
  · rw [hd]; exact h

/-- An operation that yields its value under the condition comes first. -/
theorem held_take (i : Nat) (o : Oper) (d : Tmp) (v : Value) {fuel : Nat} {listed : Array Bool} {a : Act} {w : World}
    (hs : Region.noSelect ops = true) (hf : Region.free md ops listed i = true) (hr : (Region.ready md ops listed).contains i = true)
    (ho : ops[i]? = some o) (hd : o.dst = some d) (hw : Region.wanted o (yielded ops a.tmps) = true)
    (hy : ∀ w, S w → (execOp a.eval o).run P w = .ok (.value v) w)
    (hQ : ∀ c a w, Q (.panic c) (a.put (some d) v) w → Q (.panic c) a w) (hS : S w)
    (h : wpAnyH P md ops Q S fuel (listed.setIfInBounds i true) (a.put (some d) v) w) : wpAnyH P md ops Q S (fuel + 1) listed a w := by
  refine wpAnyH_take (i := i) (oi := o) (v := v) ho hs hf hr ?_ (Or.inl ⟨hw, hy⟩) hS ?_
  · rw [hd]; exact hQ
  · rw [hd]; exact h

end
end Go.Proofs.Ytjnpndfpajjihab

namespace Go.Proofs.Ytjnpndfpajjihab
open Go.RowKit

set_option maxRecDepth 100000 in
theorem step_run {w : World} {ops : Array Oper} {o : Oper} {a : Act} {K : Act → World → Prop} {Q : Exit → Act → World → Prop} {E : Prop} (hgd : o.guard = none) (x y : Operand)
    (ho : o.op = .call { callee := .value (.func 57), args := #[x, y], argTypes := #[69, 85] }) (vx vy : Value) (hx : a.eval x = vx) (hy : a.eval y = vy) (post : Ending → World → Prop) (hc : Calls Try.prog 57 #[vx, vy] w post)
    (h : ∀ e w', post e w' → ∃ v, e = .returned v ∧ K (a.put o.dst v) w') : if Region.wanted o (yielded ops a.tmps) = true then Oper.wp Try.prog o a w K Q else E := by
  have hw : Region.wanted o (yielded ops a.tmps) = true := by simp [Region.wanted, hgd]
  rw [if_pos hw]
  have hf : a.eval (.func 57) = .func (.func 57) #[] #[] := rfl
  unfold Oper.wp
  simp [execOp, ho, resolve, invoke, hf, hx, hy, Result.andThen]
  refine hc.mono ?_
  intro e w' hp
  obtain ⟨v, rfl, hk⟩ := h e w' hp
  exact hk
set_option maxRecDepth 100000 in
theorem step_pick {w : World} {ops : Array Oper} {o : Oper} {a : Act} {K : Act → World → Prop} {Q : Exit → Act → World → Prop} {E : Prop} (hgd : o.guard = none) (x y : Operand)
    (ho : o.op = .call { callee := .value (.func 11), args := #[x, y], argTypes := #[3, 3] }) (vx vy : Value) (hx : a.eval x = vx) (hy : a.eval y = vy) (post : Ending → World → Prop) (hc : Calls Try.prog 11 #[vx, vy] w post)
    (h : ∀ e w', post e w' → ∃ v, e = .returned v ∧ K (a.put o.dst v) w') : if Region.wanted o (yielded ops a.tmps) = true then Oper.wp Try.prog o a w K Q else E := by
  have hw : Region.wanted o (yielded ops a.tmps) = true := by simp [Region.wanted, hgd]
  rw [if_pos hw]
  have hf : a.eval (.func 11) = .func (.func 11) #[] #[] := rfl
  unfold Oper.wp
  simp [execOp, ho, resolve, invoke, hf, hx, hy, Result.andThen]
  refine hc.mono ?_
  intro e w' hp
  obtain ⟨v, rfl, hk⟩ := h e w' hp
  exact hk
set_option maxRecDepth 100000 in
theorem step_crash {w : World} {ops : Array Oper} {o : Oper} {a : Act} {K : Act → World → Prop} {Q : Exit → Act → World → Prop} {E : Prop} (hgd : o.guard = none) (x y : Operand)
    (ho : o.op = .call { callee := .value (.func 56), args := #[x, y], argTypes := #[69, 3] }) (vx vy : Value) (hx : a.eval x = vx) (hy : a.eval y = vy) (post : Ending → World → Prop) (hc : Calls Try.prog 56 #[vx, vy] w post)
    (h : ∀ e w', post e w' → ∃ v, e = .returned v ∧ K (a.put o.dst v) w') : if Region.wanted o (yielded ops a.tmps) = true then Oper.wp Try.prog o a w K Q else E := by
  have hw : Region.wanted o (yielded ops a.tmps) = true := by simp [Region.wanted, hgd]
  rw [if_pos hw]
  have hf : a.eval (.func 56) = .func (.func 56) #[] #[] := rfl
  unfold Oper.wp
  simp [execOp, ho, resolve, invoke, hf, hx, hy, Result.andThen]
  refine hc.mono ?_
  intro e w' hp
  obtain ⟨v, rfl, hk⟩ := h e w' hp
  exact hk

end Go.Proofs.Ytjnpndfpajjihab
