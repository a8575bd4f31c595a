/-
  The calls of the statement RecoverTwice as steps of a region that draws its order.
-/
import Derived.Test.YtjnpndfpajjihabGreatXRun
import Derived.Test.YtjnpndfpajjihabGreatGrSealWhole23
import Derived.Test.YtjnpndfpajjihabGreatGrSealWhole0
import Derived.Test.YtjnpndfpajjihabGreatRSkip
namespace Go.Proofs.YtjnpndfpajjihabGreat
open Go.RowKit

set_option maxRecDepth 100000 in
theorem step_run {w : World} {ops : Array Oper} {o : Oper} {a : Act} {K : Act → World → Prop} {Q : Exit → Act → World → Prop} {E : Prop} (hgd : o.guard = none) (x y : Operand)
    (ho : o.op = .call { callee := .value (.func 34), args := #[x, y], argTypes := #[58, 42] }) (vx vy : Value) (hx : a.eval x = vx) (hy : a.eval y = vy) (post : Ending → World → Prop) (hc : Calls Tryz.prog 34 #[vx, vy] w post)
    (h : ∀ e w', post e w' → ∃ v, e = .returned v ∧ K (a.put o.dst v) w') : if Region.wanted o (yielded ops a.tmps) = true then Oper.wp Tryz.prog o a w K Q else E := by
  have hw : Region.wanted o (yielded ops a.tmps) = true := by simp [Region.wanted, hgd]
  rw [if_pos hw]
  have hf : a.eval (.func 34) = .func (.func 34) #[] #[] := rfl
  unfold Oper.wp
  simp [execOp, ho, resolve, invoke, hf, hx, hy, Result.andThen]
  refine hc.mono ?_
  intro e w' hp
  obtain ⟨v, rfl, hk⟩ := h e w' hp
  exact hk
set_option maxRecDepth 100000 in
theorem step_pick {w : World} {ops : Array Oper} {o : Oper} {a : Act} {K : Act → World → Prop} {Q : Exit → Act → World → Prop} {E : Prop} (hgd : o.guard = none) (x y : Operand)
    (ho : o.op = .call { callee := .value (.func 32), args := #[x, y], argTypes := #[3, 3] }) (vx vy : Value) (hx : a.eval x = vx) (hy : a.eval y = vy) (post : Ending → World → Prop) (hc : Calls Tryz.prog 32 #[vx, vy] w post)
    (h : ∀ e w', post e w' → ∃ v, e = .returned v ∧ K (a.put o.dst v) w') : if Region.wanted o (yielded ops a.tmps) = true then Oper.wp Tryz.prog o a w K Q else E := by
  have hw : Region.wanted o (yielded ops a.tmps) = true := by simp [Region.wanted, hgd]
  rw [if_pos hw]
  have hf : a.eval (.func 32) = .func (.func 32) #[] #[] := rfl
  unfold Oper.wp
  simp [execOp, ho, resolve, invoke, hf, hx, hy, Result.andThen]
  refine hc.mono ?_
  intro e w' hp
  obtain ⟨v, rfl, hk⟩ := h e w' hp
  exact hk
set_option maxRecDepth 100000 in
theorem step_crash {w : World} {ops : Array Oper} {o : Oper} {a : Act} {K : Act → World → Prop} {Q : Exit → Act → World → Prop} {E : Prop} (hgd : o.guard = none) (x y : Operand)
    (ho : o.op = .call { callee := .value (.func 33), args := #[x, y], argTypes := #[58, 3] }) (vx vy : Value) (hx : a.eval x = vx) (hy : a.eval y = vy) (post : Ending → World → Prop) (hc : Calls Tryz.prog 33 #[vx, vy] w post)
    (h : ∀ e w', post e w' → ∃ v, e = .returned v ∧ K (a.put o.dst v) w') : if Region.wanted o (yielded ops a.tmps) = true then Oper.wp Tryz.prog o a w K Q else E := by
  have hw : Region.wanted o (yielded ops a.tmps) = true := by simp [Region.wanted, hgd]
  rw [if_pos hw]
  have hf : a.eval (.func 33) = .func (.func 33) #[] #[] := rfl
  unfold Oper.wp
  simp [execOp, ho, resolve, invoke, hf, hx, hy, Result.andThen]
  refine hc.mono ?_
  intro e w' hp
  obtain ⟨v, rfl, hk⟩ := h e w' hp
  exact hk

end Go.Proofs.YtjnpndfpajjihabGreat
