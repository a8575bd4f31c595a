/-
  A map of the call's own from numbers to bools, of which only 'true' is stored: which numbers are in it. Nothing of the program is proved here.
-/
import Derived.Test.YtjnpndfpajjihabBase
import Derived.Maps.Own
import Derived.Maps.OwnSet
namespace Go.Proofs.Ytjnpndfpajjihab
open Go.RowKit

theorem keyI : Maps.Keyed Try.prog 3 := Maps.int_keyed Try.underlying3
theorem zeroB (w : World) : (zeroValue 4).run Try.prog w = .ok (.bool false) w := by kernel_rfl

/-- Block B is a map in which just these numbers are. -/
def SetI (w : World) (B : Nat) (l : List Int) : Prop :=
  ∃ D : DataW Unit, w.ownsMap Try.prog 3 (plainElem Try.prog 4) B l.length D ∧ ∀ x : Int, (Lit.int .i64 x).wf = true → D.atKey (.int .i64 x) (.lit (.bool false)) = .lit (.bool (decide (x ∈ l)))

theorem SetI.made (w : World) : SetI (w.alloc (.map #[] 0)) w.heap.size [] :=
  ⟨.map [], World.ownsMap_made w _ _ _, fun x _ => by simp [DataW.atKey]⟩
theorem SetI.below {w w' : World} {B : Nat} {l : List Int} (h : SetI w B l) (hb : Below w.heap.size w w') : SetI w' B l := by
  obtain ⟨D, ho, ha⟩ := h
  have hlt := ho.lt
  obtain ⟨es, clock, h1, h2⟩ := ho
  exact ⟨D, ⟨es, clock, (hb.block _ hlt).trans h1, h2⟩, ha⟩
set_option maxRecDepth 100000 in
theorem SetI.look {w : World} {B : Nat} {l : List Int} (h : SetI w B l) (x : Int) (hx : (Lit.int .i64 x).wf = true) :
    (Instr.lookup 30 (.map (some B)) (.int .i64 x) false).run Try.prog w = .ok (.bool (decide (x ∈ l))) w := by
  obtain ⟨D, ho, ha⟩ := h
  obtain ⟨v, ps, hrun, hv⟩ := ho.lookup keyI Try.underlying30 (zeroB w) (plainElem_bool Try.underlying4 false) (Maps.keyOf_int_mk Try.underlying3 hx)
  rw [ha x hx] at hv
  have e : v = .bool (decide (x ∈ l)) := by
    unfold plainElem at hv
    rw [Try.underlying4] at hv
    split at hv <;> simp_all
  rw [hrun, e]
set_option maxRecDepth 100000 in
theorem SetI.store {w : World} {B : Nat} {l : List Int} (h : SetI w B l) (x : Int) (hx : (Lit.int .i64 x).wf = true) (hl : l.length < 1000000) :
    ∃ w', (Instr.mapUpdate 30 (.map (some B)) (.int .i64 x) (.bool true)).run Try.prog w = .ok () w' ∧ SetI w' B (l ++ [x]) ∧ w.grownBy w' (some B) := by
  obtain ⟨D, ho, ha⟩ := h
  have him := ho.isMap
  obtain ⟨w', hrun, ho', hg⟩ := ho.update keyI Try.underlying30 (by unfold maxLen; omega) (Maps.keyOf_int_mk Try.underlying3 hx) (plainElem_bool Try.underlying4 true)
  refine ⟨w', hrun, ⟨_, by simpa using ho', fun y hy => ?_⟩, hg⟩
  by_cases e : y = x
  · subst e
    rw [Maps.atKey_put_same him (by simp [WideAt.IsKeyLit])]
    simp
  · rw [Maps.atKey_put_other (by simp [e]), ha y hy]
    simp [e]

end Go.Proofs.Ytjnpndfpajjihab
