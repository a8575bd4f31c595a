/-
  Maps of the call's own from numbers to numbers and to copies. Nothing of the program is proved here.
-/
import Derived.Test.YtjnpndfpajjihabGrRecoverTwice17
import Derived.Maps.Own
import Derived.Maps.OwnSet
namespace Go.Proofs.Ytjnpndfpajjihab
open Go.RowKit

theorem keyN : Maps.Keyed Try.prog 3 := Maps.int_keyed Try.underlying3
theorem zeroN (w : World) : (zeroValue 3).run Try.prog w = .ok (.int .i64 0) w := by kernel_rfl
theorem zeroCp (w : World) : (zeroValue 91).run Try.prog w = .ok (.agg #[.int .i64 0, .string ⟨#[]⟩]) w := by kernel_rfl

/-- Block B is a map of numbers: what is found at each, 0 where there is none; it has no more than so many. -/
def MapI (w : World) (B n : Nat) (f : Int → Int) : Prop :=
  ∃ D : DataW Unit, w.ownsMap Try.prog 3 (plainElem Try.prog 3) B n D ∧ ∀ x : Int, (Lit.int .i64 x).wf = true → D.atKey (.int .i64 x) (.lit (.int .i64 0)) = .lit (.int .i64 (f x))
theorem MapI.made (w : World) : MapI (w.alloc (.map #[] 0)) w.heap.size 0 (fun _ => 0) :=
  ⟨.map [], World.ownsMap_made w _ _ _, fun x _ => by simp [DataW.atKey]⟩
theorem MapI.lt {w : World} {B n : Nat} {f : Int → Int} (h : MapI w B n f) : B < w.heap.size := by
  obtain ⟨D, ho, _⟩ := h; exact ho.lt
theorem MapI.block {w w' : World} {B n : Nat} {f : Int → Int} (h : MapI w B n f) (hb : w'.heap[B]? = w.heap[B]?) : MapI w' B n f := by
  obtain ⟨D, ho, ha⟩ := h
  obtain ⟨es, clock, h1, h2⟩ := ho
  exact ⟨D, ⟨es, clock, hb.trans h1, h2⟩, ha⟩
theorem MapI.below {w w' : World} {B n : Nat} {f : Int → Int} (h : MapI w B n f) (hb : Below w.heap.size w w') : MapI w' B n f := h.block (hb.block _ h.lt)
theorem MapI.look {w : World} {B n : Nat} {f : Int → Int} (h : MapI w B n f) (x : Int) (hx : (Lit.int .i64 x).wf = true) :
    (Instr.lookup 209 (.map (some B)) (.int .i64 x) false).run Try.prog w = .ok (.int .i64 (f x)) w := by
  obtain ⟨D, ho, ha⟩ := h
  obtain ⟨c, hrun, hat, _⟩ := ho.lookup_int keyN Try.underlying209 Try.underlying3 (zeroN w) (Maps.keyOf_int_mk Try.underlying3 hx)
  rw [ha x hx] at hat
  simp only [DataW.lit.injEq, Lit.int.injEq, true_and] at hat
  rw [hrun, hat]
theorem MapI.store {w : World} {B n : Nat} {f : Int → Int} (h : MapI w B n f) (x y : Int) (hx : (Lit.int .i64 x).wf = true) (hy : (Lit.int .i64 y).wf = true) (hn : n < maxLen) :
    ∃ w', (Instr.mapUpdate 209 (.map (some B)) (.int .i64 x) (.int .i64 y)).run Try.prog w = .ok () w' ∧ MapI w' B (n + 1) (fun z => if z = x then y else f z) ∧ w.grownBy w' (some B) := by
  obtain ⟨D, ho, ha⟩ := h
  have him := ho.isMap
  obtain ⟨w', hrun, ho', hg⟩ := ho.update keyN Try.underlying209 hn (Maps.keyOf_int_mk Try.underlying3 hx) (plainElem_int Try.underlying3 hy)
  refine ⟨w', hrun, ⟨_, ho', fun z hz => ?_⟩, hg⟩
  by_cases e : z = x
  · subst e
    rw [Maps.atKey_put_same him (by simp [WideAt.IsKeyLit])]
    simp
  · rw [Maps.atKey_put_other (by simp [e]), ha z hz]
    simp [e]

/-- A copy, as it reads. -/
def copyElem (v : Value) : Option (DataW Unit × List MemPlace) :=
  match v with
  | .agg c => match c.toList with
    | [.int .i64 a, .string s] => some (.agg [.lit (.int .i64 a), .lit (.string s.data.toList)], [])
    | _ => none
  | _ => none
def copyD (c : Int × ByteArray) : DataW Unit := .agg [.lit (.int .i64 c.1), .lit (.string c.2.data.toList)]
theorem copyElem_mk (a : Int) (s : ByteArray) : copyElem (.agg #[.int .i64 a, .string s]) = some (copyD (a, s), []) := rfl
theorem copyElem_inv {v : Value} {a : Int} {s : ByteArray} {ps : List MemPlace} (h : copyElem v = some (copyD (a, s), ps)) : v = .agg #[.int .i64 a, .string s] := by
  unfold copyElem at h
  split at h
  · rename_i c
    split at h
    · rename_i a' s' hc
      simp only [copyD, Option.some.injEq, Prod.mk.injEq, DataW.agg.injEq, List.cons.injEq, DataW.lit.injEq, Lit.int.injEq, Lit.string.injEq, and_true, true_and] at h
      obtain ⟨⟨rfl, h2⟩, _⟩ := h
      have e : s' = s := by
        cases s' with | mk d => cases s with | mk d2 =>
        simp only at h2
        congr 1
        exact Array.ext' h2
      subst e
      have : c = #[.int .i64 a', .string s'] := by
        apply Array.ext'
        rw [hc]
      rw [this]
    · cases h
  · cases h

/-- Block B is a map of copies. -/
def MapC (w : World) (B n : Nat) (f : Int → Option (Int × ByteArray)) : Prop :=
  ∃ D : DataW Unit, w.ownsMap Try.prog 3 copyElem B n D ∧ ∀ x : Int, (Lit.int .i64 x).wf = true → Maps.has D (.int .i64 x) = (f x).isSome ∧ ∀ c, f x = some c → ∀ z, D.atKey (.int .i64 x) z = copyD c
theorem MapC.made (w : World) : MapC (w.alloc (.map #[] 0)) w.heap.size 0 (fun _ => none) :=
  ⟨.map [], World.ownsMap_made w _ _ _, fun x _ => ⟨rfl, fun c h => by cases h⟩⟩
theorem MapC.lt {w : World} {B n : Nat} {f : Int → Option (Int × ByteArray)} (h : MapC w B n f) : B < w.heap.size := by
  obtain ⟨D, ho, _⟩ := h; exact ho.lt
theorem MapC.block {w w' : World} {B n : Nat} {f : Int → Option (Int × ByteArray)} (h : MapC w B n f) (hb : w'.heap[B]? = w.heap[B]?) : MapC w' B n f := by
  obtain ⟨D, ho, ha⟩ := h
  obtain ⟨es, clock, h1, h2⟩ := ho
  exact ⟨D, ⟨es, clock, hb.trans h1, h2⟩, ha⟩
theorem MapC.below {w w' : World} {B n : Nat} {f : Int → Option (Int × ByteArray)} (h : MapC w B n f) (hb : Below w.heap.size w w') : MapC w' B n f := h.block (hb.block _ h.lt)
theorem MapC.lookNone {w : World} {B n : Nat} {f : Int → Option (Int × ByteArray)} (h : MapC w B n f) (x : Int) (hx : (Lit.int .i64 x).wf = true) (hf : f x = none) :
    (Instr.lookup 145 (.map (some B)) (.int .i64 x) true).run Try.prog w = .ok (.tuple #[.agg #[.int .i64 0, .string ⟨#[]⟩], .bool false]) w := by
  obtain ⟨D, ho, ha⟩ := h
  obtain ⟨v, ps, hrun, hv⟩ := ho.look_ok keyN Try.underlying145 (zeroCp w) (copyElem_mk 0 ⟨#[]⟩) (Maps.keyOf_int_mk Try.underlying3 hx)
  have h1 := (ha x hx).1
  rw [hf] at h1
  have h1' : Maps.has D (.int .i64 x) = false := h1
  rw [Maps.atKey_of_not_has h1'] at hv
  rw [hrun, h1', copyElem_inv hv]
theorem MapC.lookSome {w : World} {B n : Nat} {f : Int → Option (Int × ByteArray)} (h : MapC w B n f) (x : Int) (hx : (Lit.int .i64 x).wf = true) {a : Int} {s : ByteArray} (hf : f x = some (a, s)) :
    (Instr.lookup 145 (.map (some B)) (.int .i64 x) true).run Try.prog w = .ok (.tuple #[.agg #[.int .i64 a, .string s], .bool true]) w := by
  obtain ⟨D, ho, ha⟩ := h
  obtain ⟨v, ps, hrun, hv⟩ := ho.look_ok keyN Try.underlying145 (zeroCp w) (copyElem_mk 0 ⟨#[]⟩) (Maps.keyOf_int_mk Try.underlying3 hx)
  have h1 := (ha x hx).1
  rw [hf] at h1
  have h1' : Maps.has D (.int .i64 x) = true := h1
  rw [(ha x hx).2 _ hf] at hv
  rw [hrun, h1', copyElem_inv hv]
theorem MapC.store {w : World} {B n : Nat} {f : Int → Option (Int × ByteArray)} (h : MapC w B n f) (x a : Int) (s : ByteArray) (hx : (Lit.int .i64 x).wf = true) (hn : n < maxLen) :
    ∃ w', (Instr.mapUpdate 145 (.map (some B)) (.int .i64 x) (.agg #[.int .i64 a, .string s])).run Try.prog w = .ok () w' ∧ MapC w' B (n + 1) (fun z => if z = x then some (a, s) else f z) ∧ w.grownBy w' (some B) := by
  obtain ⟨D, ho, ha⟩ := h
  have him := ho.isMap
  obtain ⟨w', hrun, ho', hg⟩ := ho.update keyN Try.underlying145 hn (Maps.keyOf_int_mk Try.underlying3 hx) (copyElem_mk a s)
  refine ⟨w', hrun, ⟨_, ho', fun z hz => ?_⟩, hg⟩
  by_cases e : z = x
  · subst e
    refine ⟨?_, fun c hc z' => ?_⟩
    · rw [Maps.has_put_same him (by simp [WideAt.IsKeyLit])]; simp
    · rw [Maps.atKey_put_same him (by simp [WideAt.IsKeyLit])]
      simp at hc
      rw [hc]
  · refine ⟨?_, fun c hc z' => ?_⟩
    · rw [Maps.has_put_other (by simp [e]), (ha z hz).1]; simp [e]
    · rw [Maps.atKey_put_other (by simp [e])]
      simp only [if_neg e] at hc
      exact (ha z hz).2 c hc z'

end Go.Proofs.Ytjnpndfpajjihab
