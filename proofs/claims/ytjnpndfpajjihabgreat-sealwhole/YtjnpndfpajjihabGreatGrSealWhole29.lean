/-
  Maps of the call's own from numbers to numbers and to copies. Nothing of the program is proved here.
  The walk of package scan's lastToName.
-/
import Derived.Test.YtjnpndfpajjihabGreatGrSealWhole7
import Derived.Maps.Own
import Derived.Maps.OwnSet
import Derived.Test.YtjnpndfpajjihabGreatGrSealWhole1
namespace Go.Proofs.YtjnpndfpajjihabGreat
open Go.RowKit

theorem keyN : Maps.Keyed Tryz.prog 3 := Maps.int_keyed Tryz.underlying3
theorem zeroN (w : World) : (zeroValue 3).run Tryz.prog w = .ok (.int .i64 0) w := by kernel_rfl
theorem zeroCp (w : World) : (zeroValue 78).run Tryz.prog w = .ok (.agg #[.int .i64 0, .string ⟨#[]⟩]) w := by kernel_rfl

/-- Block B is a map of numbers: what is found at each, 0 where there is none; it has no more than so many. -/
def MapI (w : World) (B n : Nat) (f : Int → Int) : Prop :=
  ∃ D : DataW Unit, w.ownsMap Tryz.prog 3 (plainElem Tryz.prog 3) B n D ∧ ∀ x : Int, (Lit.int .i64 x).wf = true → D.atKey (.int .i64 x) (.lit (.int .i64 0)) = .lit (.int .i64 (f x))
theorem MapI.made (w : World) : MapI (w.alloc (.map #[] 0)) w.heap.size 0 (fun _ => 0) :=
  ⟨.map [], World.ownsMap_made w _ _ _, fun x _ => by simp [DataW.atKey]⟩
theorem MapI.lt {w : World} {B n : Nat} {f : Int → Int} (h : MapI w B n f) : B < w.heap.size := by
  obtain ⟨D, ho, _⟩ := h; exact ho.lt
theorem MapI.block {w w' : World} {B n : Nat} {f : Int → Int} (h : MapI w B n f) (hb : w'.heap[B]? = w.heap[B]?) : MapI w' B n f := by
  obtain ⟨D, ho, ha⟩ := h
  obtain ⟨es, clock, h1, h2⟩ := ho
  exact ⟨D, ⟨es, clock, hb.trans h1, h2⟩, ha⟩
theorem MapI.below {w w' : World} {B n : Nat} {f : Int → Int} (h : MapI w B n f) (hb : Below w.heap.size w w') : MapI w' B n f := h.block (hb.block _ h.lt)
/-- A copy, as it reads. -/
def copyElem (v : Value) : Option (DataW Unit × List MemPlace) :=
  match v with
  | .agg c => match c.toList with
    | [.int .i64 a, .string s] => some (.agg [.lit (.int .i64 a), .lit (.string s.data.toList)], [])
    | _ => none
  | _ => none
def copyD (c : Int × ByteArray) : DataW Unit := .agg [.lit (.int .i64 c.1), .lit (.string c.2.data.toList)]
theorem copyElem_mk (a : Int) (s : ByteArray) : copyElem (.agg #[.int .i64 a, .string s]) = some (copyD (a, s), []) := rfl
theorem copyElem_inv {v : Value} {a : Int} {s : ByteArray} {ps : List MemPlace} (h : copyElem v = some (copyD (a, s), ps)) : v = .agg #[.int .i64 a, .string s] := by
  unfold copyElem at h
  split at h
  · rename_i c
    split at h
    · rename_i a' s' hc
      simp only [copyD, Option.some.injEq, Prod.mk.injEq, DataW.agg.injEq, List.cons.injEq, DataW.lit.injEq, Lit.int.injEq, Lit.string.injEq, and_true, true_and] at h
      obtain ⟨⟨rfl, h2⟩, _⟩ := h
      have e : s' = s := by
        cases s' with | mk d => cases s with | mk d2 =>
        simp only at h2
        congr 1
        exact Array.ext' h2
      subst e
      have : c = #[.int .i64 a', .string s'] := by
        apply Array.ext'
        rw [hc]
      rw [this]
    · cases h
  · cases h

/-- Block B is a map of copies. -/
def MapC (w : World) (B n : Nat) (f : Int → Option (Int × ByteArray)) : Prop :=
  ∃ D : DataW Unit, w.ownsMap Tryz.prog 3 copyElem B n D ∧ ∀ x : Int, (Lit.int .i64 x).wf = true → Maps.has D (.int .i64 x) = (f x).isSome ∧ ∀ c, f x = some c → ∀ z, D.atKey (.int .i64 x) z = copyD c
theorem MapC.made (w : World) : MapC (w.alloc (.map #[] 0)) w.heap.size 0 (fun _ => none) :=
  ⟨.map [], World.ownsMap_made w _ _ _, fun x _ => ⟨rfl, fun c h => by cases h⟩⟩
theorem MapC.lt {w : World} {B n : Nat} {f : Int → Option (Int × ByteArray)} (h : MapC w B n f) : B < w.heap.size := by
  obtain ⟨D, ho, _⟩ := h; exact ho.lt
theorem MapC.block {w w' : World} {B n : Nat} {f : Int → Option (Int × ByteArray)} (h : MapC w B n f) (hb : w'.heap[B]? = w.heap[B]?) : MapC w' B n f := by
  obtain ⟨D, ho, ha⟩ := h
  obtain ⟨es, clock, h1, h2⟩ := ho
  exact ⟨D, ⟨es, clock, hb.trans h1, h2⟩, ha⟩
theorem MapC.below {w w' : World} {B n : Nat} {f : Int → Option (Int × ByteArray)} (h : MapC w B n f) (hb : Below w.heap.size w w') : MapC w' B n f := h.block (hb.block _ h.lt)
end Go.Proofs.YtjnpndfpajjihabGreat

namespace Go.Proofs.YtjnpndfpajjihabGreat
open Go.RowKit

theorem wfI {x : Int} (h0 : -9223372036854775808 ≤ x) (h1 : x ≤ 9223372036854775807) : (Lit.int .i64 x).wf = true := by
  have e1 : IntKind.i64.min = -9223372036854775808 := by decide
  have e2 : IntKind.i64.max = 9223372036854775807 := by decide
  simp only [Lit.wf, e1, e2, Bool.and_eq_true, decide_eq_true_eq]
  exact ⟨h0, h1⟩
/-- A transaction with few blocks. -/
def Few (t : Tx) : Prop := t.rev.length ≤ 12 ∧ t.info.length ≤ 12 ∧ (∀ x ∈ t.rev, 0 ≤ x ∧ x ≤ 11) ∧ ∀ x ∈ t.info, 0 ≤ x.1 ∧ x.1 ≤ 11
/-- Which transaction, of some, is the last to name a block. -/
def nameB (t : Tx) (b : Int) : Bool := amongB t.rev b || amongB (blksOf t.info) b
def lastK (l : List Tx) : Nat → Int → Int
  | 0 => fun _ => 0
  | k + 1 => fun b => if nameB (l.getD k txz) b = true then (k : Int) else lastK l k b
def revK (t : Tx) (k : Nat) (f : Int → Int) (q : Nat) : Int → Int := fun b => if amongB (t.rev.take q) b = true then (k : Int) else f b
def infoK (t : Tx) (k : Nat) (f : Int → Int) (p : Nat) : Int → Int := fun b => if (amongB t.rev b || amongB (blksOf (t.info.take p)) b) = true then (k : Int) else f b
theorem revK_succ {t : Tx} {q : Nat} {x : Int} (h : t.rev[q]? = some x) (k : Nat) (f : Int → Int) : revK t k f (q + 1) = fun z => if z = x then (k : Int) else revK t k f q z := by
  funext z
  unfold revK
  rw [List.take_add_one, h, amongB, amongB, List.any_append]
  by_cases e : z = x
  · simp [e]
  · have : ¬ x = z := fun y => e y.symm
    simp [e, this]
theorem infoK_succ {t : Tx} {p : Nat} {x : Int × ByteArray} (h : t.info[p]? = some x) (k : Nat) (f : Int → Int) : infoK t k f (p + 1) = fun z => if z = x.1 then (k : Int) else infoK t k f p z := by
  funext z
  unfold infoK blksOf
  rw [List.take_add_one, h, List.map_append, amongB, amongB, amongB, List.any_append]
  by_cases e : z = x.1
  · simp [e]
  · have : ¬ x.1 = z := fun y => e y.symm
    simp [e, this]
theorem infoK_zero (t : Tx) (k : Nat) (f : Int → Int) : revK t k f t.rev.length = infoK t k f 0 := by
  funext z
  unfold revK infoK
  rw [List.take_length]
  simp [blksOf, amongB]
theorem infoK_all {l : List Tx} {k : Nat} {t : Tx} (h : t = l.getD k txz) : infoK t k (lastK l k) t.info.length = lastK l (k + 1) := by
  funext z
  rw [lastK, ← h]
  unfold infoK nameB
  rw [List.take_length]
end Go.Proofs.YtjnpndfpajjihabGreat
