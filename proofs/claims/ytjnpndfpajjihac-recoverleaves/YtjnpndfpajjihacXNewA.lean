/-
  Maps of the call's own from numbers to numbers and to copies. Nothing of the program is proved here.
  The walk of package scan's lastToName.
  A range over a function whose rounds are counted: what is handed to each round is known by its number, and no round leaves early. Nothing of the program is proved here.
  slices.Backward over copies: the walk of the call, and the word of the iterator that it hands back.
  A range over a function whose rounds are counted, of which a round may change maps too. Nothing of the program is proved here.
  The walk of package scan's newestCopies.
  The walk of package scan's Replay: what it answers is the newest copies.
-/
import Derived.Test.YtjnpndfpajjihacTRows
import Derived.Maps.Own
import Derived.Maps.OwnSet
import Derived.Test.YtjnpndfpajjihacXPure
import Derived.Test.YtjnpndfpajjihacXRowsA
import Derived.RangeFuncNested
import Derived.RangeFuncBound
import Derived.RangeFuncCalls
import Derived.RangeFuncLeaves
import Derived.Shelf.Abstract
import Derived.Shelf.RegionOpen
import Derived.WalkKit
import Derived.OwnWalkIn
import Derived.TacticsInMore
import Derived.LoopNIn
import Derived.LoopIn
import Derived.Test.YtjnpndfpajjihacBase
import Derived.Test.YtjnpndfpajjihacXScanAll
namespace Go.Proofs.Ytjnpndfpajjihac
open Go.RowKit

theorem keyN : Maps.Keyed Try.prog 3 := Maps.int_keyed Try.underlying3
theorem zeroN (w : World) : (zeroValue 3).run Try.prog w = .ok (.int .i64 0) w := by kernel_rfl
theorem zeroCp (w : World) : (zeroValue 71).run Try.prog w = .ok (.agg #[.int .i64 0, .string ⟨#[]⟩]) w := by kernel_rfl

/-- Block B is a map of numbers: what is found at each, 0 where there is none; it has no more than so many. -/
def MapI (w : World) (B n : Nat) (f : Int → Int) : Prop :=
  ∃ D : DataW Unit, w.ownsMap Try.prog 3 (plainElem Try.prog 3) B n D ∧ ∀ x : Int, (Lit.int .i64 x).wf = true → D.atKey (.int .i64 x) (.lit (.int .i64 0)) = .lit (.int .i64 (f x))
theorem MapI.made (w : World) : MapI (w.alloc (.map #[] 0)) w.heap.size 0 (fun _ => 0) :=
  ⟨.map [], World.ownsMap_made w _ _ _, fun x _ => by simp [DataW.atKey]⟩
theorem MapI.lt {w : World} {B n : Nat} {f : Int → Int} (h : MapI w B n f) : B < w.heap.size := by
  obtain ⟨D, ho, _⟩ := h; exact ho.lt
theorem MapI.block {w w' : World} {B n : Nat} {f : Int → Int} (h : MapI w B n f) (hb : w'.heap[B]? = w.heap[B]?) : MapI w' B n f := by
  obtain ⟨D, ho, ha⟩ := h
  obtain ⟨es, clock, h1, h2⟩ := ho
  exact ⟨D, ⟨es, clock, hb.trans h1, h2⟩, ha⟩
theorem MapI.below {w w' : World} {B n : Nat} {f : Int → Int} (h : MapI w B n f) (hb : Below w.heap.size w w') : MapI w' B n f := h.block (hb.block _ h.lt)
theorem MapI.look {w : World} {B n : Nat} {f : Int → Int} (h : MapI w B n f) (x : Int) (hx : (Lit.int .i64 x).wf = true) :
    (Instr.lookup 105 (.map (some B)) (.int .i64 x) false).run Try.prog w = .ok (.int .i64 (f x)) w := by
  obtain ⟨D, ho, ha⟩ := h
  obtain ⟨c, hrun, hat, _⟩ := ho.lookup_int keyN Try.underlying105 Try.underlying3 (zeroN w) (Maps.keyOf_int_mk Try.underlying3 hx)
  rw [ha x hx] at hat
  simp only [DataW.lit.injEq, Lit.int.injEq, true_and] at hat
  rw [hrun, hat]
theorem MapI.store {w : World} {B n : Nat} {f : Int → Int} (h : MapI w B n f) (x y : Int) (hx : (Lit.int .i64 x).wf = true) (hy : (Lit.int .i64 y).wf = true) (hn : n < maxLen) :
    ∃ w', (Instr.mapUpdate 105 (.map (some B)) (.int .i64 x) (.int .i64 y)).run Try.prog w = .ok () w' ∧ MapI w' B (n + 1) (fun z => if z = x then y else f z) ∧ w.grownBy w' (some B) := by
  obtain ⟨D, ho, ha⟩ := h
  have him := ho.isMap
  obtain ⟨w', hrun, ho', hg⟩ := ho.update keyN Try.underlying105 hn (Maps.keyOf_int_mk Try.underlying3 hx) (plainElem_int Try.underlying3 hy)
  refine ⟨w', hrun, ⟨_, ho', fun z hz => ?_⟩, hg⟩
  by_cases e : z = x
  · subst e
    rw [Maps.atKey_put_same him (by simp [WideAt.IsKeyLit])]
    simp
  · rw [Maps.atKey_put_other (by simp [e]), ha z hz]
    simp [e]

/-- A copy, as it reads. -/
def copyElem (v : Value) : Option (DataW Unit × List MemPlace) :=
  match v with
  | .agg c => match c.toList with
    | [.int .i64 a, .string s] => some (.agg [.lit (.int .i64 a), .lit (.string s.data.toList)], [])
    | _ => none
  | _ => none
def copyD (c : Int × ByteArray) : DataW Unit := .agg [.lit (.int .i64 c.1), .lit (.string c.2.data.toList)]
theorem copyElem_mk (a : Int) (s : ByteArray) : copyElem (.agg #[.int .i64 a, .string s]) = some (copyD (a, s), []) := rfl
theorem copyElem_inv {v : Value} {a : Int} {s : ByteArray} {ps : List MemPlace} (h : copyElem v = some (copyD (a, s), ps)) : v = .agg #[.int .i64 a, .string s] := by
  unfold copyElem at h
  split at h
  · rename_i c
    split at h
    · rename_i a' s' hc
      simp only [copyD, Option.some.injEq, Prod.mk.injEq, DataW.agg.injEq, List.cons.injEq, DataW.lit.injEq, Lit.int.injEq, Lit.string.injEq, and_true, true_and] at h
      obtain ⟨⟨rfl, h2⟩, _⟩ := h
      have e : s' = s := by
        cases s' with | mk d => cases s with | mk d2 =>
        simp only at h2
        congr 1
        exact Array.ext' h2
      subst e
      have : c = #[.int .i64 a', .string s'] := by
        apply Array.ext'
        rw [hc]
      rw [this]
    · cases h
  · cases h

/-- Block B is a map of copies. -/
def MapC (w : World) (B n : Nat) (f : Int → Option (Int × ByteArray)) : Prop :=
  ∃ D : DataW Unit, w.ownsMap Try.prog 3 copyElem B n D ∧ ∀ x : Int, (Lit.int .i64 x).wf = true → Maps.has D (.int .i64 x) = (f x).isSome ∧ ∀ c, f x = some c → ∀ z, D.atKey (.int .i64 x) z = copyD c
theorem MapC.made (w : World) : MapC (w.alloc (.map #[] 0)) w.heap.size 0 (fun _ => none) :=
  ⟨.map [], World.ownsMap_made w _ _ _, fun x _ => ⟨rfl, fun c h => by cases h⟩⟩
theorem MapC.lt {w : World} {B n : Nat} {f : Int → Option (Int × ByteArray)} (h : MapC w B n f) : B < w.heap.size := by
  obtain ⟨D, ho, _⟩ := h; exact ho.lt
theorem MapC.block {w w' : World} {B n : Nat} {f : Int → Option (Int × ByteArray)} (h : MapC w B n f) (hb : w'.heap[B]? = w.heap[B]?) : MapC w' B n f := by
  obtain ⟨D, ho, ha⟩ := h
  obtain ⟨es, clock, h1, h2⟩ := ho
  exact ⟨D, ⟨es, clock, hb.trans h1, h2⟩, ha⟩
theorem MapC.below {w w' : World} {B n : Nat} {f : Int → Option (Int × ByteArray)} (h : MapC w B n f) (hb : Below w.heap.size w w') : MapC w' B n f := h.block (hb.block _ h.lt)
theorem MapC.lookNone {w : World} {B n : Nat} {f : Int → Option (Int × ByteArray)} (h : MapC w B n f) (x : Int) (hx : (Lit.int .i64 x).wf = true) (hf : f x = none) :
    (Instr.lookup 78 (.map (some B)) (.int .i64 x) true).run Try.prog w = .ok (.tuple #[.agg #[.int .i64 0, .string ⟨#[]⟩], .bool false]) w := by
  obtain ⟨D, ho, ha⟩ := h
  obtain ⟨v, ps, hrun, hv⟩ := ho.look_ok keyN Try.underlying78 (zeroCp w) (copyElem_mk 0 ⟨#[]⟩) (Maps.keyOf_int_mk Try.underlying3 hx)
  have h1 := (ha x hx).1
  rw [hf] at h1
  have h1' : Maps.has D (.int .i64 x) = false := h1
  rw [Maps.atKey_of_not_has h1'] at hv
  rw [hrun, h1', copyElem_inv hv]
theorem MapC.lookSome {w : World} {B n : Nat} {f : Int → Option (Int × ByteArray)} (h : MapC w B n f) (x : Int) (hx : (Lit.int .i64 x).wf = true) {a : Int} {s : ByteArray} (hf : f x = some (a, s)) :
    (Instr.lookup 78 (.map (some B)) (.int .i64 x) true).run Try.prog w = .ok (.tuple #[.agg #[.int .i64 a, .string s], .bool true]) w := by
  obtain ⟨D, ho, ha⟩ := h
  obtain ⟨v, ps, hrun, hv⟩ := ho.look_ok keyN Try.underlying78 (zeroCp w) (copyElem_mk 0 ⟨#[]⟩) (Maps.keyOf_int_mk Try.underlying3 hx)
  have h1 := (ha x hx).1
  rw [hf] at h1
  have h1' : Maps.has D (.int .i64 x) = true := h1
  rw [(ha x hx).2 _ hf] at hv
  rw [hrun, h1', copyElem_inv hv]
theorem MapC.store {w : World} {B n : Nat} {f : Int → Option (Int × ByteArray)} (h : MapC w B n f) (x a : Int) (s : ByteArray) (hx : (Lit.int .i64 x).wf = true) (hn : n < maxLen) :
    ∃ w', (Instr.mapUpdate 78 (.map (some B)) (.int .i64 x) (.agg #[.int .i64 a, .string s])).run Try.prog w = .ok () w' ∧ MapC w' B (n + 1) (fun z => if z = x then some (a, s) else f z) ∧ w.grownBy w' (some B) := by
  obtain ⟨D, ho, ha⟩ := h
  have him := ho.isMap
  obtain ⟨w', hrun, ho', hg⟩ := ho.update keyN Try.underlying78 hn (Maps.keyOf_int_mk Try.underlying3 hx) (copyElem_mk a s)
  refine ⟨w', hrun, ⟨_, ho', fun z hz => ?_⟩, hg⟩
  by_cases e : z = x
  · subst e
    refine ⟨?_, fun c hc z' => ?_⟩
    · rw [Maps.has_put_same him (by simp [WideAt.IsKeyLit])]; simp
    · rw [Maps.atKey_put_same him (by simp [WideAt.IsKeyLit])]
      simp at hc
      rw [hc]
  · refine ⟨?_, fun c hc z' => ?_⟩
    · rw [Maps.has_put_other (by simp [e]), (ha z hz).1]; simp [e]
    · rw [Maps.atKey_put_other (by simp [e])]
      simp only [if_neg e] at hc
      exact (ha z hz).2 c hc z'

end Go.Proofs.Ytjnpndfpajjihac

namespace Go.Proofs.Ytjnpndfpajjihac
open Go.RowKit

theorem wfI {x : Int} (h0 : -9223372036854775808 ≤ x) (h1 : x ≤ 9223372036854775807) : (Lit.int .i64 x).wf = true := by
  have e1 : IntKind.i64.min = -9223372036854775808 := by decide
  have e2 : IntKind.i64.max = 9223372036854775807 := by decide
  simp only [Lit.wf, e1, e2, Bool.and_eq_true, decide_eq_true_eq]
  exact ⟨h0, h1⟩
/-- A transaction with few blocks. -/
def Few (t : Tx) : Prop := t.rev.length ≤ 12 ∧ t.info.length ≤ 12 ∧ (∀ x ∈ t.rev, 0 ≤ x ∧ x ≤ 11) ∧ ∀ x ∈ t.info, 0 ≤ x.1 ∧ x.1 ≤ 11
/-- Which transaction, of some, is the last to name a block. -/
def nameB (t : Tx) (b : Int) : Bool := amongB t.rev b || amongB (blksOf t.info) b
def lastK (l : List Tx) : Nat → Int → Int
  | 0 => fun _ => 0
  | k + 1 => fun b => if nameB (l.getD k txz) b = true then (k : Int) else lastK l k b
def revK (t : Tx) (k : Nat) (f : Int → Int) (q : Nat) : Int → Int := fun b => if amongB (t.rev.take q) b = true then (k : Int) else f b
def infoK (t : Tx) (k : Nat) (f : Int → Int) (p : Nat) : Int → Int := fun b => if (amongB t.rev b || amongB (blksOf (t.info.take p)) b) = true then (k : Int) else f b
theorem revK_succ {t : Tx} {q : Nat} {x : Int} (h : t.rev[q]? = some x) (k : Nat) (f : Int → Int) : revK t k f (q + 1) = fun z => if z = x then (k : Int) else revK t k f q z := by
  funext z
  unfold revK
  rw [List.take_add_one, h, amongB, amongB, List.any_append]
  by_cases e : z = x
  · simp [e]
  · have : ¬ x = z := fun y => e y.symm
    simp [e, this]
theorem infoK_succ {t : Tx} {p : Nat} {x : Int × ByteArray} (h : t.info[p]? = some x) (k : Nat) (f : Int → Int) : infoK t k f (p + 1) = fun z => if z = x.1 then (k : Int) else infoK t k f p z := by
  funext z
  unfold infoK blksOf
  rw [List.take_add_one, h, List.map_append, amongB, amongB, amongB, List.any_append]
  by_cases e : z = x.1
  · simp [e]
  · have : ¬ x.1 = z := fun y => e y.symm
    simp [e, this]
theorem infoK_zero (t : Tx) (k : Nat) (f : Int → Int) : revK t k f t.rev.length = infoK t k f 0 := by
  funext z
  unfold revK infoK
  rw [List.take_length]
  simp [blksOf, amongB]
theorem infoK_all {l : List Tx} {k : Nat} {t : Tx} (h : t = l.getD k txz) : infoK t k (lastK l k) t.info.length = lastK l (k + 1) := by
  funext z
  rw [lastK, ← h]
  unfold infoK nameB
  rw [List.take_length]

set_option maxHeartbeats 8000000 in
set_option maxRecDepth 100000 in
theorem lastToName_any (a : Option Addr) (c : Nat) (l : List Tx) (w : World) (h : SegTx w a l) (hn : l.length * 128 ≤ 140737488355328) (hf : ∀ t ∈ l, Few t) :
    Calls Try.prog 46 #[.slice a l.length c] w fun e w' => ∃ B n, e = .returned (.map (some B)) ∧ MapI w' B n (lastK l l.length) ∧ w.heap.size ≤ B ∧ Below w.heap.size w w' := by
  have HS := hide h
  have HW := hide hf
  clear h hf
  have hmk := fun w : World => run_makeMap (P := Try.prog) 105 w
  go_enter Try.func46, Try.ntmps46
  go_wp2
  clear hmk
  go_loopw [13] (fun i wr => ∃ k n : Nat, k ≤ l.length ∧ i = .int .i64 k ∧ n ≤ 24 * k ∧ Hid (MapI wr w.heap.size n (lastK l k)) ∧ Hid (Below w.heap.size w wr)) (fun i _ => l.length - (intOf i).toNat)
  case atStart => exact ⟨0, 0, Nat.zero_le _, rfl, Nat.zero_le _, MapI.made w, below1 _ _⟩
  case round =>
    obtain ⟨wo, hwo⟩ : ∃ wo, wo = wr := ⟨_, rfl⟩
    subst hwo
    obtain ⟨k, n, hk, rfl, hnk, hMap, hbr⟩ := hrel
    have hwm := MapI.lt hMap.out
    by_cases hlt : k < l.length
    · obtain ⟨b2, off, rfl, hb, hc⟩ := HS.out.resolve_left (by intro e; rw [e] at hlt; simp at hlt)
      obtain ⟨t, ht⟩ : ∃ t, t = l.getD k txz := ⟨_, rfl⟩
      have HX : Hid (l[k]? = some t) := by rw [ht]; exact tx_at hlt
      have hcj := hc k hlt
      rw [← ht] at hcj
      obtain ⟨a0, c0, a1, c1, r, d, ⟨x0, x1, x2, x3, x4, x5, x6, x7, x8, x9⟩, hT⟩ := hcj
      obtain ⟨s1, _, s3, _, _, _⟩ := hT.rows
      replace x0 := cellKeep hbr.out hb x0
      replace x1 := cellKeep hbr.out hb x1
      replace x2 := cellKeep hbr.out hb x2
      replace x3 := cellKeep hbr.out hb x3
      replace x4 := cellKeep hbr.out hb x4
      replace x5 := cellKeep hbr.out hb x5
      replace x6 := cellKeep hbr.out hb x6
      replace x7 := cellKeep hbr.out hb x7
      replace x8 := cellKeep hbr.out hb x8
      replace x9 := cellKeep hbr.out hb x9
      obtain ⟨w1, w2, w3, w4⟩ := HW.out t (List.mem_of_getElem? HX.out)
      have HM := hide s1
      have HR := hide s3
      have W3 := hide w3
      have W4 := hide w4
      have HD := hide (infoK_all ht)
      have hlt' : (k : Int) < (l.length : Int) := by omega
      have hkw : (Lit.int .i64 (k : Int)).wf = true := wfI (by omega) (by omega)
      have HKW := hide hkw
      clear ht hc hT s1 s3 w3 w4 hkw
      generalize lastK l k = f at *
      go_wp2
      clear x0 x1 x2 x3 x4 x5 x6 x7 x8 x9
      go_loopw [21] (fun i wr => ∃ q n : Nat, q ≤ t.rev.length ∧ i = .int .i64 q ∧ n ≤ 24 * k + q ∧ Hid (MapI wr w.heap.size n (revK t k f q)) ∧ Hid (wr.heap[wo.heap.size]? = some (.cells #[.int .i64 t.seq, .slice a0 t.info.length c0, .slice a1 t.data.length c1, .slice r t.rev.length d, .bool t.h0.on, .int .i64 t.h0.left, .bool t.h1.on, .int .i64 t.h1.left, .bool t.h2.on, .int .i64 t.h2.left] 50 (0, 0))) ∧ wo.heap.size < wr.heap.size ∧ Hid (Below w.heap.size w wr)) (fun i _ => t.rev.length - (intOf i).toNat)
      case atStart => exact ⟨0, n, Nat.zero_le _, rfl, by omega, hMap.out.below (below1 _ _), heap_alloc_new wo _, by simp, bthen hbr.out (below1 _ _)⟩
      case round =>
        obtain ⟨q, n2, hq, rfl, hn2, hM1, K1, hs1, hb1⟩ := hrel
        by_cases hq2 : q < t.rev.length
        · obtain ⟨b3, off3, rfl, hb3, hc3⟩ := HR.out.resolve_left (by intro e; rw [e] at hq2; simp at hq2)
          obtain ⟨x, hx⟩ : ∃ x, x = t.rev.getD q 0 := ⟨_, rfl⟩
          have g3 := cellKeep hb1.out hb3 (hc3 q hq2)
          rw [← hx] at g3
          have HX3 : Hid (t.rev[q]? = some x) := by rw [hx]; exact getD_at _ _ _ hq2
          have hxr := W3.out x (List.mem_of_getElem? HX3.out)
          have HF := hide (revK_succ HX3.out k f)
          have hq' : (q : Int) < (t.rev.length : Int) := by omega
          obtain ⟨w2', hrun, hM2, hg2⟩ := hM1.out.store x (k : Int) (wfI (by omega) (by omega)) HKW.out (by unfold maxLen; omega)
          clear hx hc3 HX3
          go_wp2
          have HM2 := hide hM2
          have HB2 : Hid (Below w.heap.size w w2') := hb1.out.grown hg2 hb1.out.size (fun j hj => by cases hj; exact Nat.le_refl _)
          have K2 : Hid (w2'.heap[wo.heap.size]? = _) := (hg2.block _ hs1 (by intro e; have := Option.some.inj e; omega)).trans K1.out
          have hs2 := Nat.lt_of_lt_of_le hs1 hg2.size
          go_roundw
          case rel => exact ⟨q + 1, n2 + 1, by omega, by go_num, by omega, by rw [HF.out]; exact HM2, K2, hs2, HB2⟩
          case measure => simp [intOf]; omega
        · have e : q = t.rev.length := by omega
          subst e
          rw [infoK_zero] at hM1
          have hq' : ¬ ((t.rev.length : Int) < (t.rev.length : Int)) := by omega
          obtain ⟨⟨y0, y1, y2, y3, y4, y5, y6, y7, y8, y9⟩, _⟩ := box10 K1.out
          go_wp2
          clear y0 y1 y2 y3 y4 y5 y6 y7 y8 y9 K1 hs1
          go_loopw [32] (fun i wr => ∃ p n : Nat, p ≤ t.info.length ∧ i = .int .i64 p ∧ n ≤ 24 * k + 12 + p ∧ Hid (MapI wr w.heap.size n (infoK t k f p)) ∧ Hid (Below w.heap.size w wr)) (fun i _ => t.info.length - (intOf i).toNat)
          case atStart => exact ⟨0, n2, Nat.zero_le _, rfl, by omega, hM1, hb1⟩
          case round =>
            clear hM1 hb1
            obtain ⟨p, n3, hp, rfl, hn3, hM1, hb1⟩ := hrel
            by_cases hp2 : p < t.info.length
            · obtain ⟨b3, off3, rfl, hb3, hc3⟩ := HM.out.resolve_left (by intro e; rw [e] at hp2; simp at hp2)
              obtain ⟨x, hx⟩ : ∃ x, x = t.info.getD p (0, ByteArray.empty) := ⟨_, rfl⟩
              obtain ⟨g1, g2⟩ := hc3 p hp2
              replace g1 := cellKeep hb1.out hb3 g1
              replace g2 := cellKeep hb1.out hb3 g2
              rw [← hx] at g1 g2
              have HX3 : Hid (t.info[p]? = some x) := by rw [hx]; exact getD_at _ _ _ hp2
              have hxr := W4.out x (List.mem_of_getElem? HX3.out)
              have HF := hide (infoK_succ HX3.out k f)
              have hp' : (p : Int) < (t.info.length : Int) := by omega
              clear hx hc3 HX3
              obtain ⟨nn, s⟩ := x
              obtain ⟨w2', hrun, hM2, hg2⟩ := (hM1.out.below (below1 wr (.cells #[.int .i64 nn, .string s] 71 (0, 0)))).store nn (k : Int) (wfI (by have := hxr.1; simp at this; omega) (by have := hxr.2; simp at this; omega)) HKW.out (by unfold maxLen; omega)
              go_wp2
              have HM2 := hide hM2
              have HB2 : Hid (Below w.heap.size w w2') := (bthen hb1.out (below1 _ _)).grown hg2 (bthen hb1.out (below1 _ _)).size (fun j hj => by cases hj; exact Nat.le_refl _)
              go_roundw
              case rel => exact ⟨p + 1, n3 + 1, by omega, by go_num, by omega, by rw [HF.out]; exact HM2, HB2⟩
              case measure => simp [intOf]; omega
            · have e : p = t.info.length := by omega
              subst e
              have hp' : ¬ ((t.info.length : Int) < (t.info.length : Int)) := by omega
              go_wp2
              go_roundw
              case rel => exact ⟨k + 1, n3, by omega, by go_num, by omega, by rw [← HD.out]; exact hM1, hb1⟩
              case measure => simp [intOf]; omega
    · have e : k = l.length := by omega
      subst e
      go_wp2
      go_ret
      exact ⟨_, _, rfl, hMap.out, Nat.le_refl _, hbr.out⟩

end Go.Proofs.Ytjnpndfpajjihac

namespace Go.Proofs.Ytjnpndfpajjihac
open Go.RowKit

/-- An iterator's word: it calls its loop's rounds 0, 1, .. one behind another, each with the values of its number, and then returns. -/
def CountsTo (F : Fence) (n : Nat) (P : Program) (g : Nat) (lb : Array Value) (vals : Nat → Array Value) (N : Nat) (Kp : World → World → Prop) (w : World) : Prop :=
  ∀ (l : Nat) (J : Nat → World → Prop) (W : World), Below w.heap.size w W → (∀ k V, J k V → J k V.drew) →
    (∀ k V, k < N → J k V → YieldAt F (n - 1) P l (vals k) V fun e V' => e = .returned (.bool true) ∧ J (k + 1) V' ∧ Kp V V') →
    J 0 W → CallsIn F n P g (#[.func (.yield l) #[] #[]] ++ lb) W fun e W' => (∃ v, e = .returned v) ∧ J N W'

section
variable {F : Fence} {n : Nat} {P : Program}

/-- How a round's body ends: it goes on. -/
def GoesOn (Kp : World → World → Prop) (I : World → Prop) (W : World) : Exit → Act → World → Prop
  | .normal, _, W' => KeepsOthers W W' ∧ Kp W W' ∧ I W'
  | _, _, _ => False

/-- The statement itself. -/
theorem range_counted {g : Operand} {ps : Array Tmp} {assign body : Code} {Q : Exit → Act → World → Prop} {a : Act} {w w0 : World} {gf : Nat} {lb : Array Value} {vals : Nat → Array Value} {N : Nat} {Kp : World → World → Prop}
    (hro : F.round = none) (h1 : 1 ≤ n) (hg : a.eval g = .func (.func gf) #[] lb) (hF : F.fn gf) (eg : ∀ args w, (callFunc gf args).run P w = .ok (.enter gf args) w)
    (hc : CountsTo F (n - 1) P gf lb vals N Kp w0) (hb0 : Below w0.heap.size w0 w) (hKt : ∀ A B C : World, Kp A B → Kp B C → Kp A C)
    (hKb : ∀ (W : World) (r : Nat) (o o' : Obj), W.heap[r]? = some o → o.isCells = false → Kp W (W.putObj r o')) (hps : ∀ k, (vals k).size = ps.size)
    (I : Nat → World → Prop) (hI : ∀ k (A B : World) (row : Option Nat), I k A → A.grownBy B row → (∀ r, row = some r → w.heap.size ≤ r ∧ ∃ o : Obj, A.heap[r]? = some o ∧ o.isCells = false) → I k B) (hd : ∀ k V, I k V → I k V.drew) (h0 : I 0 w) (a₁ : Nat → Act)
    (hassign : ∀ (l k : Nat) (W : World) (K : Act → World → Prop), K (a₁ k) W →
      assign.wpIn (F.inRound l) (n - 1 - 1) P (Exit.then K (fun _ _ _ => False)) { tmps := (ps.zip (vals k)).foldl (fun t (p, v) => t.setIfInBounds p v) a.tmps, defers := [] } W)
    (hbody : ∀ (l k : Nat) (W : World), k < N → I k W → body.wpIn (F.inRound l) (n - 1 - 1) P (GoesOn Kp (I (k + 1)) W) (a₁ k) W)
    (hdone : ∀ (D : Nat) (W : World), w.heap.size ≤ D → I N W → W.heap[D]? = some (.deferred (some [])) → Q .normal { a with defers := { target := .collected D, args := #[] } :: a.defers } W) :
    (Code.rangeFunc g ps assign body).wpIn F n P Q a w := by
  refine wpIn_rangeFunc fun fn hfn => ?_
  rw [hro]
  obtain ⟨L, hL⟩ : ∃ L : LoopState → Loop, L = fun st => { state := st, pending := none, fn, tmps := a.tmps, params := ps, assign, body, defers := w.heap.size } := ⟨_, rfl⟩
  obtain ⟨V, hV⟩ : ∃ V, V = (w.alloc (.deferred (some []))).alloc (.loop (L .ready)) := ⟨_, rfl⟩
  have hz : V.heap.size = w.heap.size + 1 + 1 := by rw [hV]; simp
  have hbV : Below w.heap.size w V := by rw [hV]; exact ((Below.refl _ _).alloc (Nat.le_refl _) _).alloc (by simp) _
  have hl : V.heap[w.heap.size + 1]? = some (.loop (L .ready)) := by
    rw [hV]; have := World.alloc_heap_new (w.alloc (.deferred (some []))) (.loop (L .ready)); rwa [World.size_alloc] at this
  have hk : V.heap[w.heap.size]? = some (.deferred (some [])) := by
    rw [hV]; exact (Below.heap_alloc _ _ _ (by simp)).trans (World.alloc_heap_new w _)
  have hIV : I 0 V := by
    rw [hV]
    exact hI 0 _ _ none (hI 0 _ _ none h0 (World.grownBy_alloc _ _ none) (fun r e => by cases e)) (World.grownBy_alloc _ _ none) (fun r e => by cases e)
  have put : ∀ k A st, I k A → A.heap[w.heap.size + 1]? = some (.loop (L st)) → ∀ o', I k (A.putObj (w.heap.size + 1) o') := fun k A st hi hA o' =>
    hI k _ _ _ hi (grownBy_putObj' A (w.heap.size + 1) o') (fun r e => by cases e; exact ⟨by omega, _, hA, rfl⟩)
  refine ⟨w.heap.size + 1, [{ target := .collected w.heap.size, args := #[] }], V, { target := .fn (.func gf) lb, args := #[.func (.yield (w.heap.size + 1)) #[] #[]] }, V, gf, #[.func (.yield (w.heap.size + 1)) #[] #[]] ++ lb, V, ?_, ?_, ?_, ?_, fun _ => h1, ?_⟩
  · rw [hV, hL]; exact run_enterLoop_outer _ _ _ _ _
  · simp only [resolve, hg]; simp [go_sem]
  · intro f' hf'; simp [Target.leads] at hf'; subst hf'; exact hF
  · simp [invoke, go_sem, eg]
  · refine (hc (w.heap.size + 1) (fun k W => I k W ∧ W.heap[w.heap.size + 1]? = some (.loop (L .ready)) ∧ W.heap[w.heap.size]? = some (.deferred (some []))) V (hb0.trans (hbV.mono hb0.size)) (fun k W h => ⟨hd k W h.1, h.2.1, h.2.2⟩) ?_ ⟨hIV, hl, hk⟩).mono ?_
    · rintro k W hkN ⟨hi, hl1, hk1⟩
      have hlt := (Array.getElem?_eq_some_iff.1 hl1).1
      have hy := run_yield (P := P) (args := vals k) hl1 (by rw [hL]; exact hps k)
      rw [hL] at hy
      refine ⟨fn, _, assign, body, hy, roundIn_of_wpIn hfn (hassign _ k W _ ⟨_, run_beginRound hl1 (by rw [hL]), ?_⟩)⟩
      have e2 : (W.putObj (w.heap.size + 1) (.loop { L .ready with state := .busy })).heap[w.heap.size + 1]? = some (.loop (L .busy)) := by rw [hL]; exact World.putObj_heap_same hlt
      have k2 : (W.putObj (w.heap.size + 1) (.loop { L .ready with state := .busy })).heap[w.heap.size]? = some (.deferred (some [])) := (World.putObj_heap_other (by omega)).trans hk1
      refine wpIn_mono (hbody _ k _ hkN (put k W _ hi hl1 _)) ?_
      rintro e a3 W3 hp
      cases e with
      | normal =>
        obtain ⟨q1, q2, q3⟩ := hp
        have e3 := q1.same _ _ e2 rfl
        have k3 := q1.same _ _ k2 rfl
        have hr := run_endRound (P := P) none e3
        refine ⟨_, _, hr, rfl, ⟨put (k + 1) W3 _ q3 e3 _, ?_, (World.putObj_heap_other (by omega)).trans k3⟩, hKt _ _ _ (hKt _ _ _ (hKb _ _ _ _ hl1 rfl) q2) (hKb _ _ _ _ e3 rfl)⟩
        rw [World.putObj_heap_same (Array.getElem?_eq_some_iff.1 e3).1, hL]
        rfl
      | ret => exact hp.elim
      | exit id => exact hp.elim
      | goto t => exact hp.elim
      | panic ch => exact hp.elim
      | outgrown => exact hp.elim
    · rintro e W2 ⟨⟨v, rfl⟩, hi, hl2, hk2⟩
      have hr := run_endLoop (P := P) hl2 (by rw [hL]; simp)
      exact ⟨none, _, by rw [hL] at hr; exact hr, hdone _ _ (Nat.le_refl _) (put N W2 _ hi hl2 _) ((World.putObj_heap_other (by omega)).trans hk2)⟩

end

end Go.Proofs.Ytjnpndfpajjihac

namespace Go.Proofs.Ytjnpndfpajjihac
open Go.RowKit Go.Shelf

attribute [local go_sem] Oper.semAt_some

/-- Two blocks of cells are kept. -/
def KeepsR (Bs Bn : Nat) (W W' : World) : Prop := ∀ k, (k = Bs ∨ k = Bn) → ∀ o, W.heap[k]? = some o → o.isCells = true → W'.heap[k]? = some o
theorem KeepsR.refl (Bs Bn : Nat) (W : World) : KeepsR Bs Bn W W := fun _ _ _ h _ => h
theorem KeepsR.trans {Bs Bn : Nat} (A B C : World) (h : KeepsR Bs Bn A B) (k : KeepsR Bs Bn B C) : KeepsR Bs Bn A C := fun j hj o ho hc => k j hj o (h j hj o ho hc) hc
theorem KeepsR.put {Bs Bn : Nat} (W : World) (r : Nat) (o o' : Obj) (hr : W.heap[r]? = some o) (ho : o.isCells = false) : KeepsR Bs Bn W (W.putObj r o') := by
  intro k _ x hx hc
  by_cases e : k = r
  · subst e
    rw [hr] at hx
    cases hx
    rw [ho] at hc
    cases hc
  · exact (World.putObj_heap_other e).trans hx
theorem cell_heap {W W' : World} {b : Nat} (h : W'.heap[b]? = W.heap[b]?) (o : Nat) : W'.cell? ⟨b, o, none⟩ = W.cell? ⟨b, o, none⟩ := by
  simp only [World.cell?, h]
theorem cell_obj {W : World} {b o : Nat} {v : Value} (h : W.cell? ⟨b, o, none⟩ = some v) : ∃ x, W.heap[b]? = some x ∧ x.isCells = true := by
  unfold World.cell? at h
  split at h
  · rename_i c t f hx
    exact ⟨_, hx, rfl⟩
  · cases h
theorem KeepsR.cell {Bs Bn : Nat} {W W' : World} (h : KeepsR Bs Bn W W') {B : Nat} (hB : B = Bs ∨ B = Bn) {o : Nat} {v : Value} (hc : W.cell? ⟨B, o, none⟩ = some v) : W'.cell? ⟨B, o, none⟩ = some v := by
  obtain ⟨x, h1, h2⟩ := cell_obj hc
  exact (cell_heap ((h B hB x h1 h2).trans h1.symm) o).trans hc

set_option maxHeartbeats 400000 in
theorem backC_in (F : Fence) (n : Nat) (hF : F.fn 47) (hro : F.round = none) (a : Option Addr) (len cap : Nat) (w : World) :
    CallsIn F n Try.prog 47 #[.slice a len cap] w fun e w' => e = .returned (.func (.func 61) #[] #[.pointer (some ⟨w.heap.size, 0, none⟩)]) ∧ w' = w.alloc (.cells #[.slice a len cap] 40) := by
  refine callsIn_of_wp Try.func47 rfl hF ?_ hro
  simp only [Try.ntmps47, List.size_toArray, List.length_cons, List.length_nil, Nat.reduceAdd, Nat.reduceSub, Array.replicate_succ, Array.replicate_zero, List.push_toArray, List.append_toArray, List.nil_append, List.cons_append]
  gi_wp2
  go_ret
  exact ⟨rfl, rfl⟩

set_option maxHeartbeats 4000000 in
set_option maxRecDepth 100000 in
theorem backC_walk (F : Fence) (n : Nat) (hF : F.fn 61) (hro : F.round = none) (hn : 1 ≤ n) (l Bs b off cap : Nat) (m : List (Int × ByteArray)) (hlen : m.length ≤ maxLen) (J : Nat → World → Prop)
    (hY : ∀ k V, k < m.length → J k V → YieldAt F (n - 1) Try.prog l #[.int .i64 ((m.length - 1 - k : Nat) : Int), .agg #[.int .i64 (m.getD (m.length - 1 - k) (0, ByteArray.empty)).1, .string (m.getD (m.length - 1 - k) (0, ByteArray.empty)).2]] V fun e V' => e = .returned (.bool true) ∧ J (k + 1) V' ∧ KeepsR Bs b V V')
    (W : World) (hBs : W.cell? ⟨Bs, 0, none⟩ = some (.slice (some ⟨b, off, none⟩) m.length cap)) (hrow : ∀ i, i < m.length → W.cell? ⟨b, off + i * 2, none⟩ = some (.int .i64 (m.getD i (0, ByteArray.empty)).1) ∧ W.cell? ⟨b, off + i * 2 + 1, none⟩ = some (.string (m.getD i (0, ByteArray.empty)).2)) (h0 : J 0 W) :
    CallsIn F n Try.prog 61 #[.func (.yield l) #[] #[], .pointer (some ⟨Bs, 0, none⟩)] W fun e W' => (∃ v, e = .returned v) ∧ J m.length W' := by
  unfold maxLen at hlen
  refine callsIn_of_wp Try.func61 rfl hF ?_ hro
  simp only [Try.ntmps61, List.size_toArray, List.length_cons, List.length_nil, Nat.reduceAdd, Nat.reduceSub, Array.replicate_succ, Array.replicate_zero, List.push_toArray, List.append_toArray, List.nil_append, List.cons_append]
  gi_wp2
  gi_loopw [3] (fun i wr => ∃ k : Nat, k ≤ m.length ∧ i = .int .i64 ((m.length : Int) - 1 - (k : Int)) ∧ J k wr ∧ KeepsR Bs b W wr) (fun i _ => (intOf i + 1).toNat)
  case atStart => exact ⟨0, Nat.zero_le _, by go_num, h0, KeepsR.refl _ _ _⟩
  case round =>
    obtain ⟨k, hk, rfl, hJs, hKr⟩ := hrel
    have c1 := hKr.cell (.inl rfl) hBs
    by_cases hlt : k < m.length
    · obtain ⟨j, hj⟩ : ∃ j, j = m.length - 1 - k := ⟨_, rfl⟩
      have hjI : (m.length : Int) - 1 - (k : Int) = (j : Int) := by omega
      obtain ⟨r1, r2⟩ := hrow j (by omega)
      have d1 := hKr.cell (.inr rfl) r1
      have d2 := hKr.cell (.inr rfl) r2
      obtain ⟨fn, tmps, assign, body, hy, hR⟩ := hY k wr hlt hJs
      rw [← hj] at hy
      obtain ⟨x, hx⟩ : ∃ x, x = m.getD j (0, ByteArray.empty) := ⟨_, rfl⟩
      rw [← hx] at d1 d2 hy
      rw [hjI]
      have hj0 : (0 : Int) ≤ (j : Int) := by omega
      have hjl : j < m.length := by omega
      have HJ := hide hj
      clear r1 r2 hx hj hjI
      gi_wp2
      refine hR.mono ?_
      rintro e W3 ⟨rfl, hJ3, hk3⟩
      have c3 := KeepsR.trans _ _ _ hKr hk3
      have d3 := c3.cell (.inl rfl) hBs
      clear hR hy d1 d2
      gi_wp2
      go_roundw
      case rel => exact ⟨k + 1, by omega, by have := HJ.out; go_num, hJ3, c3⟩
      case measure => have := HJ.out; first | (simp [intOf]; omega) | simp [intOf]
    · have e : k = m.length := by omega
      subst e
      have hneg : ¬ ((0 : Int) ≤ (m.length : Int) - 1 - (m.length : Int)) := by omega
      gi_wp2
      go_end0
      exact ⟨⟨_, rfl⟩, hJs⟩

set_option maxHeartbeats 1000000 in
set_option maxRecDepth 100000 in
theorem backC_zero (F : Fence) (n : Nat) (hF : F.fn 61) (hro : F.round = none) (l Bs cap : Nat) (a : Option Addr) (J : Nat → World → Prop) (W : World) (hBs : W.cell? ⟨Bs, 0, none⟩ = some (.slice a 0 cap)) (h0 : J 0 W) :
    CallsIn F n Try.prog 61 #[.func (.yield l) #[] #[], .pointer (some ⟨Bs, 0, none⟩)] W fun e W' => (∃ v, e = .returned v) ∧ J 0 W' := by
  refine callsIn_of_wp Try.func61 rfl hF ?_ hro
  simp only [Try.ntmps61, List.size_toArray, List.length_cons, List.length_nil, Nat.reduceAdd, Nat.reduceSub, Array.replicate_succ, Array.replicate_zero, List.push_toArray, List.append_toArray, List.nil_append, List.cons_append]
  gi_wp2
  gi_loopw [3] (fun i wr => i = .int .i64 (-1) ∧ J 0 wr ∧ wr = W) (fun _ _ => 0)
  case atStart => exact ⟨by go_num, h0, rfl⟩
  case round =>
    obtain ⟨rfl, hJs, rfl⟩ := hrel
    gi_wp2
    go_end0
    exact ⟨⟨_, rfl⟩, hJs⟩

/-- The copies that come, one behind another. -/
def backV (m : List (Int × ByteArray)) (k : Nat) : Array Value := #[.int .i64 ((m.length - 1 - k : Nat) : Int), .agg #[.int .i64 (m.getD (m.length - 1 - k) (0, ByteArray.empty)).1, .string (m.getD (m.length - 1 - k) (0, ByteArray.empty)).2]]
def blkOf (a : Option Addr) : Nat := match a with | some x => x.block | none => 0
theorem backC_counts (F : Fence) (n : Nat) (hF : F.fn 61) (hro : F.round = none) (hn : 1 ≤ n) (Bs cap : Nat) (a : Option Addr) (m : List (Int × ByteArray)) (hlen : m.length ≤ maxLen) (w : World) (hlt : Bs < w.heap.size) (hBs : w.cell? ⟨Bs, 0, none⟩ = some (.slice a m.length cap)) (hm : SegW w a m) :
    CountsTo F n Try.prog 61 #[.pointer (some ⟨Bs, 0, none⟩)] (backV m) m.length (KeepsR Bs (blkOf a)) w := by
  intro l J W hW hd hY h0
  rcases hm with rfl | ⟨b, off, rfl, hb, hc⟩
  · exact backC_zero F n hF hro l Bs cap a J W (cellKeep hW hlt hBs) h0
  · exact backC_walk F n hF hro hn l Bs b off cap m hlen J hY W (cellKeep hW hlt hBs) (fun i hi => ⟨cellKeep hW hb (hc i hi).1, cellKeep hW hb (hc i hi).2⟩) h0

end Go.Proofs.Ytjnpndfpajjihac

namespace Go.Proofs.Ytjnpndfpajjihac
open Go.RowKit

section
variable {F : Fence} {n : Nat} {P : Program}

/-- How a round's body ends: it goes on; the loop's own two blocks are kept. -/
def GoesOnM (base : Nat) (Kp : World → World → Prop) (I : World → Prop) (W : World) : Exit → Act → World → Prop
  | .normal, _, W' => (W'.heap[base]? = W.heap[base]? ∧ W'.heap[base + 1]? = W.heap[base + 1]?) ∧ Kp W W' ∧ I W'
  | _, _, _ => False

/-- The statement itself. -/
theorem range_maps {g : Operand} {ps : Array Tmp} {assign body : Code} {Q : Exit → Act → World → Prop} {a : Act} {w w0 : World} {gf : Nat} {lb : Array Value} {vals : Nat → Array Value} {N : Nat} {Kp : World → World → Prop}
    (hro : F.round = none) (h1 : 1 ≤ n) (hg : a.eval g = .func (.func gf) #[] lb) (hF : F.fn gf) (eg : ∀ args w, (callFunc gf args).run P w = .ok (.enter gf args) w)
    (hc : CountsTo F (n - 1) P gf lb vals N Kp w0) (hb0 : Below w0.heap.size w0 w) (hKt : ∀ A B C : World, Kp A B → Kp B C → Kp A C)
    (hKb : ∀ (W : World) (r : Nat) (o o' : Obj), W.heap[r]? = some o → o.isCells = false → Kp W (W.putObj r o')) (hps : ∀ k, (vals k).size = ps.size)
    (I : Nat → World → Prop) (hI : ∀ k (A B : World) (row : Option Nat), I k A → A.grownBy B row → (∀ r, row = some r → w.heap.size ≤ r ∧ ∃ o : Obj, A.heap[r]? = some o ∧ o.isCells = false) → I k B) (hd : ∀ k V, I k V → I k V.drew) (h0 : I 0 w) (J : Nat → Act → World → Prop)
    (hJ : ∀ k a' (A B : World) (row : Option Nat), J k a' A → A.grownBy B row → (∀ r, row = some r → w.heap.size ≤ r ∧ ∃ o : Obj, A.heap[r]? = some o ∧ o.isCells = false) → J k a' B)
    (hassign : ∀ (l k : Nat) (W : World) (K : Act → World → Prop), k < N → I k W → w.heap.size + 1 < W.heap.size → (∀ a' V, V.heap[w.heap.size]? = W.heap[w.heap.size]? → V.heap[w.heap.size + 1]? = W.heap[w.heap.size + 1]? → Kp W V → J k a' V → K a' V) →
      assign.wpIn (F.inRound l) (n - 1 - 1) P (Exit.then K (fun _ _ _ => False)) { tmps := (ps.zip (vals k)).foldl (fun t (p, v) => t.setIfInBounds p v) a.tmps, defers := [] } W)
    (hbody : ∀ (l k : Nat) (a' : Act) (W : World), k < N → J k a' W → w.heap.size + 1 < W.heap.size → body.wpIn (F.inRound l) (n - 1 - 1) P (GoesOnM w.heap.size Kp (I (k + 1)) W) a' W)
    (hdone : ∀ (D : Nat) (W : World), w.heap.size ≤ D → I N W → W.heap[D]? = some (.deferred (some [])) → Q .normal { a with defers := { target := .collected D, args := #[] } :: a.defers } W) :
    (Code.rangeFunc g ps assign body).wpIn F n P Q a w := by
  refine wpIn_rangeFunc fun fn hfn => ?_
  rw [hro]
  obtain ⟨L, hL⟩ : ∃ L : LoopState → Loop, L = fun st => { state := st, pending := none, fn, tmps := a.tmps, params := ps, assign, body, defers := w.heap.size } := ⟨_, rfl⟩
  obtain ⟨V, hV⟩ : ∃ V, V = (w.alloc (.deferred (some []))).alloc (.loop (L .ready)) := ⟨_, rfl⟩
  have hz : V.heap.size = w.heap.size + 1 + 1 := by rw [hV]; simp
  have hbV : Below w.heap.size w V := by rw [hV]; exact ((Below.refl _ _).alloc (Nat.le_refl _) _).alloc (by simp) _
  have hl : V.heap[w.heap.size + 1]? = some (.loop (L .ready)) := by
    rw [hV]; have := World.alloc_heap_new (w.alloc (.deferred (some []))) (.loop (L .ready)); rwa [World.size_alloc] at this
  have hk : V.heap[w.heap.size]? = some (.deferred (some [])) := by
    rw [hV]; exact (Below.heap_alloc _ _ _ (by simp)).trans (World.alloc_heap_new w _)
  have hIV : I 0 V := by
    rw [hV]
    exact hI 0 _ _ none (hI 0 _ _ none h0 (World.grownBy_alloc _ _ none) (fun r e => by cases e)) (World.grownBy_alloc _ _ none) (fun r e => by cases e)
  have put : ∀ k A st, I k A → A.heap[w.heap.size + 1]? = some (.loop (L st)) → ∀ o', I k (A.putObj (w.heap.size + 1) o') := fun k A st hi hA o' =>
    hI k _ _ _ hi (grownBy_putObj' A (w.heap.size + 1) o') (fun r e => by cases e; exact ⟨by omega, _, hA, rfl⟩)
  refine ⟨w.heap.size + 1, [{ target := .collected w.heap.size, args := #[] }], V, { target := .fn (.func gf) lb, args := #[.func (.yield (w.heap.size + 1)) #[] #[]] }, V, gf, #[.func (.yield (w.heap.size + 1)) #[] #[]] ++ lb, V, ?_, ?_, ?_, ?_, fun _ => h1, ?_⟩
  · rw [hV, hL]; exact run_enterLoop_outer _ _ _ _ _
  · simp only [resolve, hg]; simp [go_sem]
  · intro f' hf'; simp [Target.leads] at hf'; subst hf'; exact hF
  · simp [invoke, go_sem, eg]
  · refine (hc (w.heap.size + 1) (fun k W => I k W ∧ W.heap[w.heap.size + 1]? = some (.loop (L .ready)) ∧ W.heap[w.heap.size]? = some (.deferred (some []))) V (hb0.trans (hbV.mono hb0.size)) (fun k W h => ⟨hd k W h.1, h.2.1, h.2.2⟩) ?_ ⟨hIV, hl, hk⟩).mono ?_
    · rintro k W hkN ⟨hi, hl1, hk1⟩
      have hy := run_yield (P := P) (args := vals k) hl1 (by rw [hL]; exact hps k)
      rw [hL] at hy
      refine ⟨fn, _, assign, body, hy, roundIn_of_wpIn hfn (hassign _ k W _ hkN hi (Array.getElem?_eq_some_iff.1 hl1).1 fun a' V v1 v2 hKV hj => ?_)⟩
      have hlv : V.heap[w.heap.size + 1]? = some (.loop (L .ready)) := v2.trans hl1
      have hkv : V.heap[w.heap.size]? = some (.deferred (some [])) := v1.trans hk1
      have hlt := (Array.getElem?_eq_some_iff.1 hlv).1
      refine ⟨_, run_beginRound hlv (by rw [hL]), ?_⟩
      have e2 : (V.putObj (w.heap.size + 1) (.loop { L .ready with state := .busy })).heap[w.heap.size + 1]? = some (.loop (L .busy)) := by rw [hL]; exact World.putObj_heap_same hlt
      have k2 : (V.putObj (w.heap.size + 1) (.loop { L .ready with state := .busy })).heap[w.heap.size]? = some (.deferred (some [])) := (World.putObj_heap_other (by omega)).trans hkv
      refine wpIn_mono (hbody _ k a' _ hkN (hJ k a' _ _ _ hj (grownBy_putObj' V (w.heap.size + 1) _) (fun r e => by cases e; exact ⟨by omega, _, hlv, rfl⟩)) (Array.getElem?_eq_some_iff.1 e2).1) ?_
      rintro e a3 W3 hp
      cases e with
      | normal =>
        obtain ⟨q1, q2, q3⟩ := hp
        have e3 := q1.2.trans e2
        have k3 := q1.1.trans k2
        have hr := run_endRound (P := P) none e3
        refine ⟨_, _, hr, rfl, ⟨put (k + 1) W3 _ q3 e3 _, ?_, (World.putObj_heap_other (by omega)).trans k3⟩, hKt _ _ _ (hKt _ _ _ hKV (hKt _ _ _ (hKb _ _ _ _ hlv rfl) q2)) (hKb _ _ _ _ e3 rfl)⟩
        rw [World.putObj_heap_same (Array.getElem?_eq_some_iff.1 e3).1, hL]
        rfl
      | ret => exact hp.elim
      | exit id => exact hp.elim
      | goto t => exact hp.elim
      | panic ch => exact hp.elim
      | outgrown => exact hp.elim
    · rintro e W2 ⟨⟨v, rfl⟩, hi, hl2, hk2⟩
      have hr := run_endLoop (P := P) hl2 (by rw [hL]; simp)
      exact ⟨none, _, by rw [hL] at hr; exact hr, hdone _ _ (Nat.le_refl _) (put N W2 _ hi hl2 _) ((World.putObj_heap_other (by omega)).trans hk2)⟩

end

end Go.Proofs.Ytjnpndfpajjihac

namespace Go.Proofs.Ytjnpndfpajjihac
open Go.RowKit Go.Shelf

attribute [local go_sem] Oper.semAt_some

/-- The first of some copies that is of a block. -/
def firstIn (b : Int) : List (Int × ByteArray) → Option (Int × ByteArray)
  | [] => none
  | x :: r => if x.1 = b then some x else firstIn b r
/-- What the map holds behind some copies of a transaction, from the end. -/
def backF (L : Int → Int) (k : Nat) (f : Int → Option (Int × ByteArray)) (m : List (Int × ByteArray)) : Int → Option (Int × ByteArray) := fun z => match firstIn z m with
  | some c => if L z = (k : Int) then some c else f z
  | none => f z
def newCK (l : List Tx) (L : Int → Int) : Nat → Int → Option (Int × ByteArray)
  | 0 => fun _ => none
  | k + 1 => backF L k (newCK l L k) (l.getD k txz).info
theorem backF_yes {L : Int → Int} {k : Nat} {x : Int × ByteArray} (h : L x.1 = (k : Int)) (f : Int → Option (Int × ByteArray)) (r : List (Int × ByteArray)) : backF L k f (x :: r) = fun z => if z = x.1 then some (x.1, x.2) else backF L k f r z := by
  funext z
  by_cases e : z = x.1
  · subst e; simp [backF, firstIn, h]
  · have : ¬ x.1 = z := fun y => e y.symm
    simp [backF, firstIn, e, this]
theorem backF_no {L : Int → Int} {k : Nat} {x : Int × ByteArray} (h : ¬ L x.1 = (k : Int)) (f : Int → Option (Int × ByteArray)) (r : List (Int × ByteArray)) : backF L k f (x :: r) = backF L k f r := by
  funext z
  by_cases e : x.1 = z
  · subst e
    simp only [backF, firstIn, if_true]
    cases firstIn x.1 r <;> simp [h]
  · simp [backF, firstIn, e]
theorem drop_cons {α : Type} {m : List α} {j : Nat} {z : α} (h : j < m.length) : m.drop j = m.getD j z :: m.drop (j + 1) := by
  rw [List.drop_eq_getElem_cons h, List.getD, List.getElem?_eq_getElem h]
  rfl

theorem But.grownR {R base : Nat} {w A B : World} {row : Option Nat} (h : But R base w A) (hg : A.grownBy B row) (hr : ∀ r, row = some r → base ≤ r) (hs : base ≤ w.heap.size := by omega) : But R base w B :=
  h.trans (But.of_below ((Below.refl base A).grown hg (Nat.le_trans hs h.size) hr)) (Nat.le_refl _)
theorem MapC.notCells {w : World} {B n : Nat} {f : Int → Option (Int × ByteArray)} (h : MapC w B n f) {o : Obj} (ho : w.heap[B]? = some o) : o.isCells = false := by
  obtain ⟨D, ⟨es, clock, h1, _⟩, _⟩ := h
  rw [h1] at ho
  cases ho
  rfl
theorem getD_in {m : List (Int × ByteArray)} {j : Nat} (h : j < m.length) : m.getD j (0, ByteArray.empty) ∈ m := by
  rw [List.getD, List.getElem?_eq_getElem h]
  exact List.getElem_mem h
/-- The marks that ranges leave. -/
def marks (Ms : List Nat) : List Deferred := Ms.map fun r => { target := .collected r, args := #[] }
def shut (Ms : List Nat) (w : World) : World := Ms.foldl (fun w r => w.putObj r (.deferred none)) w
theorem shut_other (Ms : List Nat) (w : World) (j : Nat) (h : ∀ r ∈ Ms, r ≠ j) : (shut Ms w).heap[j]? = w.heap[j]? := by
  induction Ms generalizing w with
  | nil => rfl
  | cons r Ms ih =>
    rw [shut, List.foldl_cons]
    refine (ih _ (fun r' hr' => h r' (by simp [hr']))).trans ?_
    exact World.putObj_heap_other (Ne.symm (h r (by simp)))

theorem shut_below {base : Nat} : ∀ (Ms : List Nat) (w : World), (∀ r ∈ Ms, base ≤ r) → Ms.Nodup → (∀ r ∈ Ms, w.heap[r]? = some (.deferred (some []))) → Below base w (shut Ms w) := by
  intro Ms
  induction Ms with
  | nil => intro w _ _ _; exact Below.refl _ _
  | cons r Ms ih =>
    intro w hb hn hd
    have hn' := List.nodup_cons.1 hn
    have h1 : Below base w (w.putObj r (.deferred none)) := ⟨rfl, rfl, rfl, by simp [World.putObj], fun j hj => World.putObj_heap_other (by have := hb r (by simp); omega)⟩
    exact h1.trans (ih _ (fun q hq => hb q (by simp [hq])) hn'.2 (fun q hq => (World.putObj_heap_other (by intro e; subst e; exact hn'.1 hq)).trans (hd q (by simp [hq]))))
theorem leaves_marks {F : Fence} {n : Nat} {P : Program} {fn : Func} {tmps : Array Value} {R : Ending → World → Prop} : ∀ (Ms : List Nat) (w : World), Ms.Nodup → (∀ r ∈ Ms, w.heap[r]? = some (.deferred (some []))) → LeavesIn F n P fn tmps R [] .returning (shut Ms w) → LeavesInM F n P fn tmps R (marks Ms) .returning w := by
  intro Ms
  induction Ms with
  | nil => intro w _ _ h; exact h
  | cons r Ms ih =>
    intro w hn hd h
    have hn' := List.nodup_cons.1 hn
    refine ⟨by simp, .inl ⟨r, _, rfl, run_takeDeferred (hd r (by simp)), ih _ hn'.2 (fun q hq => ?_) h⟩⟩
    exact (World.putObj_heap_other (by intro e; subst e; exact hn'.1 hq)).trans (hd q (by simp [hq]))

set_option maxHeartbeats 8000000 in
set_option maxRecDepth 100000 in
theorem newestCopies_any (a : Option Addr) (c : Nat) (l : List Tx) (w : World) (h : SegTx w a l) (hn : l.length * 128 ≤ 140737488355328) (hf : ∀ t ∈ l, Few t) :
    Calls Try.prog 26 #[.slice a l.length c] w fun e w' => ∃ B n, e = .returned (.map (some B)) ∧ MapC w' B n (newCK l (lastK l l.length) l.length) ∧ w.heap.size ≤ B ∧ Below w.heap.size w w' := by
  have HS := hide h
  have HW := hide hf
  clear h hf
  have hmk := fun w : World => run_makeMap (P := Try.prog) 78 w
  refine (callsIn_wide (n := 9)).1 ?_
  refine callsIn_of_wp_marks Try.func26 rfl trivial ?_ rfl
  simp only [Try.ntmps26, List.size_toArray, List.length_cons, List.length_nil, Nat.reduceAdd, Nat.reduceSub, Array.replicate_succ, Array.replicate_zero, List.push_toArray, List.append_toArray, List.nil_append, List.cons_append]
  gi_wp2_with fail
  refine ⟨trivial, (callsIn_wide.2 (lastToName_any a c l _ HS.out hn HW.out)).mono ?_⟩
  rintro e w1 ⟨B1, n1, rfl, hM1, hB1, hb1⟩
  have HM1 := hide hM1
  have HB1 := hide hb1
  clear hM1 hb1
  gi_wp2
  obtain ⟨W0, hW0⟩ : ∃ W0, W0 = ((w1.alloc (.map #[] 0)).alloc (.cells #[.map (some B1)] 105)).alloc (.cells #[.map (some w1.heap.size)] 78) := ⟨_, rfl⟩
  have hbW : Below w1.heap.size w1 W0 := by rw [hW0]; exact bthen (bthen (below1 _ _) (below1 _ _)) (below1 _ _)
  have hth : W0.heap[w1.heap.size]? = some (.map #[] 0) ∧ W0.heap[w1.heap.size + 1]? = some (.cells #[.map (some B1)] 105 (0, 0)) ∧ W0.heap[w1.heap.size + 1 + 1]? = some (.cells #[.map (some w1.heap.size)] 78 (0, 0)) ∧ w1.heap.size + 1 + 1 < W0.heap.size := by rw [hW0]; exact three1 (Below.refl _ _)
  have HMC0 : Hid (MapC W0 w1.heap.size 0 (fun _ => none)) := (MapC.made w1).block (hth.1.trans (heap_alloc_new w1 (.map #[] 0)).symm)
  have HBL0 := hide hth.2.1
  have HBN0 := hide hth.2.2.1
  have hs0 := hth.2.2.2
  have HBW := hide hbW
  rw [← hW0]
  clear hW0 hbW hth hmk
  refine wpIn_loop (fun a' w' => ∃ (k n : Nat) (Ms : List Nat) (u5 u6 u8 u15 u16 u17 u18 u19 u20 u21 u22 u23 u24 u25 u26 u27 u28 u29 u30 u31 u32 u33 u34 : Value), a' = ⟨#[.slice a l.length c, undef, .map none, .pointer (some ⟨w1.heap.size + 1, 0, none⟩), .pointer (some ⟨w1.heap.size + 1 + 1, 0, none⟩), u5, u6, undef, u8, .slice a l.length c, .map (some B1), .map (some w1.heap.size), .slice a l.length c, .int .i64 (l.length : Int), .int .i64 (k : Int), u15, u16, u17, u18, u19, u20, u21, u22, u23, u24, u25, u26, u27, u28, u29, u30, u31, u32, u33, u34, undef], marks Ms⟩ ∧ k ≤ l.length ∧ n ≤ 12 * k ∧ Hid (MapC w' w1.heap.size n (newCK l (lastK l l.length) k)) ∧ Hid (Below w1.heap.size w1 w') ∧ w1.heap.size + 1 + 1 < w'.heap.size ∧ Hid (w'.heap[w1.heap.size + 1]? = some (.cells #[.map (some B1)] 105 (0, 0))) ∧ Hid (w'.heap[w1.heap.size + 1 + 1]? = some (.cells #[.map (some w1.heap.size)] 78 (0, 0))) ∧ Hid (Ms.Nodup ∧ ∀ r ∈ Ms, w1.heap.size + 1 + 1 < r ∧ w'.heap[r]? = some (.deferred (some []))))
    (fun a' _ => l.length - (intOf (a'.tmps.getD 14 undef)).toNat) ?start ?round
  case start => exact ⟨0, 0, [], undef, undef, undef, undef, undef, undef, undef, undef, undef, undef, undef, undef, undef, undef, undef, undef, undef, undef, undef, undef, undef, undef, undef, rfl, Nat.zero_le _, Nat.zero_le _, HMC0, HBW, hs0, HBL0, HBN0, List.nodup_nil, fun r hr => by cases hr⟩
  case round =>
    rintro _ wr ⟨k, n, Ms, u5, u6, u8, u15, u16, u17, u18, u19, u20, u21, u22, u23, u24, u25, u26, u27, u28, u29, u30, u31, u32, u33, u34, rfl, hk, hn12, HMC, HB, hsz, HBL, HBN, HMS⟩
    clear HMC0 HBW hs0 HBL0 HBN0
    by_cases hlt : k < l.length
    · obtain ⟨b, off, rfl, hb, hc⟩ := HS.out.resolve_left (fun e => absurd hlt (by rw [e]; exact Nat.not_lt_zero _))
      obtain ⟨t, ht⟩ : ∃ t, t = l.getD k txz := ⟨_, rfl⟩
      have hbw1 : b < w1.heap.size := Nat.lt_of_lt_of_le hb HB1.out.size
      have hcj := ((hc k hlt).below HB1.out hb).below HB.out hbw1
      rw [← ht] at hcj
      have HTE := hide ht
      obtain ⟨a0, c0, a1, c1, r, d, ⟨x0, x1, x2, x3, x4, x5, x6, x7, x8, x9⟩, hT⟩ := hcj
      have HT := hide hT
      have hlt' : (k : Int) < (l.length : Int) := by omega
      clear hc ht hT
      gi_wp2_with fail
      obtain ⟨W1, hW1⟩ : ∃ W1, W1 = (wr.alloc (.cells #[.int .i64 (k : Int)] 3)).alloc (.cells #[.int .i64 t.seq, .slice a0 t.info.length c0, .slice a1 t.data.length c1, .slice r t.rev.length d, .bool t.h0.on, .int .i64 t.h0.left, .bool t.h1.on, .int .i64 t.h1.left, .bool t.h2.on, .int .i64 t.h2.left] 50) := ⟨_, rfl⟩
      have hb1 : Below wr.heap.size wr W1 := by rw [hW1]; exact bthen (below1 _ _) (below1 _ _)
      have HKI : Hid (W1.heap[wr.heap.size]? = some (.cells #[.int .i64 (k : Int)] 3 (0, 0))) := by rw [hW1]; exact two1 (Below.refl _ _)
      have hsW1 : W1.heap.size = wr.heap.size + 1 + 1 := by rw [hW1]; simp
      rw [← hW1]
      clear hW1 x0 x1 x2 x3 x4 x5 x6 x7 x8 x9
      refine ⟨trivial, (backC_in Fence.wide 8 trivial rfl a0 t.info.length c0 W1).mono ?_⟩
      rintro e W2 ⟨rfl, hW2⟩
      have hb2 : Below W1.heap.size W1 W2 := by rw [hW2]; exact below1 _ _
      have cS : W2.cell? ⟨W1.heap.size, 0, none⟩ = some (.slice a0 t.info.length c0) := by rw [hW2]; simp [go_sem]
      have hsW2 : W2.heap.size = W1.heap.size + 1 := by rw [hW2]; simp
      have hbr2 : Below wr.heap.size wr W2 := bthen hb1 hb2
      have HBR := hide hbr2
      have HCS := hide cS
      have HKI2 := hide (boxKeep hb2 (show wr.heap.size < W1.heap.size by omega) HKI.out)
      have HBL2 := hide (boxKeep hbr2 (show w1.heap.size + 1 < wr.heap.size by omega) HBL.out)
      have HBN2 := hide (boxKeep hbr2 hsz HBN.out)
      have HMC2 := hide (HMC.out.below hbr2)
      have HM2 := hide ((HM1.out.below HB.out).below hbr2)
      have HMS2 : Hid (Ms.Nodup ∧ ∀ r ∈ Ms, w1.heap.size + 1 + 1 < r ∧ r < wr.heap.size ∧ W2.heap[r]? = some (.deferred (some []))) := ⟨HMS.out.1, fun r hr => ⟨(HMS.out.2 r hr).1, (Array.getElem?_eq_some_iff.1 (HMS.out.2 r hr).2).1, boxKeep hbr2 (Array.getElem?_eq_some_iff.1 (HMS.out.2 r hr).2).1 (HMS.out.2 r hr).2⟩⟩
      have hfew := HW.out t (by rw [HTE.out]; exact List.mem_of_getElem? (tx_at hlt))
      have hz12 : W1.heap.size < W2.heap.size := by omega
      have hz01 : wr.heap.size < W1.heap.size := by omega
      have HSW1 := hide hsW1
      have HSW2 := hide hsW2
      clear hW2 hb1 hb2 HKI HBL HBN HMC HMS cS hbr2 hsW1 hsW2
      gi_wp2_with fail
      have hrows := HT.out.rows
      have hsegW : SegW W2 a0 t.info := hrows.1.below HBR.out
      have HSEG := hide hsegW
      clear hrows hsegW
      refine range_maps (F := Fence.wide) (n := 9) rfl (by decide) (gf := 61) (lb := #[.pointer (some ⟨W1.heap.size, 0, none⟩)]) rfl trivial (enters_of Try.func61 (by kernel_rfl) rfl)
        (backC_counts Fence.wide 8 trivial rfl (by decide) W1.heap.size c0 a0 t.info (by have := hfew.2.1; unfold maxLen; omega) W2 (by omega) HCS.out HSEG.out) (Below.refl _ _) KeepsR.trans KeepsR.put (fun _ => rfl)
        (fun j V => ∃ n', n' ≤ n + j ∧ MapC V w1.heap.size n' (backF (lastK l l.length) k (newCK l (lastK l l.length) k) (t.info.drop (t.info.length - j))) ∧ But w1.heap.size W2.heap.size W2 V)
        ?own ?drew ?start
        (fun j a' V => ∃ B8 n', a' = ⟨#[.slice (some ⟨b, off, none⟩) l.length c, undef, .map none, .pointer (some ⟨w1.heap.size + 1, 0, none⟩), .pointer (some ⟨w1.heap.size + 1 + 1, 0, none⟩), .pointer (some ⟨wr.heap.size, 0, none⟩), .pointer (some ⟨wr.heap.size + 1, 0, none⟩), undef, .pointer (some ⟨B8, 0, none⟩), .slice (some ⟨b, off, none⟩) l.length c, .map (some B1), .map (some w1.heap.size), .slice (some ⟨b, off, none⟩) l.length c, .int .i64 (l.length : Int), .int .i64 (k : Int), .bool true, .int .i64 (k : Int), .pointer (some ⟨b, off + k * 10, none⟩), .agg #[.int .i64 t.seq, .slice a0 t.info.length c0, .slice a1 t.data.length c1, .slice r t.rev.length d, .bool t.h0.on, .int .i64 t.h0.left, .bool t.h1.on, .int .i64 t.h1.left, .bool t.h2.on, .int .i64 t.h2.left], .pointer (some ⟨wr.heap.size + 1, 1, none⟩), .slice a0 t.info.length c0, .func (.func 61) #[] #[.pointer (some ⟨W1.heap.size, 0, none⟩)], .int .i64 ((t.info.length - 1 - j : Nat) : Int), .agg #[.int .i64 (t.info.getD (t.info.length - 1 - j) (0, ByteArray.empty)).1, .string (t.info.getD (t.info.length - 1 - j) (0, ByteArray.empty)).2], u24, u25, u26, u27, u28, u29, u30, u31, u32, u33, u34, undef], []⟩ ∧ n' ≤ n + j ∧ MapC V w1.heap.size n' (backF (lastK l l.length) k (newCK l (lastK l l.length) k) (t.info.drop (t.info.length - j))) ∧ But w1.heap.size W2.heap.size W2 V ∧ W2.heap.size ≤ B8 ∧ V.heap[B8]? = some (.cells #[.int .i64 (t.info.getD (t.info.length - 1 - j) (0, ByteArray.empty)).1, .string (t.info.getD (t.info.length - 1 - j) (0, ByteArray.empty)).2] 71 (0, 0)))
        ?ownJ ?assign ?body ?done
      case own =>
        rintro j A B row ⟨n', hn', hM, hBt⟩ hgr hr
        exact ⟨n', hn', hM.block (hgr.block _ hM.lt (fun e => by have := (hr _ e.symm).1; omega)), hBt.grownR hgr (fun r e => (hr r e).1)⟩
      case drew =>
        rintro j V ⟨n', hn', hM, hBt⟩
        exact ⟨n', hn', hM.block rfl, hBt.trans (But.of_below ((Below.refl W2.heap.size _).drew)) (Nat.le_refl _)⟩
      case start =>
        refine ⟨n, Nat.le_refl _, ?_, But.of_below (Below.refl _ _)⟩
        rw [Nat.sub_zero, List.drop_length]
        exact HMC2.out
      case ownJ =>
        rintro j a' A B row ⟨B8, n', rfl, hn', hM, hBt, hB8, hb8⟩ hgr hr
        refine ⟨B8, n', rfl, hn', hM.block (hgr.block _ hM.lt (fun e => by have := (hr _ e.symm).1; omega)), hBt.grownR hgr (fun r e => (hr r e).1), hB8, ?_⟩
        refine (hgr.block _ (Array.getElem?_eq_some_iff.1 hb8).1 (fun e => ?_)).trans hb8
        obtain ⟨_, o, ho, hc⟩ := hr _ e.symm
        rw [hb8] at ho
        cases ho
        cases hc
      case assign =>
        rintro lp j V K hjN ⟨n', hn', hM, hBt⟩ hszV hK
        unfold backV
        obtain ⟨x, hx⟩ : ∃ x, x = (t.info.getD (t.info.length - 1 - j) (0, ByteArray.empty)) := ⟨_, rfl⟩
        rw [← hx]
        have hal := fun q (hq : q < V.heap.size) => Below.heap_alloc V (.cells #[.int .i64 x.1, .string x.2] 71) q hq
        have HAL := hide hal
        have HK := hide hK
        have HM := hide hM
        have HX := hide hx
        clear hal hK hM hx
        gi_wp2
        refine HK.out _ _ (HAL.out _ (by omega)) (HAL.out _ (by omega)) (fun q _ o ho _ => (HAL.out q (Array.getElem?_eq_some_iff.1 ho).1).trans ho) ⟨V.heap.size, n', ?_, hn', HM.out.block (HAL.out _ HM.out.lt), hBt.trans (But.of_below ((Below.refl W2.heap.size V).alloc hBt.size _)) (Nat.le_refl _), hBt.size, ?_⟩
        · rw [← HX.out]
        · rw [← HX.out]
          exact heap_alloc_new V _
      case body =>
        rintro lp j _ V hjN ⟨B8, n', rfl, hn', hM, hBt, hB8, hb8⟩ hszV
        obtain ⟨x, hx⟩ : ∃ x, x = (t.info.getD (t.info.length - 1 - j) (0, ByteArray.empty)) := ⟨_, rfl⟩
        rw [← hx] at hb8 ⊢
        have hxm : x ∈ t.info := by rw [hx]; exact getD_in (by omega)
        have hxr := hfew.2.2.2 x hxm
        have HXR := hide hxr
        have hf12 := hfew.2.1
        have hdrop : t.info.drop (t.info.length - (j + 1)) = x :: t.info.drop (t.info.length - j) := by
          rw [drop_cons (z := (0, ByteArray.empty)) (show t.info.length - (j + 1) < t.info.length by omega), show t.info.length - (j + 1) + 1 = t.info.length - j from by omega, hx, show t.info.length - 1 - j = t.info.length - (j + 1) from by omega]
        have hwf : (Lit.int .i64 x.1).wf = true := wfI (by omega) (by omega)
        have hB1lt : B1 < w1.heap.size := HM1.out.lt
        have hMI : MapI V B1 n1 (lastK l l.length) := HM2.out.block (hBt.block B1 (by omega) (by omega))
        have hlk := hMI.look x.1 hwf
        have g3 := cell_of_row V _ 0 _ _ _ ((hBt.block (w1.heap.size + 1) (by omega) (by omega)).trans HBL2.out)
        have g4 := cell_of_row V _ 0 _ _ _ ((hBt.block (w1.heap.size + 1 + 1) (by omega) (by omega)).trans HBN2.out)
        have g5 := cell_of_row V _ 0 _ _ _ ((hBt.block wr.heap.size (by omega) (by omega)).trans HKI2.out)
        obtain ⟨⟨g80, g81⟩, _⟩ := box2 hb8
        have HM := hide hM
        have HBT := hide hBt
        have HDR := hide hdrop
        have HX := hide hx
        have hsV := hBt.size
        clear hM hBt hdrop hx hMI hb8 hxm hxr hwf
        by_cases hL : lastK l l.length x.1 = (k : Int)
        · obtain ⟨V2, hst, hM2, hg2⟩ := HM.out.store x.1 x.1 x.2 (wfI (by have := HXR.out; omega) (by have := HXR.out; omega)) (by unfold maxLen; omega)
          have hL' : (lastK l l.length x.1 == (k : Int)) = true := by simpa using hL
          have HFIN : Hid ((V2.heap[W2.heap.size]? = V.heap[W2.heap.size]? ∧ V2.heap[W2.heap.size + 1]? = V.heap[W2.heap.size + 1]?) ∧ KeepsR W1.heap.size (blkOf a0) V V2 ∧ ∃ n', n' ≤ n + (j + 1) ∧ MapC V2 w1.heap.size n' (backF (lastK l l.length) k (newCK l (lastK l l.length) k) (t.info.drop (t.info.length - (j + 1)))) ∧ But w1.heap.size W2.heap.size W2 V2) := by
            refine ⟨⟨hg2.block _ (by omega) (fun e => by simp at e; omega), hg2.block _ (by omega) (fun e => by simp at e; omega)⟩, ?_, n' + 1, by omega, ?_, HBT.out.trans ⟨(But.of_below (R := 0) ((Below.refl 0 V).grown hg2 (Nat.zero_le _) (fun _ _ => Nat.zero_le _))).os, (But.of_below (R := 0) ((Below.refl 0 V).grown hg2 (Nat.zero_le _) (fun _ _ => Nat.zero_le _))).tape, (But.of_below (R := 0) ((Below.refl 0 V).grown hg2 (Nat.zero_le _) (fun _ _ => Nat.zero_le _))).output, hg2.size, fun q hq hne => hg2.block q (by omega) (fun e => hne (by simpa using e))⟩ (Nat.le_refl _)⟩
            · intro q _ o ho hc
              refine (hg2.block q (Array.getElem?_eq_some_iff.1 ho).1 (fun e => ?_)).trans ho
              have e' : q = w1.heap.size := by simpa using e
              subst e'
              rw [HM.out.notCells ho] at hc
              cases hc
            · rw [HDR.out, backF_yes hL]
              exact hM2
          clear hM2 hg2 hL
          gi_wp2
          exact HFIN.out
        · have hL' : (lastK l l.length x.1 == (k : Int)) = false := by simpa using hL
          have HFIN : Hid (KeepsR W1.heap.size (blkOf a0) V V ∧ ∃ n', n' ≤ n + (j + 1) ∧ MapC V w1.heap.size n' (backF (lastK l l.length) k (newCK l (lastK l l.length) k) (t.info.drop (t.info.length - (j + 1)))) ∧ But w1.heap.size W2.heap.size W2 V) := by
            refine ⟨KeepsR.refl _ _ _, n', by omega, ?_, HBT.out⟩
            rw [HDR.out, backF_no hL]
            exact HM.out
          clear hL
          gi_wp2
          exact ⟨⟨rfl, rfl⟩, HFIN.out⟩
      case done =>
        rintro D V hD ⟨n', hn', hM, hBt⟩ hK
        have hsV := hBt.size
        have HM9 : Hid (MapC V w1.heap.size n' (newCK l (lastK l l.length) (k + 1))) := by
          rw [Nat.sub_self, List.drop_zero] at hM
          rw [Hid, newCK, ← HTE.out]
          exact hM
        have HB9 : Hid (Below w1.heap.size w1 V) := (bthen HB.out HBR.out).trans ⟨hBt.os, hBt.tape, hBt.output, hBt.size, fun q hq => hBt.block q (by omega) (by omega)⟩
        have HL9 := hide ((hBt.block (w1.heap.size + 1) (by omega) (by omega)).trans HBL2.out)
        have HN9 := hide ((hBt.block (w1.heap.size + 1 + 1) (by omega) (by omega)).trans HBN2.out)
        have HS9 : Hid ((D :: Ms).Nodup ∧ ∀ r ∈ D :: Ms, w1.heap.size + 1 + 1 < r ∧ V.heap[r]? = some (.deferred (some []))) := by
          refine ⟨List.nodup_cons.2 ⟨fun h => ?_, HMS2.out.1⟩, fun r hr => ?_⟩
          · have := (HMS2.out.2 D h).2.1; omega
          · rcases List.mem_cons.1 hr with rfl | h
            · exact ⟨by omega, hK⟩
            · have h3 := HMS2.out.2 r h
              exact ⟨h3.1, (hBt.block r (by omega) (by omega)).trans h3.2.2⟩
        have hf12 := hfew.2.1
        have hz9 : w1.heap.size + 1 + 1 < V.heap.size := by omega
        clear hM hBt hK
        gi_wp2
        have ek : ((k + 1 : Nat) : Int) = (k : Int) + 1 := by simp
        rw [← ek]
        refine ⟨⟨k + 1, n', D :: Ms, _, _, _, _, _, _, _, _, _, _, _, _, _, _, _, _, _, _, _, _, _, _, _, rfl, by omega, by omega, HM9, HB9, hz9, HL9, HN9, HS9⟩, ?_⟩
        simp [intOf]
        omega
    · have e : k = l.length := by omega
      subst e
      have hmk := HMS.out
      obtain ⟨V, hV⟩ : ∃ V, V = shut Ms wr := ⟨_, rfl⟩
      have hVo : ∀ j, j ≤ w1.heap.size + 1 + 1 → V.heap[j]? = wr.heap[j]? := fun j hj => by rw [hV]; exact shut_other Ms wr j (fun r hr => by have := (hmk.2 r hr).1; omega)
      have HVM : Hid (MapC V w1.heap.size n (newCK l (lastK l l.length) l.length)) := HMC.out.block (hVo _ (by omega))
      have HVB : Hid (Below w.heap.size w V) := by
        have h1 : Below w1.heap.size w1 V := HB.out.trans (by rw [hV]; exact shut_below Ms wr (fun r hr => by have := (hmk.2 r hr).1; omega) hmk.1 (fun r hr => (hmk.2 r hr).2))
        exact bthen HB1.out h1
      have g4 := cell_of_row wr _ 0 _ _ _ HBN.out
      have HV := hide hV
      have HMK := hide hmk
      clear hVo hV hmk
      gi_wp2
      refine leaves_marks Ms _ HMK.out.1 (fun r hr => (HMK.out.2 r hr).2) ?_
      rw [← HV.out]
      refine ⟨.map (some w1.heap.size), by simp [results, Try.results26, go_sem], w1.heap.size, n, rfl, HVM.out, HB1.out.size, HVB.out⟩

end Go.Proofs.Ytjnpndfpajjihac

namespace Go.Proofs.Ytjnpndfpajjihac
open Go.RowKit

theorem firstIn_text (b : Int) (m : List (Int × ByteArray)) : firstIn b m = (textIn b m).map fun s => (b, s) := by
  induction m with
  | nil => rfl
  | cons x m ih =>
    rw [firstIn, textIn]
    by_cases e : x.1 = b
    · subst e; simp
    · rw [if_neg e, if_neg e, ih]
theorem textIn_among (b : Int) (m : List (Int × ByteArray)) : (textIn b m).isSome = amongB (blksOf m) b := by
  induction m with
  | nil => rfl
  | cons x m ih =>
    rw [textIn]
    by_cases e : x.1 = b
    · subst e; simp [blksOf, amongB]
    · rw [if_neg e, ih]
      simp [blksOf, amongB, e]
theorem newCK_none {l : List Tx} {L : Int → Int} {b : Int} : ∀ {K : Nat}, (∀ j, j < K → L b ≠ (j : Int)) → newCK l L K b = none := by
  intro K
  induction K with
  | zero => intro _; rfl
  | succ K ih =>
    intro h
    have h1 := ih fun j hj => h j (by omega)
    have h2 := h K (by omega)
    rw [newCK, backF]
    split
    · rw [if_neg h2]; exact h1
    · exact h1
theorem newCK_congr {l : List Tx} {L L' : Int → Int} {b : Int} (h : L b = L' b) (K : Nat) : newCK l L K b = newCK l L' K b := by
  induction K with
  | zero => rfl
  | succ K ih => rw [newCK, newCK, backF, backF, h, ih]
theorem newCK_newest (l : List Tx) (b : Int) : ∀ K, K ≤ l.length → newCK l (lastK l K) K b = (newestF (l.take K) b).map fun s => (b, s) := by
  intro K
  induction K with
  | zero => intro _; rfl
  | succ K ih =>
    intro hK
    have ht : l[K]? = some (l.getD K txz) := tx_at (by omega)
    have hl : lastK l (K + 1) b = if nameB (l.getD K txz) b = true then (K : Int) else lastK l K b := rfl
    rw [newestF_take ht, newCK, backF, firstIn_text, nwStep]
    generalize l.getD K txz = t at *
    have hs := textIn_among b t.info
    by_cases hn : nameB t b = true
    · rw [if_pos hn] at hl
      have h0 : newCK l (lastK l (K + 1)) K b = none := newCK_none fun j hj e => by rw [hl] at e; omega
      cases hx : textIn b t.info with
      | some s => simp [hl]
      | none =>
        rw [hx] at hs
        have hr : amongB t.rev b = true := by
          unfold nameB at hn
          rw [← hs] at hn
          simpa using hn
        simp [h0, hr]
    · rw [if_neg hn] at hl
      have h0 := (newCK_congr (l := l) hl K).trans (ih (by omega))
      unfold nameB at hn
      simp only [Bool.or_eq_true, not_or, Bool.not_eq_true] at hn
      cases hx : textIn b t.info with
      | some s => rw [hx, hn.2] at hs; cases hs
      | none => simp [h0, hn.1]
theorem newC_newest (l : List Tx) (b : Int) : newCK l (lastK l l.length) l.length b = (newestF l b).map fun s => (b, s) := by
  have := newCK_newest l b l.length (Nat.le_refl _)
  rwa [List.take_length] at this

set_option maxHeartbeats 4000000 in
set_option maxRecDepth 100000 in
theorem replay_any (a : Option Addr) (c : Nat) (l : List Tx) (w : World) (h : SegTx w a l) (hn : l.length * 128 ≤ 140737488355328) (hf : ∀ t ∈ l, Few t) :
    Calls Try.prog 10 #[.slice a l.length c] w fun e w' => ∃ v', e = .returned v' ∧ w'.ownsRow w.heap.size 71 2 v' (newestL l).length (cellsC (newestL l)) ∧ Below w.heap.size w w' := by
  go_enter Try.func10, Try.ntmps10
  go_wp2_with fail
  refine (newestCopies_any a c l _ h hn hf).mono ?_
  rintro e w1 ⟨B, n, rfl, hM, hB, hb1⟩
  have HM := hide hM
  have HB1 := hide hb1
  clear h hf hM hb1
  go_wp2
  go_loopw [4, 10] (fun v i wr => ∃ k : Nat, k ≤ 12 ∧ i = .int .i64 k ∧ Hid (wr.ownsRow w1.heap.size 71 2 v (asN (newestF l) k).length (cellsC (asN (newestF l) k))) ∧ Hid (Below w1.heap.size w1 wr)) (fun _ i _ => 12 - (intOf i).toNat)
  case atStart => exact ⟨0, Nat.zero_le _, rfl, World.ownsRow_nil _ _ _ _, Below.refl _ _⟩
  case round =>
    obtain ⟨k, hk, rfl, hown, hbr⟩ := hrel
    by_cases hlt : k < 12
    · have hlt' : (k : Int) < 12 := by omega
      have hq := asN_length (newestF l) k
      have HF := hide (asN_snoc (newestF l) k)
      have HM2 := hide (HM.out.below hbr.out)
      have hwf : (Lit.int .i64 (k : Int)).wf = true := wfI (by omega) (by omega)
      generalize asN (newestF l) k = q at *
      cases ht : newestF l (k : Int) with
      | none =>
        have HF2 : Hid (asN (newestF l) (k + 1) = q) := by rw [Hid, HF.out, oneC, ht]; simp
        have hlk := HM2.out.lookNone (k : Int) hwf (by rw [newC_newest, ht]; rfl)
        clear HF hwf
        go_wp2
        go_roundw
        case rel => exact ⟨k + 1, by omega, by go_num, by rw [HF2.out]; exact owns_keep hown.out (below1 _ _), bthen hbr.out (below1 _ _)⟩
        case measure => simp [intOf]; omega
      | some u =>
        have HF2 : Hid (asN (newestF l) (k + 1) = q ++ [((k : Int), u)]) := by rw [Hid, HF.out, oneC, ht]; rfl
        have hlk := HM2.out.lookSome (k : Int) hwf (a := (k : Int)) (s := u) (by rw [newC_newest, ht]; rfl)
        have HO1 := hide (owns_keep hown.out (below1 wr (.cells #[.int .i64 (k : Int), .string u] 71)))
        have HB2 := hide (bthen hbr.out (below1 wr (.cells #[.int .i64 (k : Int), .string u] 71)))
        clear HF hwf hown
        go_wp2_with (at_builtin; refine wpList_appC _ w1 w1.heap.size rfl _ _ rfl _ q.length (cellsC q) rfl (owns_keep HO1.out (below1 _ _)) (some ⟨wr.heap.size + 1, 0, none⟩) 1 [((k : Int), u)] rfl (.inr ⟨wr.heap.size + 1, 0, rfl, by simp, fun i hi => ?_⟩) (by simp; omega) (Nat.le_trans HB2.out.size (by simp)) (bthen HB2.out (below1 _ _)) ?_)
        · have : i = 0 := by simpa using hi
          subst this
          exact ⟨by simp [go_sem], by simp [go_sem]⟩
        · intro v' w' hown' hB'
          clear HO1 HB2
          go_wp2
          go_roundw
          case rel => exact ⟨k + 1, by omega, by go_num, by rw [HF2.out, List.length_append, cellsC_append]; exact hown', hB'⟩
          case measure => simp [intOf]; omega
    · have e : k = 12 := by omega
      subst e
      go_wp2
      go_ret
      exact ⟨_, rfl, owns_base hown.out HB1.out.size, bthen HB1.out hbr.out⟩

end Go.Proofs.Ytjnpndfpajjihac
