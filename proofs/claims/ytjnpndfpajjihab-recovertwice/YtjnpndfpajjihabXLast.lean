/-
  The walk of package scan's lastToName.
-/
import Derived.Test.YtjnpndfpajjihabXMaps
import Derived.Test.YtjnpndfpajjihabXPure
import Derived.Test.YtjnpndfpajjihabGrRecoverTwice22
namespace Go.Proofs.Ytjnpndfpajjihab
open Go.RowKit

theorem wfI {x : Int} (h0 : -9223372036854775808 ≤ x) (h1 : x ≤ 9223372036854775807) : (Lit.int .i64 x).wf = true := by
  have e1 : IntKind.i64.min = -9223372036854775808 := by decide
  have e2 : IntKind.i64.max = 9223372036854775807 := by decide
  simp only [Lit.wf, e1, e2, Bool.and_eq_true, decide_eq_true_eq]
  exact ⟨h0, h1⟩
/-- A transaction with few blocks. -/
def Few (t : Tx) : Prop := t.rev.length ≤ 12 ∧ t.info.length ≤ 12 ∧ (∀ x ∈ t.rev, 0 ≤ x ∧ x ≤ 11) ∧ ∀ x ∈ t.info, 0 ≤ x.1 ∧ x.1 ≤ 11
/-- Which transaction, of some, is the last to name a block. -/
def nameB (t : Tx) (b : Int) : Bool := amongB t.rev b || amongB (blksOf t.info) b
def lastK (l : List Tx) : Nat → Int → Int
  | 0 => fun _ => 0
  | k + 1 => fun b => if nameB (l.getD k txz) b = true then (k : Int) else lastK l k b
def revK (t : Tx) (k : Nat) (f : Int → Int) (q : Nat) : Int → Int := fun b => if amongB (t.rev.take q) b = true then (k : Int) else f b
def infoK (t : Tx) (k : Nat) (f : Int → Int) (p : Nat) : Int → Int := fun b => if (amongB t.rev b || amongB (blksOf (t.info.take p)) b) = true then (k : Int) else f b
theorem revK_succ {t : Tx} {q : Nat} {x : Int} (h : t.rev[q]? = some x) (k : Nat) (f : Int → Int) : revK t k f (q + 1) = fun z => if z = x then (k : Int) else revK t k f q z := by
  funext z
  unfold revK
  rw [List.take_add_one, h, amongB, amongB, List.any_append]
  by_cases e : z = x
  · simp [e]
  · have : ¬ x = z := fun y => e y.symm
    simp [e, this]
theorem infoK_succ {t : Tx} {p : Nat} {x : Int × ByteArray} (h : t.info[p]? = some x) (k : Nat) (f : Int → Int) : infoK t k f (p + 1) = fun z => if z = x.1 then (k : Int) else infoK t k f p z := by
  funext z
  unfold infoK blksOf
  rw [List.take_add_one, h, List.map_append, amongB, amongB, amongB, List.any_append]
  by_cases e : z = x.1
  · simp [e]
  · have : ¬ x.1 = z := fun y => e y.symm
    simp [e, this]
theorem infoK_zero (t : Tx) (k : Nat) (f : Int → Int) : revK t k f t.rev.length = infoK t k f 0 := by
  funext z
  unfold revK infoK
  rw [List.take_length]
  simp [blksOf, amongB]
theorem infoK_all {l : List Tx} {k : Nat} {t : Tx} (h : t = l.getD k txz) : infoK t k (lastK l k) t.info.length = lastK l (k + 1) := by
  funext z
  rw [lastK, ← h]
  unfold infoK nameB
  rw [List.take_length]

set_option maxHeartbeats 8000000 in
set_option maxRecDepth 100000 in
theorem lastToName_any (a : Option Addr) (c : Nat) (l : List Tx) (w : World) (h : SegTx w a l) (hn : l.length * 128 ≤ 140737488355328) (hf : ∀ t ∈ l, Few t) :
    Calls Try.prog 156 #[.slice a l.length c] w fun e w' => ∃ B n, e = .returned (.map (some B)) ∧ MapI w' B n (lastK l l.length) ∧ w.heap.size ≤ B ∧ Below w.heap.size w w' := by
  have HS := hide h
  have HW := hide hf
  clear h hf
  have hmk := fun w : World => run_makeMap (P := Try.prog) 209 w
  go_enter Try.func156, Try.ntmps156
  go_wp2
  clear hmk
  go_loopw [13] (fun i wr => ∃ k n : Nat, k ≤ l.length ∧ i = .int .i64 k ∧ n ≤ 24 * k ∧ Hid (MapI wr w.heap.size n (lastK l k)) ∧ Hid (Below w.heap.size w wr)) (fun i _ => l.length - (intOf i).toNat)
  case atStart => exact ⟨0, 0, Nat.zero_le _, rfl, Nat.zero_le _, MapI.made w, below1 _ _⟩
  case round =>
    obtain ⟨wo, hwo⟩ : ∃ wo, wo = wr := ⟨_, rfl⟩
    subst hwo
    obtain ⟨k, n, hk, rfl, hnk, hMap, hbr⟩ := hrel
    have hwm := MapI.lt hMap.out
    by_cases hlt : k < l.length
    · obtain ⟨b2, off, rfl, hb, hc⟩ := HS.out.resolve_left (by intro e; rw [e] at hlt; simp at hlt)
      obtain ⟨t, ht⟩ : ∃ t, t = l.getD k txz := ⟨_, rfl⟩
      have HX : Hid (l[k]? = some t) := by rw [ht]; exact tx_at hlt
      have hcj := hc k hlt
      rw [← ht] at hcj
      obtain ⟨a0, c0, a1, c1, r, d, ⟨x0, x1, x2, x3, x4, x5, x6, x7, x8, x9⟩, hT⟩ := hcj
      obtain ⟨s1, _, s3, _, _, _⟩ := hT.rows
      replace x0 := cellKeep hbr.out hb x0
      replace x1 := cellKeep hbr.out hb x1
      replace x2 := cellKeep hbr.out hb x2
      replace x3 := cellKeep hbr.out hb x3
      replace x4 := cellKeep hbr.out hb x4
      replace x5 := cellKeep hbr.out hb x5
      replace x6 := cellKeep hbr.out hb x6
      replace x7 := cellKeep hbr.out hb x7
      replace x8 := cellKeep hbr.out hb x8
      replace x9 := cellKeep hbr.out hb x9
      obtain ⟨w1, w2, w3, w4⟩ := HW.out t (List.mem_of_getElem? HX.out)
      have HM := hide s1
      have HR := hide s3
      have W3 := hide w3
      have W4 := hide w4
      have HD := hide (infoK_all ht)
      have hlt' : (k : Int) < (l.length : Int) := by omega
      have hkw : (Lit.int .i64 (k : Int)).wf = true := wfI (by omega) (by omega)
      have HKW := hide hkw
      clear ht hc hT s1 s3 w3 w4 hkw
      generalize lastK l k = f at *
      go_wp2
      clear x0 x1 x2 x3 x4 x5 x6 x7 x8 x9
      go_loopw [21] (fun i wr => ∃ q n : Nat, q ≤ t.rev.length ∧ i = .int .i64 q ∧ n ≤ 24 * k + q ∧ Hid (MapI wr w.heap.size n (revK t k f q)) ∧ Hid (wr.heap[wo.heap.size]? = some (.cells #[.int .i64 t.seq, .slice a0 t.info.length c0, .slice a1 t.data.length c1, .slice r t.rev.length d, .bool t.h0.on, .int .i64 t.h0.left, .bool t.h1.on, .int .i64 t.h1.left, .bool t.h2.on, .int .i64 t.h2.left] 40 (0, 0))) ∧ wo.heap.size < wr.heap.size ∧ Hid (Below w.heap.size w wr)) (fun i _ => t.rev.length - (intOf i).toNat)
      case atStart => exact ⟨0, n, Nat.zero_le _, rfl, by omega, hMap.out.below (below1 _ _), heap_alloc_new wo _, by simp, bthen hbr.out (below1 _ _)⟩
      case round =>
        obtain ⟨q, n2, hq, rfl, hn2, hM1, K1, hs1, hb1⟩ := hrel
        by_cases hq2 : q < t.rev.length
        · obtain ⟨b3, off3, rfl, hb3, hc3⟩ := HR.out.resolve_left (by intro e; rw [e] at hq2; simp at hq2)
          obtain ⟨x, hx⟩ : ∃ x, x = t.rev.getD q 0 := ⟨_, rfl⟩
          have g3 := cellKeep hb1.out hb3 (hc3 q hq2)
          rw [← hx] at g3
          have HX3 : Hid (t.rev[q]? = some x) := by rw [hx]; exact getD_at _ _ _ hq2
          have hxr := W3.out x (List.mem_of_getElem? HX3.out)
          have HF := hide (revK_succ HX3.out k f)
          have hq' : (q : Int) < (t.rev.length : Int) := by omega
          obtain ⟨w2', hrun, hM2, hg2⟩ := hM1.out.store x (k : Int) (wfI (by omega) (by omega)) HKW.out (by unfold maxLen; omega)
          clear hx hc3 HX3
          go_wp2
          have HM2 := hide hM2
          have HB2 : Hid (Below w.heap.size w w2') := hb1.out.grown hg2 hb1.out.size (fun j hj => by cases hj; exact Nat.le_refl _)
          have K2 : Hid (w2'.heap[wo.heap.size]? = _) := (hg2.block _ hs1 (by intro e; have := Option.some.inj e; omega)).trans K1.out
          have hs2 := Nat.lt_of_lt_of_le hs1 hg2.size
          go_roundw
          case rel => exact ⟨q + 1, n2 + 1, by omega, by go_num, by omega, by rw [HF.out]; exact HM2, K2, hs2, HB2⟩
          case measure => simp [intOf]; omega
        · have e : q = t.rev.length := by omega
          subst e
          rw [infoK_zero] at hM1
          have hq' : ¬ ((t.rev.length : Int) < (t.rev.length : Int)) := by omega
          obtain ⟨⟨y0, y1, y2, y3, y4, y5, y6, y7, y8, y9⟩, _⟩ := box10 K1.out
          go_wp2
          clear y0 y1 y2 y3 y4 y5 y6 y7 y8 y9 K1 hs1
          go_loopw [32] (fun i wr => ∃ p n : Nat, p ≤ t.info.length ∧ i = .int .i64 p ∧ n ≤ 24 * k + 12 + p ∧ Hid (MapI wr w.heap.size n (infoK t k f p)) ∧ Hid (Below w.heap.size w wr)) (fun i _ => t.info.length - (intOf i).toNat)
          case atStart => exact ⟨0, n2, Nat.zero_le _, rfl, by omega, hM1, hb1⟩
          case round =>
            clear hM1 hb1
            obtain ⟨p, n3, hp, rfl, hn3, hM1, hb1⟩ := hrel
            by_cases hp2 : p < t.info.length
            · obtain ⟨b3, off3, rfl, hb3, hc3⟩ := HM.out.resolve_left (by intro e; rw [e] at hp2; simp at hp2)
              obtain ⟨x, hx⟩ : ∃ x, x = t.info.getD p (0, ByteArray.empty) := ⟨_, rfl⟩
              obtain ⟨g1, g2⟩ := hc3 p hp2
              replace g1 := cellKeep hb1.out hb3 g1
              replace g2 := cellKeep hb1.out hb3 g2
              rw [← hx] at g1 g2
              have HX3 : Hid (t.info[p]? = some x) := by rw [hx]; exact getD_at _ _ _ hp2
              have hxr := W4.out x (List.mem_of_getElem? HX3.out)
              have HF := hide (infoK_succ HX3.out k f)
              have hp' : (p : Int) < (t.info.length : Int) := by omega
              clear hx hc3 HX3
              obtain ⟨nn, s⟩ := x
              obtain ⟨w2', hrun, hM2, hg2⟩ := (hM1.out.below (below1 wr (.cells #[.int .i64 nn, .string s] 91 (0, 0)))).store nn (k : Int) (wfI (by have := hxr.1; simp at this; omega) (by have := hxr.2; simp at this; omega)) HKW.out (by unfold maxLen; omega)
              go_wp2
              have HM2 := hide hM2
              have HB2 : Hid (Below w.heap.size w w2') := (bthen hb1.out (below1 _ _)).grown hg2 (bthen hb1.out (below1 _ _)).size (fun j hj => by cases hj; exact Nat.le_refl _)
              go_roundw
              case rel => exact ⟨p + 1, n3 + 1, by omega, by go_num, by omega, by rw [HF.out]; exact HM2, HB2⟩
              case measure => simp [intOf]; omega
            · have e : p = t.info.length := by omega
              subst e
              have hp' : ¬ ((t.info.length : Int) < (t.info.length : Int)) := by omega
              go_wp2
              go_roundw
              case rel => exact ⟨k + 1, n3, by omega, by go_num, by omega, by rw [← HD.out]; exact hM1, hb1⟩
              case measure => simp [intOf]; omega
    · have e : k = l.length := by omega
      subst e
      go_wp2
      go_ret
      exact ⟨_, _, rfl, hMap.out, Nat.le_refl _, hbr.out⟩

end Go.Proofs.Ytjnpndfpajjihab
