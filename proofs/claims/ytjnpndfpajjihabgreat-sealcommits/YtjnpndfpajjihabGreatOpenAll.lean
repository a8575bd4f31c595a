/-
  An argument of type []int, as it reads, is a row of numbers.
  An argument of type api.Txn, as it reads, is a transaction in memory as the walks know it.
  An argument of type api.Txn, as it reads: its three rows have room for what they hold.
  An argument of type api.Ring, as it reads, is two numbers.
-/
import Derived.Test.YtjnpndfpajjihabGreatMCore
import Derived.Test.YtjnpndfpajjihabGreatRows
import Derived.ProofKit
import Derived.ChangeSlices
import Derived.Deep.Slices
import Derived.Lib.SmallJoins
import Derived.Test.YtjnpndfpajjihabGreatTCore
import Derived.OpenShut
import Derived.Test.YtjnpndfpajjihabGreatECopy
import Derived.Test.YtjnpndfpajjihabGreatBase
namespace Go.Proofs.YtjnpndfpajjihabGreat
open Go.RowKit Go.ChangeShapes Go.WideShapes Go.Deep Go.Joins

theorem cellsN1 : Tryz.prog.cellsOf 3 = 1 := by kernel_rfl
theorem cellsL1 : Tryz.prog.cellsOf 4 = 1 := by kernel_rfl
theorem bytesN : Tryz.prog.bytesOf 3 = 8 := by kernel_rfl

theorem spotOf {w : World} {x : Addr} {v : Value} (h : w.cell? (x.add 0) = some v) : ∃ b off, x = ⟨b, off, none⟩ ∧ b < w.heap.size := by
  obtain ⟨b, off, spot⟩ := x
  have hs : spot = none := by simpa [Addr.add] using World.cell?_spot h
  subst hs
  exact ⟨b, off, rfl, by simpa [Addr.add] using World.block_lt_of_cell? w _ h⟩

section
variable {H : Type} {enc : TypeId × Value → H} {w : World} {spare : Nat → Bool} {held : Bool}

theorem open_blocks {fuel : Nat} {v : Value} {y : DataW H × List MemPlace} (h : DataW.trod enc Tryz.prog w 0 spare held fuel 23 [v] = some y) :
    ∃ (a : Option Addr) (c : Nat) (l : List Int), v = .slice a l.length c ∧ SegI w a l ∧ l.length ≤ maxLen ∧ ((∀ x ∈ y.1.weights Tryz.prog 23, x ≤ reachBytes) → l.length * 8 ≤ reachBytes) := by
  rcases open_ints Tryz.underlying23 Tryz.underlying3 cellsN1 h with ⟨hcs, _⟩ | ⟨x, l, c, zs, hcs, _, hl, hm, hz, hy, hcell, hwf⟩
  · simp only [List.cons.injEq, and_true] at hcs
    exact ⟨none, 0, [], hcs, .inl rfl, by decide, fun _ => by decide⟩
  · simp only [List.cons.injEq, and_true] at hcs
    have hle : l ≤ zs.length := by rw [hz]; split <;> omega
    have hlen : (zs.take l).length = l := by rw [List.length_take]; omega
    refine ⟨some x, c, zs.take l, by rw [hlen]; exact hcs, ?_, by rw [hlen]; omega, ?_⟩
    · by_cases h0 : l = 0
      · left; rw [h0]; rfl
      · right
        obtain ⟨b, off, rfl, hb⟩ := spotOf (hcell 0 (by omega))
        refine ⟨b, off, rfl, hb, fun i hi => ?_⟩
        rw [hlen] at hi
        have := hcell i (by omega)
        rw [Addr.add_lit] at this
        rw [this, List.getD, List.getD, List.getElem?_take, if_pos hi]
    · intro hw
      have := hw (((lits (H := H) .i64 (zs.take l)).length + (lits (H := H) .i64 (zs.drop l)).length) * 8) (by rw [hy]; simp [DataW.weights, Tryz.underlying23, bytesN])
      rw [show (lits (H := H) .i64 (zs.take l)).length = l from by simp only [lits, List.length_map]; exact hlen] at this
      rw [hlen]
      exact Nat.le_trans (Nat.mul_le_mul_right 8 (Nat.le_add_right _ _)) this

end


theorem cellsT1 : Tryz.prog.cellsOf 9 = 1 := by kernel_rfl
theorem cellsC2 : Tryz.prog.cellsOf 78 = 2 := by kernel_rfl
theorem bytesC : Tryz.prog.bytesOf 78 = 24 := by kernel_rfl
theorem cellsX10 : Tryz.prog.cellsOf 28 = 10 := by kernel_rfl
theorem cellsH2 : Tryz.prog.cellsOf 25 = 2 := by kernel_rfl
theorem cellsH6 : Tryz.prog.cellsOf 26 = 6 := by kernel_rfl
theorem cellsSC : Tryz.prog.cellsOf 22 = 1 := by kernel_rfl
theorem cellsSI : Tryz.prog.cellsOf 23 = 1 := by kernel_rfl

theorem array10 {α : Type} {cs : Array α} (h : cs.size = 10) : ∃ c0 c1 c2 c3 c4 c5 c6 c7 c8 c9, cs = #[c0, c1, c2, c3, c4, c5, c6, c7, c8, c9] := by
  obtain ⟨l⟩ := cs
  match l, h with
  | [c0, c1, c2, c3, c4, c5, c6, c7, c8, c9], _ => exact ⟨c0, c1, c2, c3, c4, c5, c6, c7, c8, c9, rfl⟩

section
variable {H : Type} {enc : TypeId × Value → H} {w : World} {spare : Nat → Bool} {held : Bool}

set_option maxRecDepth 100000 in
theorem open_copies {fuel : Nat} {v : Value} {y : DataW H × List MemPlace} (h : DataW.trod enc Tryz.prog w 0 spare held fuel 22 [v] = some y) :
    ∃ (a : Option Addr) (c : Nat) (ws : List (Int × ByteArray)), v = .slice a ws.length c ∧ SegW w a ws ∧ ws.length ≤ maxLen ∧ ((∀ x ∈ y.1.weights Tryz.prog 22, x ≤ reachBytes) → ws.length * 24 ≤ reachBytes) ∧ ∀ x ∈ ws, (Lit.int .i64 x.1).wf = true ∧ x.2.size ≤ maxLen := by
  rcases open_slice Tryz.underlying22 h with ⟨hcs, _⟩ | ⟨x, l, c, m, n, D, Pl, hcs, _, hl, hm, hmm, hy, hel⟩
  · simp only [List.cons.injEq, and_true] at hcs
    exact ⟨none, 0, [], hcs, .inl rfl, by decide, fun _ => by decide, fun s hs => by cases hs⟩
  · simp only [List.cons.injEq, and_true] at hcs
    have hle : l ≤ m := by rw [hmm]; split <;> omega
    have each : ∀ i, i < l → ∃ u : Int × ByteArray, w.cell? (x.add (i * 2)) = some (.int .i64 u.1) ∧ w.cell? ((x.add (i * 2)).add 1) = some (.string u.2) ∧ (Lit.int .i64 u.1).wf = true ∧ u.2.size ≤ maxLen := by
      intro i hi
      obtain ⟨cs, hc, ht⟩ := hel i (by omega)
      rw [cellsC2] at hc
      obtain ⟨y0, y1, k, _, hlen, g0, g1⟩ := trod_struct2 Tryz.underlying78 ht
      rw [cellsC2] at hlen
      match cs, hlen with
      | [u0, u1], _ =>
        have c0 := (World.cells?_some hc).2.2 0 (by omega)
        have c1 := (World.cells?_some hc).2.2 1 (by omega)
        rw [show Addr.add (x.add (i * 2)) 0 = x.add (i * 2) from by simp [Addr.add]] at c0
        simp only [cellsN1, cellsT1, List.drop_zero, List.drop_one, List.tail_cons, List.take_succ_cons, List.take_zero] at g0 g1
        obtain ⟨a, e0, _, wa⟩ := DataW.trod_int Tryz.underlying3 g0
        obtain ⟨s, e1, _, ws⟩ := DataW.trod_string Tryz.underlying9 g1
        simp only [List.cons.injEq, and_true] at e0 e1
        subst e0 e1
        exact ⟨(a, s), by simpa using c0, by simpa using c1, wa, ws⟩
    obtain ⟨f, hf⟩ := choose_lt (α := Int × ByteArray) each
    have hlen : ((List.range l).map f).length = l := by simp
    refine ⟨some x, c, (List.range l).map f, by rw [hlen]; exact hcs, ?_, by rw [hlen]; omega, ?_, ?_⟩
    rotate_left
    · intro hw
      have := hw ((((List.range l).map D).length + ((List.range (m - l)).map fun j => D (l + j)).length) * 24) (by rw [hy]; simp [DataW.weights, Tryz.underlying22, bytesC])
      rw [show ((List.range l).map D).length = l from by simp] at this
      rw [hlen]
      exact Nat.le_trans (Nat.mul_le_mul_right 24 (Nat.le_add_right _ _)) this
    rotate_left
    · by_cases h0 : l = 0
      · left; rw [h0]; rfl
      · right
        have hx := (hf 0 (by omega)).1
        rw [Nat.zero_mul] at hx
        obtain ⟨b, off, rfl, hb⟩ := spotOf hx
        refine ⟨b, off, rfl, hb, fun i hi => ?_⟩
        rw [hlen] at hi
        have g := hf i hi
        rw [Addr.add_lit, Addr.add_lit] at g
        have e : ((List.range l).map f).getD i (0, ByteArray.empty) = f i := by rw [List.getD, List.getElem?_map, List.getElem?_range hi]; rfl
        rw [e]
        exact ⟨g.1, g.2.1⟩
    · intro u hu
      obtain ⟨i, hi, rfl⟩ := List.mem_map.1 hu
      have := hf i (List.mem_range.1 hi)
      exact ⟨this.2.2.1, this.2.2.2⟩


/-- A handle that came in. -/
theorem open_handle {fuel : Nat} {u0 u1 : Value} {y : DataW H × List MemPlace} (h : DataW.trod enc Tryz.prog w 0 spare held fuel 25 [u0, u1] = some y) :
    ∃ x : Hd, u0 = .bool x.on ∧ u1 = .int .i64 x.left := by
  obtain ⟨y0, y1, k, _, hlen, g0, g1⟩ := trod_struct2 Tryz.underlying25 h
  simp only [cellsN1, cellsL1, List.drop_zero, List.drop_one, List.tail_cons, List.take_succ_cons, List.take_zero] at g0 g1
  obtain ⟨s, e0, _⟩ := DataW.trod_bool Tryz.underlying4 g0
  obtain ⟨a, e1, _, _⟩ := DataW.trod_int Tryz.underlying3 g1
  simp only [List.cons.injEq, and_true] at e0 e1
  exact ⟨⟨s, a⟩, e0, e1⟩

set_option maxRecDepth 100000 in
/-- A transaction that came in is a transaction. -/
theorem open_txn {r : Reach} {b0 : Nat} {v : Value} {dt : DataW H} {p : List MemPlace} (hv : Value.okWide Tryz.prog w r b0 28 v) (h : DataW.Trod enc Tryz.prog w 0 spare held 28 v dt p) :
    ∃ t : Tx, IsTx w v t ∧ ((∀ x ∈ dt.weights Tryz.prog 28, x ≤ reachBytes) → t.info.length * 24 ≤ 140737488355328 ∧ t.data.length * 24 ≤ 140737488355328 ∧ t.rev.length * 8 ≤ 140737488355328) := by
  obtain ⟨cs, rfl, hsz⟩ := okWide_struct Tryz.underlying28 hv
  obtain ⟨c0, c1, c2, c3, c4, c5, c6, c7, c8, c9, rfl⟩ := array10 (hsz.trans cellsX10)
  obtain ⟨fuel, hf⟩ := h
  obtain ⟨xs, n, _, hx, hl, hlen, hg⟩ := DataW.trod_struct Tryz.underlying28 hf
  match xs, hlen with
  | [y0, y1, y2, y3, y4], _ =>
    simp only [Prod.mk.injEq] at hx
    have h0 := hg 0 _ rfl
    have h1 := hg 1 _ rfl
    have h2 := hg 2 _ rfl
    have h3 := hg 3 _ rfl
    have h4 := hg 4 _ rfl
    simp [Value.cells, cellsN1, cellsSC, cellsSI, cellsH6] at h0 h1 h2 h3 h4
    obtain ⟨q, e0, _, _⟩ := DataW.trod_int Tryz.underlying3 h0
    simp only [List.cons.injEq, and_true] at e0
    subst e0
    obtain ⟨a, c, l1, rfl, s1, n1, w1, _⟩ := open_copies h1
    obtain ⟨a', c', l2, rfl, s2, n2, w2, _⟩ := open_copies h2
    obtain ⟨b, d, l3, rfl, s3, n3, w3⟩ := open_blocks h3
    obtain ⟨zs, m, _, _, _, hzl, hz⟩ := DataW.trod_array Tryz.underlying26 h4
    match zs, hzl with
    | [z0, z1, z2], _ =>
      have g0 := hz 0 (by omega)
      have g1 := hz 1 (by omega)
      have g2 := hz 2 (by omega)
      simp [cellsH2] at g0 g1 g2
      obtain ⟨x0, rfl, rfl⟩ := open_handle g0
      obtain ⟨x1, rfl, rfl⟩ := open_handle g1
      obtain ⟨x2, rfl, rfl⟩ := open_handle g2
      refine ⟨⟨q, l1, l2, l3, x0, x1, x2⟩, ⟨a, c, a', c', b, d, rfl, s1, s2, s3, n1, n2, n3⟩, fun hw => ?_⟩
      have e : DataW.weights Tryz.prog 28 dt = y0.1.weights Tryz.prog 3 ++ (y1.1.weights Tryz.prog 22 ++ (y2.1.weights Tryz.prog 22 ++ (y3.1.weights Tryz.prog 23 ++ (y4.1.weights Tryz.prog 26 ++ [])))) := by
        rw [hx.1]
        simp only [DataW.weights, Tryz.underlying28]
        rfl
      rw [e] at hw
      have k1 := w1 fun x hx => hw x (by simp [hx])
      have k2 := w2 fun x hx => hw x (by simp [hx])
      have k3 := w3 fun x hx => hw x (by simp [hx])
      unfold reachBytes at k1 k2 k3
      exact ⟨by show l1.length * 24 ≤ _; omega, by show l2.length * 24 ≤ _; omega, by show l3.length * 8 ≤ _; omega⟩

end


section
variable {H : Type} {enc : TypeId × Value → H} {w : World} {spare : Nat → Bool} {held : Bool}

theorem open_room {t e : TypeId} {fuel : Nat} {v : Value} {y : DataW H × List MemPlace} (ht : Tryz.prog.underlying t = some (.slice e)) (h : DataW.trod enc Tryz.prog w 0 spare held fuel t [v] = some y) :
    ∃ a n c, v = .slice a n c ∧ n ≤ c := by
  rcases open_slice ht h with ⟨hcs, _⟩ | ⟨x, l, c, m, n, D, Pl, hcs, _, hl, _⟩
  · simp only [List.cons.injEq, and_true] at hcs
    exact ⟨none, 0, 0, hcs, Nat.le_refl _⟩
  · simp only [List.cons.injEq, and_true] at hcs
    exact ⟨some x, l, c, hcs, hl⟩

set_option maxRecDepth 100000 in
theorem open_txn_room {r : Reach} {b0 : Nat} {v : Value} {dt : DataW H} {p : List MemPlace} (hv : Value.okWide Tryz.prog w r b0 28 v) (h : DataW.Trod enc Tryz.prog w 0 spare held 28 v dt p) : RoomTx v := by
  obtain ⟨cs, rfl, hsz⟩ := okWide_struct Tryz.underlying28 hv
  obtain ⟨c0, c1, c2, c3, c4, c5, c6, c7, c8, c9, rfl⟩ := array10 (hsz.trans cellsX10)
  obtain ⟨fuel, hf⟩ := h
  obtain ⟨xs, n, _, hx, hl, hlen, hg⟩ := DataW.trod_struct Tryz.underlying28 hf
  match xs, hlen with
  | [y0, y1, y2, y3, y4], _ =>
    have h1 := hg 1 _ rfl
    have h2 := hg 2 _ rfl
    have h3 := hg 3 _ rfl
    simp [Value.cells, cellsSC, cellsSI] at h1 h2 h3
    obtain ⟨a, k, c, rfl, e1⟩ := open_room Tryz.underlying22 h1
    obtain ⟨a', k', c', rfl, e2⟩ := open_room Tryz.underlying22 h2
    obtain ⟨b, m, d, rfl, e3⟩ := open_room Tryz.underlying23 h3
    exact ⟨_, _, _, _, _, _, _, _, _, _, _, _, _, _, _, _, rfl, e1, e2, e3⟩

end

end Go.Proofs.YtjnpndfpajjihabGreat

namespace Go.Proofs.YtjnpndfpajjihabGreat
open Go.RowKit Go.ChangeShapes Go.WideShapes Go.Joins

theorem cells2R : Tryz.prog.cellsOf 41 = 2 := by kernel_rfl

section
variable {H : Type} {enc : TypeId × Value → H} {w : World} {spare : Nat → Bool} {held : Bool}

set_option maxRecDepth 100000 in
/-- A ring that came in is two numbers. -/
theorem open_ring {r : Reach} {b0 : Nat} {v : Value} {dt : DataW H} {p : List MemPlace} (hv : Value.okWide Tryz.prog w r b0 41 v) (h : DataW.Trod enc Tryz.prog w 0 spare held 41 v dt p) :
    ∃ x y : Int, v = .agg #[.int .i64 x, .int .i64 y] ∧ (Lit.int .i64 x).wf = true ∧ (Lit.int .i64 y).wf = true := by
  obtain ⟨c0, c1, y0, y1, m, rfl, _, _, h0, h1⟩ := open_agg2 Tryz.underlying41 (by kernel_rfl) cells2R hv h
  obtain ⟨a, e0, _, wa⟩ := DataW.trod_int Tryz.underlying3 h0
  obtain ⟨b, e1, _, wb⟩ := DataW.trod_int Tryz.underlying3 h1
  simp only [List.cons.injEq, and_true] at e0 e1
  subst e0 e1
  exact ⟨a, b, rfl, wa, wb⟩

end

end Go.Proofs.YtjnpndfpajjihabGreat
