/-
  An argument of type api.Disk, as it reads, is a disk in memory as the walks know it.
-/
import Derived.Test.YtjnpndfpajjihaaCore
import Derived.Test.YtjnpndfpajjihaaRows
import Derived.ProofKit
import Derived.SliceStrings
import Derived.Deep.Slices
import Derived.Lib.SmallJoins
namespace Go.Proofs.Ytjnpndfpajjihaa
open Go.RowKit Go.ChangeShapes Go.WideShapes Go.Deep Go.Joins

theorem cells1S : Try.prog.cellsOf 9 = 1 := by kernel_rfl
theorem cells1I : Try.prog.cellsOf 3 = 1 := by kernel_rfl
theorem cells2W : Try.prog.cellsOf 42 = 2 := by kernel_rfl
theorem bytesS : Try.prog.bytesOf 9 = 16 := by kernel_rfl
theorem bytesW : Try.prog.bytesOf 42 = 24 := by kernel_rfl
theorem cells2D : Try.prog.cellsOf 25 = 2 := by kernel_rfl

theorem spot_none {w : World} {x : Addr} {v : Value} (h : w.cell? (x.add 0) = some v) : ∃ b off, x = ⟨b, off, none⟩ ∧ b < w.heap.size := by
  obtain ⟨b, off, spot⟩ := x
  have hs : spot = none := by simpa [Addr.add] using World.cell?_spot h
  subst hs
  exact ⟨b, off, rfl, by simpa [Addr.add] using World.block_lt_of_cell? w _ h⟩

section
variable {H : Type} {enc : TypeId × Value → H} {w : World} {spare : Nat → Bool} {held : Bool}

theorem open_safe {fuel : Nat} {v : Value} {y : DataW H × List MemPlace} (h : DataW.trod enc Try.prog w 0 spare held fuel 22 [v] = some y) :
    ∃ (a : Option Addr) (c : Nat) (ss : List ByteArray), v = .slice a ss.length c ∧ SegS w a ss ∧ ss.length ≤ maxLen ∧ ((∀ x ∈ y.1.weights Try.prog 22, x ≤ reachBytes) → ss.length * 16 ≤ reachBytes) ∧ ∀ s ∈ ss, s.size ≤ maxLen := by
  rcases open_strings Try.underlying22 Try.underlying9 cells1S h with ⟨hcs, _⟩ | ⟨x, l, c, ss, hcs, _, hl, hm, hz, hy, hcell, hsz⟩
  · simp only [List.cons.injEq, and_true] at hcs
    exact ⟨none, 0, [], hcs, .inl rfl, by decide, fun _ => by decide, fun s hs => by cases hs⟩
  · simp only [List.cons.injEq, and_true] at hcs
    have hle : l ≤ ss.length := by rw [hz]; split <;> omega
    have hlen : (ss.take l).length = l := by rw [List.length_take]; omega
    refine ⟨some x, c, ss.take l, by rw [hlen]; exact hcs, ?_, by rw [hlen]; omega, ?_, fun s hs => hsz s (List.mem_of_mem_take hs)⟩
    rotate_left
    · intro hw
      have := hw (((strs (H := H) (ss.take l)).length + (strs (H := H) (ss.drop l)).length) * 16) (by rw [hy]; simp [DataW.weights, Try.underlying22, bytesS])
      rw [show (strs (H := H) (ss.take l)).length = l from by simp only [strs, List.length_map]; exact hlen] at this
      rw [hlen]
      exact Nat.le_trans (Nat.mul_le_mul_right 16 (Nat.le_add_right _ _)) this
    by_cases h0 : l = 0
    · left; rw [h0]; rfl
    · right
      obtain ⟨b, off, rfl, hb⟩ := spot_none (hcell 0 (by omega))
      refine ⟨b, off, rfl, hb, fun i hi => ?_⟩
      rw [hlen] at hi
      have := hcell i (by omega)
      rw [Addr.add_lit] at this
      rw [this, List.getD, List.getD, List.getElem?_take, if_pos hi]

set_option maxRecDepth 100000 in
theorem open_writes {fuel : Nat} {v : Value} {y : DataW H × List MemPlace} (h : DataW.trod enc Try.prog w 0 spare held fuel 23 [v] = some y) :
    ∃ (a : Option Addr) (c : Nat) (ws : List (Int × ByteArray)), v = .slice a ws.length c ∧ SegW w a ws ∧ ws.length ≤ maxLen ∧ ((∀ x ∈ y.1.weights Try.prog 23, x ≤ reachBytes) → ws.length * 24 ≤ reachBytes) ∧ ∀ x ∈ ws, (Lit.int .i64 x.1).wf = true ∧ x.2.size ≤ maxLen := by
  rcases open_slice Try.underlying23 h with ⟨hcs, _⟩ | ⟨x, l, c, m, n, D, Pl, hcs, _, hl, hm, hmm, hy, hel⟩
  · simp only [List.cons.injEq, and_true] at hcs
    exact ⟨none, 0, [], hcs, .inl rfl, by decide, fun _ => by decide, fun s hs => by cases hs⟩
  · simp only [List.cons.injEq, and_true] at hcs
    have hle : l ≤ m := by rw [hmm]; split <;> omega
    have each : ∀ i, i < l → ∃ u : Int × ByteArray, w.cell? (x.add (i * 2)) = some (.int .i64 u.1) ∧ w.cell? ((x.add (i * 2)).add 1) = some (.string u.2) ∧ (Lit.int .i64 u.1).wf = true ∧ u.2.size ≤ maxLen := by
      intro i hi
      obtain ⟨cs, hc, ht⟩ := hel i (by omega)
      rw [cells2W] at hc
      obtain ⟨y0, y1, k, _, hlen, g0, g1⟩ := trod_struct2 Try.underlying42 ht
      rw [cells2W] at hlen
      match cs, hlen with
      | [u0, u1], _ =>
        have c0 := (World.cells?_some hc).2.2 0 (by omega)
        have c1 := (World.cells?_some hc).2.2 1 (by omega)
        rw [show Addr.add (x.add (i * 2)) 0 = x.add (i * 2) from by simp [Addr.add]] at c0
        simp only [cells1I, cells1S, List.drop_zero, List.drop_one, List.tail_cons, List.take_succ_cons, List.take_zero] at g0 g1
        obtain ⟨a, e0, _, wa⟩ := DataW.trod_int Try.underlying3 g0
        obtain ⟨s, e1, _, ws⟩ := DataW.trod_string Try.underlying9 g1
        simp only [List.cons.injEq, and_true] at e0 e1
        subst e0 e1
        exact ⟨(a, s), by simpa using c0, by simpa using c1, wa, ws⟩
    obtain ⟨f, hf⟩ := choose_lt (α := Int × ByteArray) each
    have hlen : ((List.range l).map f).length = l := by simp
    refine ⟨some x, c, (List.range l).map f, by rw [hlen]; exact hcs, ?_, by rw [hlen]; omega, ?_, ?_⟩
    rotate_left
    · intro hw
      have := hw ((((List.range l).map D).length + ((List.range (m - l)).map fun j => D (l + j)).length) * 24) (by rw [hy]; simp [DataW.weights, Try.underlying23, bytesW])
      rw [show ((List.range l).map D).length = l from by simp] at this
      rw [hlen]
      exact Nat.le_trans (Nat.mul_le_mul_right 24 (Nat.le_add_right _ _)) this
    rotate_left
    · by_cases h0 : l = 0
      · left; rw [h0]; rfl
      · right
        have hx := (hf 0 (by omega)).1
        rw [Nat.zero_mul] at hx
        obtain ⟨b, off, rfl, hb⟩ := spot_none hx
        refine ⟨b, off, rfl, hb, fun i hi => ?_⟩
        rw [hlen] at hi
        have g := hf i hi
        rw [Addr.add_lit, Addr.add_lit] at g
        have e : ((List.range l).map f).getD i (0, ByteArray.empty) = f i := by rw [List.getD, List.getElem?_map, List.getElem?_range hi]; rfl
        rw [e]
        exact ⟨g.1, g.2.1⟩
    · intro u hu
      obtain ⟨i, hi, rfl⟩ := List.mem_map.1 hu
      have := hf i (List.mem_range.1 hi)
      exact ⟨this.2.2.1, this.2.2.2⟩

set_option maxRecDepth 100000 in
/-- A disk that came in is a disk. -/
theorem open_disk {r : Reach} {b0 : Nat} {v : Value} {dt : DataW H} {p : List MemPlace} (hv : Value.okWide Try.prog w r b0 25 v) (h : DataW.Trod enc Try.prog w 0 spare held 25 v dt p) :
    ∃ d : Dk, IsDk w v d ∧ (∀ s ∈ d.safe, s.size ≤ maxLen) ∧ (∀ x ∈ d.wr, (Lit.int .i64 x.1).wf = true ∧ x.2.size ≤ maxLen) ∧
      ((∀ x ∈ dt.weights Try.prog 25, x ≤ reachBytes) → d.safe.length * 16 ≤ 140737488355328 ∧ d.wr.length * 24 ≤ 140737488355328) := by
  obtain ⟨c0, c1, y0, y1, m, rfl, hdt, _, h0, h1⟩ := open_agg2 Try.underlying25 (by kernel_rfl) cells2D hv h
  obtain ⟨a, c, ss, rfl, hS, hn, hr, hz⟩ := open_safe h0
  obtain ⟨a', c', ws, rfl, hW, hm, hr', hx⟩ := open_writes h1
  refine ⟨⟨ss, ws⟩, ⟨a, c, a', c', rfl, hS, hW, hn, hm⟩, hz, hx, fun hw => ?_⟩
  have e : DataW.weights Try.prog 25 dt = y0.1.weights Try.prog 22 ++ (y1.1.weights Try.prog 23 ++ []) := by
    rw [hdt]
    simp only [DataW.weights, Try.underlying25]
    rfl
  rw [e] at hw
  have k1 := hr fun x hx => hw x (by simp [hx])
  have k2 := hr' fun x hx => hw x (by simp [hx])
  unfold reachBytes at k1 k2
  exact ⟨by show ss.length * 16 ≤ _; omega, by show ws.length * 24 ≤ _; omega⟩

end

end Go.Proofs.Ytjnpndfpajjihaa
