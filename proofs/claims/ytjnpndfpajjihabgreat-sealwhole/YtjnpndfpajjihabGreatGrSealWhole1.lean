/-
  Blocks of a few cells, and blocks made first and second. Nothing of the program is proved here.
  A transaction as plain data, and how it lies in memory.
  Lists whose keys rise: what lies ahead of a number, at it, and behind it. Nothing of the program is proved here.
  What Need and Most answer. Nothing of the program is proved here.
  Does a number lie from one to another? Nothing of the program is proved here.
-/
import Derived.Test.YtjnpndfpajjihabGreatGrSealWhole0
namespace Go.Proofs.YtjnpndfpajjihabGreat
open Go.RowKit

/-- A block of two cells: what stands in each, and that none is frozen. -/
theorem box2 {w : World} {B : Nat} {v0 v1 : Value} {t : TypeId} (h : w.heap[B]? = some (.cells #[v0, v1] t (0, 0))) :
    (w.cell? ⟨B, 0, none⟩ = some v0 ∧ w.cell? ⟨B, 1, none⟩ = some v1) ∧ (w.frozen? ⟨B, 0, none⟩ = false ∧ w.frozen? ⟨B, 1, none⟩ = false) := by
  refine ⟨⟨?_, ?_⟩, frozen_of_row w _ _ _ _ h, frozen_of_row w _ _ _ _ h⟩ <;> (rw [cell_of_row w _ _ _ _ _ h]; rfl)
/-- A block that was just made stays under what makes memory alone. -/
theorem one1 {w w' : World} {o : Obj} (hb : Below (w.alloc o).heap.size (w.alloc o) w') : w'.heap[w.heap.size]? = some o :=
  (hb.block _ (by simp)).trans (heap_alloc_new w o)
/-- Blocks made first and second stay under what makes memory alone. -/
theorem two1 {w w' : World} {o o2 : Obj} (hb : Below ((w.alloc o).alloc o2).heap.size ((w.alloc o).alloc o2) w') : w'.heap[w.heap.size]? = some o :=
  (hb.block _ (by simp; omega)).trans ((Below.heap_alloc _ _ _ (by simp)).trans (heap_alloc_new w o))
theorem two2 {w w' : World} {o o2 : Obj} (hb : Below ((w.alloc o).alloc o2).heap.size ((w.alloc o).alloc o2) w') : w'.heap[w.heap.size + 1]? = some o2 := by
  have := heap_alloc_new (w.alloc o) o2
  simp at this
  exact (hb.block _ (by simp)).trans (by simpa using this)

/-- A block of two cells that is written whole; others stay. -/
theorem box2Set {w : World} {B : Nat} {u0 u1 : Value} {t : TypeId} (h : w.heap[B]? = some (.cells #[u0, u1] t (0, 0))) (v0 v1 : Value) :
    ((w.setCell ⟨B, 0, none⟩ v0).setCell ⟨B, 1, none⟩ v1).heap[B]? = some (.cells #[v0, v1] t (0, 0)) := by
  have h1 := heap_setCell_same w B 0 _ _ v0 h
  rw [heap_setCell_same _ B 1 _ _ v1 h1]
  rfl
theorem box2Other {w : World} {B b : Nat} {o : Option Obj} (h : w.heap[B]? = o) (hne : B ≠ b) (v0 v1 : Value) :
    ((w.setCell ⟨b, 0, none⟩ v0).setCell ⟨b, 1, none⟩ v1).heap[B]? = o := by
  rw [Below.heap_setCell _ _ _ _ hne, Below.heap_setCell _ _ _ _ hne]
  exact h
theorem box2Size (w : World) (b : Nat) (v0 v1 : Value) : ((w.setCell ⟨b, 0, none⟩ v0).setCell ⟨b, 1, none⟩ v1).heap.size = w.heap.size := by simp [World.setCell]
/-- A block stays under what makes memory alone. -/
theorem boxKeep {w w' : World} (hb : Below w.heap.size w w') {B : Nat} (hlt : B < w.heap.size) {o : Obj} (h : w.heap[B]? = some o) : w'.heap[B]? = some o :=
  (hb.block _ hlt).trans h

/-- A block of five cells: what stands in each, and that none is frozen. -/
theorem box5 {w : World} {B : Nat} {v0 v1 v2 v3 v4 : Value} {t : TypeId} (h : w.heap[B]? = some (.cells #[v0, v1, v2, v3, v4] t (0, 0))) :
    (w.cell? ⟨B, 0, none⟩ = some v0 ∧ w.cell? ⟨B, 1, none⟩ = some v1 ∧ w.cell? ⟨B, 2, none⟩ = some v2 ∧ w.cell? ⟨B, 3, none⟩ = some v3 ∧ w.cell? ⟨B, 4, none⟩ = some v4) ∧
    (w.frozen? ⟨B, 0, none⟩ = false ∧ w.frozen? ⟨B, 1, none⟩ = false ∧ w.frozen? ⟨B, 2, none⟩ = false ∧ w.frozen? ⟨B, 3, none⟩ = false ∧ w.frozen? ⟨B, 4, none⟩ = false) := by
  refine ⟨⟨?_, ?_, ?_, ?_, ?_⟩, frozen_of_row w _ _ _ _ h, frozen_of_row w _ _ _ _ h, frozen_of_row w _ _ _ _ h, frozen_of_row w _ _ _ _ h, frozen_of_row w _ _ _ _ h⟩ <;> (rw [cell_of_row w _ _ _ _ _ h]; rfl)
/-- Three blocks made one behind another stay under what makes memory alone. -/
theorem three1 {w w' : World} {o o2 o3 : Obj} (hb : Below (((w.alloc o).alloc o2).alloc o3).heap.size (((w.alloc o).alloc o2).alloc o3) w') : w'.heap[w.heap.size]? = some o ∧ w'.heap[w.heap.size + 1]? = some o2 ∧ w'.heap[w.heap.size + 1 + 1]? = some o3 ∧ w.heap.size + 1 + 1 < w'.heap.size := by
  have hz := hb.size
  simp at hz
  have e1 := heap_alloc_new (w.alloc o) o2
  have e2 := heap_alloc_new ((w.alloc o).alloc o2) o3
  simp only [World.size_alloc] at e1 e2
  refine ⟨?_, ?_, ?_, by omega⟩
  · exact (hb.block _ (by simp; omega)).trans ((Below.heap_alloc _ _ _ (by simp; omega)).trans ((Below.heap_alloc _ _ _ (by simp)).trans (heap_alloc_new w o)))
  · exact (hb.block _ (by simp)).trans ((Below.heap_alloc _ _ _ (by simp)).trans e1)
  · exact (hb.block _ (by simp)).trans e2

end Go.Proofs.YtjnpndfpajjihabGreat

namespace Go.Proofs.YtjnpndfpajjihabGreat
open Go.RowKit

/-- A handle, a transaction as plain data. -/
structure Hd where
  on : Bool
  left : Int
structure Tx where
  seq : Int
  info : List (Int × ByteArray)
  data : List (Int × ByteArray)
  rev : List Int
  h0 : Hd
  h1 : Hd
  h2 : Hd

/-- A value that is a transaction, in a world. -/
def IsTx (w : World) (v : Value) (t : Tx) : Prop :=
  ∃ a c a' c' b d, v = .agg #[.int .i64 t.seq, .slice a t.info.length c, .slice a' t.data.length c', .slice b t.rev.length d, .bool t.h0.on, .int .i64 t.h0.left, .bool t.h1.on, .int .i64 t.h1.left, .bool t.h2.on, .int .i64 t.h2.left] ∧
    SegW w a t.info ∧ SegW w a' t.data ∧ SegI w b t.rev ∧ t.info.length ≤ maxLen ∧ t.data.length ≤ maxLen ∧ t.rev.length ≤ maxLen
theorem IsTx.below {w w' : World} {v : Value} {t : Tx} (h : IsTx w v t) (hb : Below w.heap.size w w') : IsTx w' v t := by
  obtain ⟨a, c, a', c', b, d, rfl, h1, h2, h3, h4, h5, h6⟩ := h
  exact ⟨a, c, a', c', b, d, rfl, h1.below hb, h2.below hb, h3.below hb, h4, h5, h6⟩

/-- A block of ten cells: what stands in each, and that none is frozen. -/
theorem box10 {w : World} {B : Nat} {v0 v1 v2 v3 v4 v5 v6 v7 v8 v9 : Value} {t : TypeId} (h : w.heap[B]? = some (.cells #[v0, v1, v2, v3, v4, v5, v6, v7, v8, v9] t (0, 0))) :
    (w.cell? ⟨B, 0, none⟩ = some v0 ∧ w.cell? ⟨B, 1, none⟩ = some v1 ∧ w.cell? ⟨B, 2, none⟩ = some v2 ∧ w.cell? ⟨B, 3, none⟩ = some v3 ∧ w.cell? ⟨B, 4, none⟩ = some v4 ∧ w.cell? ⟨B, 5, none⟩ = some v5 ∧ w.cell? ⟨B, 6, none⟩ = some v6 ∧ w.cell? ⟨B, 7, none⟩ = some v7 ∧ w.cell? ⟨B, 8, none⟩ = some v8 ∧ w.cell? ⟨B, 9, none⟩ = some v9) ∧
    ∀ k, w.frozen? ⟨B, k, none⟩ = false := by
  refine ⟨⟨?_, ?_, ?_, ?_, ?_, ?_, ?_, ?_, ?_, ?_⟩, fun k => frozen_of_row w _ _ _ _ h⟩ <;> (rw [cell_of_row w _ _ _ _ _ h]; rfl)

/-- Is a handle on? How many are named, and may be named? -/
def openB (t : Tx) : Bool := t.h0.on || t.h1.on || t.h2.on
def askedN (t : Tx) : Int := wrap64 (wrap64 (wrap64 (wrap64 ((t.info.length : Int) + (t.rev.length : Int)) + t.h0.left) + t.h1.left) + t.h2.left)

set_option maxRecDepth 100000 in
/-- Two handles, and two rows of three, are alike where each part is. -/
theorem eqHandle (d : Nat) (o p : Bool) (l m : Int) (w : World) :
    (Op.equalIn (d + 2) 25 (.agg #[.bool o, .int .i64 l]) (.agg #[.bool p, .int .i64 m])).run Tryz.prog w = .ok (o == p && l == m) w := by
  have hf : Tryz.prog.underlying 25 = some (.struct (Tryz.prog.fieldsOf 25)) := by kernel_rfl
  have hs : Tryz.prog.stoodInHeld 25 = false := by kernel_rfl
  rw [run_equalIn_agg w (d + 1) 25 _ _ hf hs]
  simp [Op.eqFields, go_sem, Program.fieldsOf, Tryz.underlying25, Tryz.underlying3, Tryz.underlying4]
  by_cases h1 : o = p
  · by_cases h2 : l = m <;> simp [h1, h2]
  · simp [h1]
theorem eqHandles (d : Nat) (o0 o1 o2 p0 p1 p2 : Bool) (l0 l1 l2 m0 m1 m2 : Int) (w : World) :
    (Op.equalIn (d + 3) 26 (.agg #[.bool o0, .int .i64 l0, .bool o1, .int .i64 l1, .bool o2, .int .i64 l2]) (.agg #[.bool p0, .int .i64 m0, .bool p1, .int .i64 m1, .bool p2, .int .i64 m2])).run Tryz.prog w = .ok ((o0 == p0 && l0 == m0) && (o1 == p1 && l1 == m1) && (o2 == p2 && l2 == m2)) w := by
  unfold Op.equalIn
  simp only [Sem.run_bind, run_underlying Tryz.underlying26, Result.andThen_ok]
  simp [go_sem, List.range', eqHandle]
  by_cases h1 : o0 = p0 <;> by_cases h2 : l0 = m0 <;> by_cases h3 : o1 = p1 <;> by_cases h4 : l1 = m1 <;> by_cases h5 : o2 = p2 <;> by_cases h6 : l2 = m2 <;> simp [h1, h2, h3, h4, h5, h6]

end Go.Proofs.YtjnpndfpajjihabGreat

namespace Go.Proofs.YtjnpndfpajjihabGreat
open Go.RowKit

/-- Do a list's keys rise? -/
def Up {α : Type} (key : α → Int) (l : List α) : Prop := l.Pairwise fun x y => key x < key y
theorem risesFrom_iff (q : Int) (l : List Int) : risesFrom q l = true ↔ (∀ x ∈ l, q < x ∧ x ≤ 11) ∧ Up id l := by
  induction l generalizing q with
  | nil => simp [risesFrom, Up]
  | cons b r ih =>
    by_cases h : b ≤ q ∨ 11 < b
    · simp only [risesFrom, if_pos h]
      constructor
      · intro e; cases e
      · rintro ⟨e, _⟩
        have := e b (by simp)
        omega
    · simp only [risesFrom, if_neg h, ih b]
      simp only [Up, List.pairwise_cons, List.mem_cons, id]
      constructor
      · rintro ⟨e1, e2⟩
        refine ⟨?_, fun x hx => (e1 x hx).1, e2⟩
        rintro x (rfl | hx)
        · omega
        · have := e1 x hx; omega
      · rintro ⟨e1, e2, e3⟩
        exact ⟨fun x hx => ⟨e2 x hx, (e1 x (.inr hx)).2⟩, e3⟩
theorem rises_iff (l : List Int) : rises l = true ↔ (∀ x ∈ l, 0 ≤ x ∧ x ≤ 11) ∧ Up id l := by
  rw [rises, risesFrom_iff]
  constructor
  · rintro ⟨a, b⟩; exact ⟨fun x hx => by have := a x hx; omega, b⟩
  · rintro ⟨a, b⟩; exact ⟨fun x hx => by have := a x hx; omega, b⟩
theorem up_map {α : Type} (key : α → Int) (l : List α) : Up id (l.map key) ↔ Up key l := by
  simp [Up, List.pairwise_map]
theorem Up.filter {α : Type} {key : α → Int} {l : List α} (h : Up key l) (p : α → Bool) : Up key (l.filter p) := List.Pairwise.filter _ h

/-- What lies ahead of a number in a list that rises, and what from it on. -/
theorem up_cut {α : Type} {key : α → Int} {l : List α} (h : Up key l) (b : Int) :
    l.take (l.countP fun x => decide (key x < b)) = l.filter (fun x => decide (key x < b)) ∧ l.drop (l.countP fun x => decide (key x < b)) = l.filter (fun x => decide (b ≤ key x)) := by
  induction l with
  | nil => simp
  | cons x r ih =>
    have hr := List.pairwise_cons.1 h
    by_cases hx : key x < b
    · have := ih hr.2
      have hx' : ¬ b ≤ key x := by omega
      simp [hx, hx', this]
    · have hx' : b ≤ key x := by omega
      have hall : ∀ y ∈ r, ¬ key y < b := fun y hy => by have := hr.1 y hy; omega
      have h0 : r.countP (fun x => decide (key x < b)) = 0 := by rw [List.countP_eq_zero]; intro y hy; simp only [decide_eq_true_eq]; exact hall y hy
      have h1 : r.filter (fun x => decide (key x < b)) = [] := by rw [List.filter_eq_nil_iff]; intro y hy; simp only [decide_eq_true_eq]; exact hall y hy
      have h2 : r.filter (fun x => decide (b ≤ key x)) = r := by rw [List.filter_eq_self]; intro y hy; simp only [decide_eq_true_eq]; have := hall y hy; omega
      simp [hx, hx', h0, h1, h2]
/-- The one at a number, and what lies behind it. -/
theorem up_hit {α : Type} {key : α → Int} {l : List α} (h : Up key l) (b : Int) (x : α) (hx : l[l.countP fun x => decide (key x < b)]? = some x) (hk : key x = b) :
    l.drop ((l.countP fun x => decide (key x < b)) + 1) = l.filter (fun x => decide (b < key x)) := by
  induction l with
  | nil => simp at hx
  | cons y r ih =>
    have hr := List.pairwise_cons.1 h
    by_cases hy : key y < b
    · have hy' : ¬ b < key y := by omega
      have hc : (y :: r).countP (fun x => decide (key x < b)) = r.countP (fun x => decide (key x < b)) + 1 := by simp [hy]
      rw [hc] at hx ⊢
      rw [List.drop_succ_cons, List.filter_cons, if_neg (by simpa using hy')]
      exact ih hr.2 (by simpa using hx)
    · have h0 : r.countP (fun x => decide (key x < b)) = 0 := by rw [List.countP_eq_zero]; intro z hz; simp only [decide_eq_true_eq]; have := hr.1 z hz; omega
      have hc : (y :: r).countP (fun x => decide (key x < b)) = 0 := by simp [hy, h0]
      rw [hc] at hx ⊢
      simp at hx
      subst hx
      have h2 : r.filter (fun x => decide (b < key x)) = r := by rw [List.filter_eq_self]; intro z hz; simp only [decide_eq_true_eq]; have := hr.1 z hz; omega
      simp [hk, h2]
theorem up_miss {α : Type} {key : α → Int} {l : List α} (h : Up key l) (b : Int) (hx : ∀ x, l[l.countP fun x => decide (key x < b)]? = some x → key x ≠ b) :
    l.filter (fun x => decide (b ≤ key x)) = l.filter (fun x => decide (b < key x)) := by
  induction l with
  | nil => rfl
  | cons y r ih =>
    have hr := List.pairwise_cons.1 h
    by_cases hy : key y < b
    · have hc : (y :: r).countP (fun x => decide (key x < b)) = r.countP (fun x => decide (key x < b)) + 1 := by simp [hy]
      rw [hc] at hx
      rw [List.filter_cons, List.filter_cons, if_neg (by simp; omega), if_neg (by simp; omega)]
      exact ih hr.2 (fun x hx' => hx x (by simpa using hx'))
    · have h0 : r.countP (fun x => decide (key x < b)) = 0 := by rw [List.countP_eq_zero]; intro z hz; simp only [decide_eq_true_eq]; have := hr.1 z hz; omega
      have hc : (y :: r).countP (fun x => decide (key x < b)) = 0 := by simp [hy, h0]
      rw [hc] at hx
      have := hx y (by simp)
      have hy2 : b < key y := by omega
      apply List.filter_congr
      intro z hz
      rcases List.mem_cons.1 hz with rfl | hz
      · simp; omega
      · have := hr.1 z hz
        simp; omega
theorem any_hit_iff {α : Type} {key : α → Int} {l : List α} (h : Up key l) (b : Int) :
    (l.any fun x => key x == b) = true ↔ ∃ x, l[l.countP fun x => decide (key x < b)]? = some x ∧ key x = b := by
  constructor
  · intro e
    obtain ⟨x, hx, hk⟩ := List.any_eq_true.1 e
    have hk : key x = b := by simpa using hk
    induction l with
    | nil => simp at hx
    | cons y r ih =>
      have hr := List.pairwise_cons.1 h
      by_cases hy : key y < b
      · have hxr : x ∈ r := by
          rcases List.mem_cons.1 hx with rfl | hx
          · omega
          · exact hx
        obtain ⟨z, hz, hz2⟩ := ih hr.2 (List.any_eq_true.2 ⟨x, hxr, by simpa using hk⟩) hxr
        refine ⟨z, ?_, hz2⟩
        have hc : (y :: r).countP (fun x => decide (key x < b)) = r.countP (fun x => decide (key x < b)) + 1 := by simp [hy]
        rw [hc]
        simpa using hz
      · have h0 : r.countP (fun x => decide (key x < b)) = 0 := by rw [List.countP_eq_zero]; intro z hz; simp only [decide_eq_true_eq]; have := hr.1 z hz; omega
        have hc : (y :: r).countP (fun x => decide (key x < b)) = 0 := by simp [hy, h0]
        refine ⟨y, by rw [hc]; rfl, ?_⟩
        rcases List.mem_cons.1 hx with rfl | hx
        · exact hk
        · have := hr.1 x hx; omega
  · rintro ⟨x, hx, hk⟩
    exact List.any_eq_true.2 ⟨x, List.mem_of_getElem? hx, by simpa using hk⟩

/-- A list that rises, number by number. -/
theorem up_step {α : Type} {key : α → Int} {l : List α} (h : Up key l) (n : Int) :
    l.filter (fun x => decide (key x < n + 1)) = l.filter (fun x => decide (key x < n)) ++ l.filter (fun x => decide (key x = n)) := by
  induction l with
  | nil => rfl
  | cons x r ih =>
    have hr := List.pairwise_cons.1 h
    by_cases h1 : key x < n
    · have h2 : key x < n + 1 := by omega
      have h3 : ¬ key x = n := by omega
      simp [h1, h2, h3, ih hr.2]
    · have e1 : r.filter (fun x => decide (key x < n)) = [] := by rw [List.filter_eq_nil_iff]; intro y hy; have := hr.1 y hy; simp; omega
      have e2 : r.filter (fun x => decide (key x < n + 1)) = [] := by rw [List.filter_eq_nil_iff]; intro y hy; have := hr.1 y hy; simp; omega
      have e3 : r.filter (fun x => decide (key x = n)) = [] := by rw [List.filter_eq_nil_iff]; intro y hy; have := hr.1 y hy; simp; omega
      by_cases h2 : key x = n
      · have h3 : key x < n + 1 := by omega
        rw [List.filter_cons, List.filter_cons, List.filter_cons, e1, e2, e3]
        rw [if_pos (by simpa using h3), if_neg (by simpa using h1), if_pos (by simpa using h2)]; rfl
      · have h3 : ¬ key x < n + 1 := by omega
        rw [List.filter_cons, List.filter_cons, List.filter_cons, e1, e2, e3]
        simp [h1, h2, h3]
/-- Number by number from 0 on. -/
theorem up_all {α : Type} {key : α → Int} {l : List α} (h : Up key l) (h0 : ∀ x ∈ l, 0 ≤ key x) (f : Nat → List α) (n : Nat) (hf : ∀ j, j < n → f j = l.filter (fun x => decide (key x = (j : Int)))) :
    (List.range n).flatMap f = l.filter (fun x => decide (key x < (n : Int))) := by
  induction n with
  | zero =>
    have : l.filter (fun x => decide (key x < ((0 : Nat) : Int))) = [] := by rw [List.filter_eq_nil_iff]; intro y hy; have := h0 y hy; simp; omega
    rw [this]; rfl
  | succ n ih =>
    rw [List.range_succ, List.flatMap_append, ih (fun j hj => hf j (by omega))]
    have := up_step h (n : Int)
    rw [show ((n + 1 : Nat) : Int) = (n : Int) + 1 from by omega, this]
    simp [hf n (by omega)]

end Go.Proofs.YtjnpndfpajjihabGreat

namespace Go.Proofs.YtjnpndfpajjihabGreat
open Go.RowKit

/-- How many parts of a size it takes to name so many. -/
def partsOf (n size : Nat) : Nat := (n + (size - 1)) / size
/-- What Need answers. -/
def needE (m r : Int) : Int := if m < 0 ∨ 12 < m ∨ r < 0 ∨ 12 < r then 2 else 0
def needN (m r : Int) : Int := if needE m r = 0 then 1 + m + (if 0 < r then 1 else 0) + (if 0 < m then 1 else 0) + (if 10 < m then 1 else 0) else 0

/-- What Most answers. -/
def clampN (n : Int) : Int := if n < 0 then 0 else if 24 < n then 24 else n
def mostN (n : Int) : Int := clampN n + 1 + (if 0 < clampN n then 1 else 0) + (if 10 < clampN n then 1 else 0) + (if 20 < clampN n then 1 else 0) + (if 0 < clampN n then 1 else 0) + (if 20 < clampN n then 1 else 0)
theorem most_at {n k : Int} (h : clampN n = k) (a b c : Int) (ha : a = if 0 < k then 1 else 0) (hb : b = if 10 < k then 1 else 0) (hc : c = if 20 < k then 1 else 0) : mostN n = k + 1 + a + b + c + a + c := by
  rw [mostN, h, ha, hb, hc]

end Go.Proofs.YtjnpndfpajjihabGreat

namespace Go.Proofs.YtjnpndfpajjihabGreat
open Go.RowKit

/-- Does a number lie from one to another? -/
def withinB (n l m : Int) : Bool := decide (l ≤ n) && decide (n ≤ m)
theorem withinB_iff {n l m : Int} : withinB n l m = true ↔ l ≤ n ∧ n ≤ m := by simp [withinB]

end Go.Proofs.YtjnpndfpajjihabGreat
