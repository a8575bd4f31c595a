/-
  Numbers and copies looked for in lists. Nothing of the program is proved here.
  A transaction as plain data, and how it lies in memory.
  What package txn's functions answer, as plain data; the document's own lists, number by number. Nothing of the program is proved here.
  The newest copies of blocks in transactions, as plain data: gone through from the end, and forward as the document has them. Nothing of the program is proved here.
  The walk of the document's own noughts.
-/
import Derived.Test.YtjnpndfpajjihabGreatGrSealWhole0
import Derived.Deep.QuietTactic
import Derived.BigQuiet
import Derived.Test.YtjnpndfpajjihabGreatGrSealWhole2
import Derived.Test.YtjnpndfpajjihabGreatGrSealWhole3
namespace Go.Proofs.YtjnpndfpajjihabGreat
open Go.RowKit

/-- Is a number among others? -/
def amongB (l : List Int) (b : Int) : Bool := l.any (· == b)
/-- The text of the first copy of a block. -/
def textIn (b : Int) : List (Int × ByteArray) → Option ByteArray
  | [] => none
  | x :: r => if x.1 = b then some x.2 else textIn b r
theorem any_hit {α : Type} {l : List α} {k : Nat} {x : α} {p : α → Bool} (h : l[k]? = some x) (hp : p x = true) : l.any p = true :=
  List.any_eq_true.2 ⟨x, List.mem_of_getElem? h, hp⟩
theorem any_miss {α : Type} {l : List α} {k : Nat} {x : α} {p : α → Bool} (h : l[k]? = some x) (hp : p x = false) (ht : (l.take k).any p = false) : (l.take (k + 1)).any p = false := by
  rw [List.take_add_one, h, List.any_append, ht]; simp [hp]
theorem text_hit {l : List (Int × ByteArray)} {k : Nat} {x : Int × ByteArray} {b : Int} (h : l[k]? = some x) (hp : x.1 = b) (ht : textIn b (l.take k) = none) : textIn b l = some x.2 := by
  induction l generalizing k with
  | nil => simp at h
  | cons y r ih =>
    cases k with
    | zero => simp at h; subst h; simp [textIn, hp]
    | succ k =>
      rw [List.take_succ_cons, textIn] at ht
      by_cases e : y.1 = b
      · rw [if_pos e] at ht; cases ht
      · rw [if_neg e] at ht
        rw [textIn, if_neg e]
        exact ih (by simpa using h) ht
theorem text_miss {l : List (Int × ByteArray)} {k : Nat} {x : Int × ByteArray} {b : Int} (h : l[k]? = some x) (hp : ¬ x.1 = b) (ht : textIn b (l.take k) = none) : textIn b (l.take (k + 1)) = none := by
  induction l generalizing k with
  | nil => simp at h
  | cons y r ih =>
    cases k with
    | zero => simp at h; subst h; simp [textIn, hp]
    | succ k =>
      rw [List.take_succ_cons, textIn] at ht ⊢
      by_cases e : y.1 = b
      · rw [if_pos e] at ht; cases ht
      · rw [if_neg e] at ht ⊢
        exact ih (by simpa using h) ht

end Go.Proofs.YtjnpndfpajjihabGreat

namespace Go.Proofs.YtjnpndfpajjihabGreat
open Go.RowKit

/-- A handle, a transaction as plain data. -/
structure Hd where
  on : Bool
  left : Int
structure Tx where
  seq : Int
  info : List (Int × ByteArray)
  data : List (Int × ByteArray)
  rev : List Int
  h0 : Hd
  h1 : Hd
  h2 : Hd

/-- A value that is a transaction, in a world. -/
def IsTx (w : World) (v : Value) (t : Tx) : Prop :=
  ∃ a c a' c' b d, v = .agg #[.int .i64 t.seq, .slice a t.info.length c, .slice a' t.data.length c', .slice b t.rev.length d, .bool t.h0.on, .int .i64 t.h0.left, .bool t.h1.on, .int .i64 t.h1.left, .bool t.h2.on, .int .i64 t.h2.left] ∧
    SegW w a t.info ∧ SegW w a' t.data ∧ SegI w b t.rev ∧ t.info.length ≤ maxLen ∧ t.data.length ≤ maxLen ∧ t.rev.length ≤ maxLen
/-- The three rows of a transaction have room for what they hold. -/
def RoomTx (v : Value) : Prop :=
  ∃ s a n c a' n' c' b m d x0 x1 x2 x3 x4 x5, v = .agg #[s, .slice a n c, .slice a' n' c', .slice b m d, x0, x1, x2, x3, x4, x5] ∧ n ≤ c ∧ n' ≤ c' ∧ m ≤ d
theorem RoomTx.is {q x0 x1 x2 x3 x4 x5 : Value} {a a' b : Option Addr} {n c n' c' m d : Nat} (h : RoomTx (.agg #[q, .slice a n c, .slice a' n' c', .slice b m d, x0, x1, x2, x3, x4, x5])) : n ≤ c ∧ n' ≤ c' ∧ m ≤ d := by
  obtain ⟨s, a2, n2, c2, a3, n3, c3, b2, m2, d2, y0, y1, y2, y3, y4, y5, e, h⟩ := h
  simp only [Value.agg.injEq] at e
  injection e with e
  simp only [List.cons.injEq, Value.slice.injEq, and_true] at e
  obtain ⟨_, ⟨_, rfl, rfl⟩, ⟨_, rfl, rfl⟩, ⟨_, rfl, rfl⟩, _⟩ := e
  exact h
theorem IsTx.below {w w' : World} {v : Value} {t : Tx} (h : IsTx w v t) (hb : Below w.heap.size w w') : IsTx w' v t := by
  obtain ⟨a, c, a', c', b, d, rfl, h1, h2, h3, h4, h5, h6⟩ := h
  exact ⟨a, c, a', c', b, d, rfl, h1.below hb, h2.below hb, h3.below hb, h4, h5, h6⟩

/-- A block of ten cells: what stands in each, and that none is frozen. -/
theorem box10 {w : World} {B : Nat} {v0 v1 v2 v3 v4 v5 v6 v7 v8 v9 : Value} {t : TypeId} (h : w.heap[B]? = some (.cells #[v0, v1, v2, v3, v4, v5, v6, v7, v8, v9] t (0, 0))) :
    (w.cell? ⟨B, 0, none⟩ = some v0 ∧ w.cell? ⟨B, 1, none⟩ = some v1 ∧ w.cell? ⟨B, 2, none⟩ = some v2 ∧ w.cell? ⟨B, 3, none⟩ = some v3 ∧ w.cell? ⟨B, 4, none⟩ = some v4 ∧ w.cell? ⟨B, 5, none⟩ = some v5 ∧ w.cell? ⟨B, 6, none⟩ = some v6 ∧ w.cell? ⟨B, 7, none⟩ = some v7 ∧ w.cell? ⟨B, 8, none⟩ = some v8 ∧ w.cell? ⟨B, 9, none⟩ = some v9) ∧
    ∀ k, w.frozen? ⟨B, k, none⟩ = false := by
  refine ⟨⟨?_, ?_, ?_, ?_, ?_, ?_, ?_, ?_, ?_, ?_⟩, fun k => frozen_of_row w _ _ _ _ h⟩ <;> (rw [cell_of_row w _ _ _ _ _ h]; rfl)

/-- Is a handle on? How many are named, and may be named? -/
def openB (t : Tx) : Bool := t.h0.on || t.h1.on || t.h2.on
def askedN (t : Tx) : Int := wrap64 (wrap64 (wrap64 (wrap64 ((t.info.length : Int) + (t.rev.length : Int)) + t.h0.left) + t.h1.left) + t.h2.left)

set_option maxRecDepth 100000 in
/-- Two handles, and two rows of three, are alike where each part is. -/
theorem eqHandle (d : Nat) (o p : Bool) (l m : Int) (w : World) :
    (Op.equalIn (d + 2) 25 (.agg #[.bool o, .int .i64 l]) (.agg #[.bool p, .int .i64 m])).run Tryz.prog w = .ok (o == p && l == m) w := by
  have hf : Tryz.prog.underlying 25 = some (.struct (Tryz.prog.fieldsOf 25)) := by kernel_rfl
  have hs : Tryz.prog.stoodInHeld 25 = false := by kernel_rfl
  rw [run_equalIn_agg w (d + 1) 25 _ _ hf hs]
  simp [Op.eqFields, go_sem, Program.fieldsOf, Tryz.underlying25, Tryz.underlying3, Tryz.underlying4]
  by_cases h1 : o = p
  · by_cases h2 : l = m <;> simp [h1, h2]
  · simp [h1]
theorem eqHandles (d : Nat) (o0 o1 o2 p0 p1 p2 : Bool) (l0 l1 l2 m0 m1 m2 : Int) (w : World) :
    (Op.equalIn (d + 3) 26 (.agg #[.bool o0, .int .i64 l0, .bool o1, .int .i64 l1, .bool o2, .int .i64 l2]) (.agg #[.bool p0, .int .i64 m0, .bool p1, .int .i64 m1, .bool p2, .int .i64 m2])).run Tryz.prog w = .ok ((o0 == p0 && l0 == m0) && (o1 == p1 && l1 == m1) && (o2 == p2 && l2 == m2)) w := by
  unfold Op.equalIn
  simp only [Sem.run_bind, run_underlying Tryz.underlying26, Result.andThen_ok]
  simp [go_sem, List.range', eqHandle]
  by_cases h1 : o0 = p0 <;> by_cases h2 : l0 = m0 <;> by_cases h3 : o1 = p1 <;> by_cases h4 : l1 = m1 <;> by_cases h5 : o2 = p2 <;> by_cases h6 : l2 = m2 <;> simp [h1, h2, h3, h4, h5, h6]

end Go.Proofs.YtjnpndfpajjihabGreat

namespace Go.Proofs.YtjnpndfpajjihabGreat
open Go.RowKit

/-- The numbers of copies; all that are in a transaction. -/
def blksOf (l : List (Int × ByteArray)) : List Int := l.map (·.1)
def allOf (t : Tx) : List Int := blksOf t.info ++ (blksOf t.data ++ t.rev)
/-- Have all texts the size of a block? -/
def fitsAll (l : List (Int × ByteArray)) : Bool := l.all fun x => fitsB x.2
/-- Is it a handle? -/
def hdB (h : Hd) : Bool := decide (0 ≤ h.left) && decide (h.left ≤ 24) && (h.on || decide (h.left = 0))
/-- Is it a transaction? -/
def goodX (t : Tx) : Bool := (decide (1 ≤ t.seq) && decide (t.seq ≤ 2147483647)) && (fitsAll t.info && fitsAll t.data) && (rises (blksOf t.info) && rises (blksOf t.data) && rises t.rev) && decide (allOf t).Nodup && (hdB t.h0 && hdB t.h1 && hdB t.h2)
theorem hdB_iff (h : Hd) : hdB h = true ↔ 0 ≤ h.left ∧ h.left ≤ 24 ∧ (h.on = false → h.left = 0) := by
  cases ho : h.on <;> simp [hdB, ho, and_assoc]
theorem goodX_iff (t : Tx) : goodX t = true ↔ (1 ≤ t.seq ∧ t.seq ≤ 2147483647) ∧ (fitsAll t.info = true ∧ fitsAll t.data = true) ∧ (rises (blksOf t.info) = true ∧ rises (blksOf t.data) = true ∧ rises t.rev = true) ∧ (allOf t).Nodup ∧ (hdB t.h0 = true ∧ hdB t.h1 = true ∧ hdB t.h2 = true) := by
  simp only [goodX, Bool.and_eq_true, decide_eq_true_eq, and_assoc]

/-- A handle of a transaction, and a transaction with another one. -/
def hdAt (t : Tx) (h : Int) : Hd := if h = 0 then t.h0 else if h = 1 then t.h1 else t.h2
def setHd (t : Tx) (h : Int) (x : Hd) : Tx := if h = 0 then { t with h0 := x } else if h = 1 then { t with h1 := x } else { t with h2 := x }

/-- Begin, Stop. -/
def beginE (t : Tx) (h n free : Int) : Int :=
  if goodX t = false then 2 else if h < 0 ∨ 2 < h then 4 else if (hdAt t h).on = true then 5 else if n < 0 ∨ 12 < n then 2
  else if 24 < askedN t + n ∨ free < mostN (askedN t + n) then 6 else 0
def beginT (t : Tx) (h n free : Int) : Tx := if beginE t h n free = 0 then setHd t h ⟨true, n⟩ else t
def stopE (t : Tx) (h : Int) : Int := if goodX t = false then 2 else if h < 0 ∨ 2 < h ∨ (hdAt t h).on = false then 4 else 0
def stopT (t : Tx) (h : Int) : Tx := if stopE t h = 0 then setHd t h ⟨false, 0⟩ else t

/-- What Change, Fill and Revoke say first; is a block named; a block named by a handle. -/
def reachE (t : Tx) (h b : Int) : Int := if goodX t = false then 2 else if h < 0 ∨ 2 < h ∨ (hdAt t h).on = false ∨ b < 0 ∨ 11 < b then 4 else 0
def namedB (t : Tx) (b : Int) : Bool := (textIn b t.info).isSome || amongB t.rev b
def nameE (t : Tx) (h b : Int) : Int := if namedB t b = true then 0 else if (hdAt t h).left = 0 then 7 else 0
def nameT (t : Tx) (h b : Int) : Tx := if namedB t b = true then t else setHd t h ⟨(hdAt t h).on, (hdAt t h).left - 1⟩

/-- A list with one at a number, and without it. -/
def putAt {α : Type} (key : α → Int) (l : List α) (b : Int) (x : α) : List α := l.filter (fun y => decide (key y < b)) ++ x :: l.filter (fun y => decide (b < key y))
def dropAt {α : Type} (key : α → Int) (l : List α) (b : Int) : List α := l.filter (fun y => decide (key y < b)) ++ l.filter (fun y => decide (b < key y))

def changeE (t : Tx) (h b : Int) (s : ByteArray) : Int :=
  if reachE t h b ≠ 0 then reachE t h b else if fitsB s = false then 1 else if (textIn b t.data).isSome = true then 8 else nameE t h b
def changeY (t : Tx) (h b : Int) (s : ByteArray) : Tx := { nameT t h b with info := putAt (·.1) t.info b (b, s), rev := dropAt id t.rev b }
def changeT (t : Tx) (h b : Int) (s : ByteArray) : Tx := if changeE t h b s = 0 then changeY t h b s else t
def fillE (t : Tx) (h b : Int) (s : ByteArray) : Int :=
  if reachE t h b ≠ 0 then reachE t h b else if fitsB s = false then 1 else if namedB t b = true then 8 else 0
def fillT (t : Tx) (h b : Int) (s : ByteArray) : Tx := if fillE t h b s = 0 then { t with data := putAt (·.1) t.data b (b, s) } else t
def revokeE (t : Tx) (h b : Int) : Int :=
  if reachE t h b ≠ 0 then reachE t h b else if amongB t.rev b = true then 5 else nameE t h b
def revokeY (t : Tx) (h b : Int) : Tx := { nameT t h b with info := dropAt (·.1) t.info b, data := dropAt (·.1) t.data b, rev := putAt id t.rev b b }
def revokeT (t : Tx) (h b : Int) : Tx := if revokeE t h b = 0 then revokeY t h b else t

theorem nameT_info (t : Tx) (h b : Int) : (nameT t h b).info = t.info ∧ (nameT t h b).data = t.data ∧ (nameT t h b).rev = t.rev := by
  unfold nameT setHd
  split
  · exact ⟨rfl, rfl, rfl⟩
  · split
    · exact ⟨rfl, rfl, rfl⟩
    · split <;> exact ⟨rfl, rfl, rfl⟩

/-- In a list that rises: what is at each number. -/
theorem put_at {α : Type} {key : α → Int} {l : List α} (b : Int) (x : α) (hx : key x = b) (j : Int) (hj : j ≠ b) : (putAt key l b x).filter (fun y => decide (key y = j)) = l.filter (fun y => decide (key y = j)) := by
  unfold putAt
  rw [List.filter_append, List.filter_cons, if_neg (by simp [hx]; omega), List.filter_filter, List.filter_filter]
  by_cases h : j < b
  · have e1 : l.filter (fun a => decide (key a = j) && decide (key a < b)) = l.filter (fun y => decide (key y = j)) := List.filter_congr (fun z _ => by by_cases e : key z = j <;> simp [e, h])
    have e2 : l.filter (fun a => decide (key a = j) && decide (b < key a)) = [] := by rw [List.filter_eq_nil_iff]; intro z _; simp; omega
    rw [e1, e2, List.append_nil]
  · have e1 : l.filter (fun a => decide (key a = j) && decide (b < key a)) = l.filter (fun y => decide (key y = j)) := List.filter_congr (fun z _ => by by_cases e : key z = j <;> simp [e]; omega)
    have e2 : l.filter (fun a => decide (key a = j) && decide (key a < b)) = [] := by rw [List.filter_eq_nil_iff]; intro z _; simp; omega
    rw [e1, e2, List.nil_append]
theorem put_here {α : Type} {key : α → Int} {l : List α} (b : Int) (x : α) (hx : key x = b) : (putAt key l b x).filter (fun y => decide (key y = b)) = [x] := by
  unfold putAt
  rw [List.filter_append, List.filter_cons, if_pos (by simp [hx]), List.filter_filter, List.filter_filter]
  have e1 : l.filter (fun a => decide (key a = b) && decide (b < key a)) = [] := by rw [List.filter_eq_nil_iff]; intro z _; simp; omega
  have e2 : l.filter (fun a => decide (key a = b) && decide (key a < b)) = [] := by rw [List.filter_eq_nil_iff]; intro z _; simp; omega
  rw [e1, e2]; rfl
theorem mem_put {α : Type} {key : α → Int} {l : List α} {b : Int} {x y : α} : y ∈ putAt key l b x ↔ y = x ∨ (y ∈ l ∧ key y ≠ b) := by
  unfold putAt
  simp only [List.mem_append, List.mem_cons, List.mem_filter, decide_eq_true_eq]
  constructor
  · rintro (⟨a, c⟩ | rfl | ⟨a, c⟩)
    · exact .inr ⟨a, by omega⟩
    · exact .inl rfl
    · exact .inr ⟨a, by omega⟩
  · rintro (rfl | ⟨a, c⟩)
    · exact .inr (.inl rfl)
    · by_cases h : key y < b
      · exact .inl ⟨a, h⟩
      · exact .inr (.inr ⟨a, by omega⟩)
theorem mem_drop {α : Type} {key : α → Int} {l : List α} {b : Int} {y : α} : y ∈ dropAt key l b ↔ y ∈ l ∧ key y ≠ b := by
  unfold dropAt
  simp only [List.mem_append, List.mem_filter, decide_eq_true_eq]
  constructor
  · rintro (⟨a, c⟩ | ⟨a, c⟩) <;> exact ⟨a, by omega⟩
  · rintro ⟨a, c⟩
    by_cases h : key y < b
    · exact .inl ⟨a, h⟩
    · exact .inr ⟨a, by omega⟩
theorem put_up {α : Type} {key : α → Int} {l : List α} (h : Up key l) {b : Int} {x : α} (hx : key x = b) : Up key (putAt key l b x) := by
  unfold putAt Up
  rw [List.pairwise_append, List.pairwise_cons]
  refine ⟨h.filter _, ⟨fun y hy => ?_, h.filter _⟩, fun y hy z hz => ?_⟩
  · have := (List.mem_filter.1 hy).2; simp at this; omega
  · have h1 := (List.mem_filter.1 hy).2
    simp at h1
    rcases List.mem_cons.1 hz with rfl | hz
    · omega
    · have := (List.mem_filter.1 hz).2; simp at this; omega
theorem drop_up {α : Type} {key : α → Int} {l : List α} (h : Up key l) (b : Int) : Up key (dropAt key l b) := by
  unfold dropAt Up
  rw [List.pairwise_append]
  refine ⟨h.filter _, h.filter _, fun y hy z hz => ?_⟩
  have h1 := (List.mem_filter.1 hy).2
  have h2 := (List.mem_filter.1 hz).2
  simp at h1 h2
  omega
theorem drop_eq {α : Type} {key : α → Int} {l : List α} (h : Up key l) (b : Int) : dropAt key l b = l.filter (fun y => decide (key y ≠ b)) := by
  induction l with
  | nil => rfl
  | cons x r ih =>
    have hr := List.pairwise_cons.1 h
    have := ih hr.2
    unfold dropAt at this ⊢
    rw [List.filter_cons, List.filter_cons, List.filter_cons]
    by_cases h1 : key x < b
    · rw [if_pos (by simpa using h1), if_neg (by simp; omega), if_pos (by simp; omega), ← this]; rfl
    · have e1 : r.filter (fun x => decide (key x < b)) = [] := by rw [List.filter_eq_nil_iff]; intro y hy; have := hr.1 y hy; simp; omega
      rw [e1] at this
      rw [if_neg (by simpa using h1), e1]
      by_cases h2 : key x = b
      · rw [if_neg (by simp; omega), if_neg (by simp [h2]), ← this]
      · rw [if_pos (by simp; omega), if_pos (by simp [h2]), ← this]; rfl
/-- The first copy of a block, in a list that rises, is the only one. -/
theorem text_filter {l : List (Int × ByteArray)} (h : Up (·.1) l) (j : Int) : l.filter (fun y => decide (y.1 = j)) = ((textIn j l).map fun t => (j, t)).toList := by
  induction l with
  | nil => rfl
  | cons x r ih =>
    have hr := List.pairwise_cons.1 h
    rw [List.filter_cons, textIn]
    by_cases e : x.1 = j
    · have e1 : r.filter (fun y => decide (y.1 = j)) = [] := by rw [List.filter_eq_nil_iff]; intro y hy; have := hr.1 y hy; simp at this ⊢; omega
      rw [if_pos (by simpa using e), if_pos e, e1]
      simp [← e]
    · rw [if_neg (by simpa using e), if_neg e]
      exact ih hr.2
theorem num_filter {l : List Int} (h : Up id l) (j : Int) : l.filter (fun y => decide (id y = j)) = if amongB l j = true then [j] else [] := by
  induction l with
  | nil => rfl
  | cons x r ih =>
    have hr := List.pairwise_cons.1 h
    rw [List.filter_cons, amongB, List.any_cons]
    by_cases e : x = j
    · have e1 : r.filter (fun y => decide (id y = j)) = [] := by rw [List.filter_eq_nil_iff]; intro y hy; have := hr.1 y hy; simp at this ⊢; omega
      rw [if_pos (by simpa using e), e1]
      simp [e]
    · rw [if_neg (by simpa using e), ih hr.2]
      simp [e, amongB]
/-- The document's own list with a copy, number by number. -/
def docW (l : List (Int × ByteArray)) (b : Int) (s : ByteArray) (j : Nat) : List (Int × ByteArray) := if (j : Int) = b then [(b, s)] else ((textIn j l).map fun t => ((j : Int), t)).toList
theorem docW_all {l : List (Int × ByteArray)} (h : rises (blksOf l) = true) {b : Int} (h0 : 0 ≤ b) (h1 : b ≤ 11) (s : ByteArray) : (List.range 12).flatMap (docW l b s) = putAt (·.1) l b (b, s) := by
  rw [rises_iff, blksOf, up_map] at h
  have hb : ∀ x ∈ l, 0 ≤ x.1 ∧ x.1 ≤ 11 := fun x hx => h.1 x.1 (List.mem_map.2 ⟨x, hx, rfl⟩)
  have hm : ∀ x ∈ putAt (·.1) l b (b, s), 0 ≤ x.1 ∧ x.1 ≤ 11 := by
    intro x hx
    rcases mem_put.1 hx with rfl | ⟨hx, _⟩
    · exact ⟨h0, h1⟩
    · exact hb x hx
  rw [up_all (key := (·.1)) (put_up h.2 (x := (b, s)) rfl) (fun x hx => (hm x hx).1) _ 12, List.filter_eq_self.2]
  · intro x hx; have := hm x hx; simp; omega
  · intro j _
    unfold docW
    by_cases e : (j : Int) = b
    · rw [if_pos e, e, put_here b (b, s) rfl]
    · rw [if_neg e, put_at b (b, s) rfl _ e, text_filter h.2]
/-- The document's own revoked blocks, number by number. -/
def docR (l : List Int) (b : Int) (r : Bool) (j : Nat) : List Int := if ((j : Int) = b ∧ r = true) ∨ ((j : Int) ≠ b ∧ amongB l j = true) then [(j : Int)] else []
theorem docR_put {l : List Int} (h : rises l = true) {b : Int} (h0 : 0 ≤ b) (h1 : b ≤ 11) : (List.range 12).flatMap (docR l b true) = putAt id l b b := by
  rw [rises_iff] at h
  have hm : ∀ x ∈ putAt id l b b, 0 ≤ x ∧ x ≤ 11 := by
    intro x hx
    rcases mem_put.1 hx with rfl | ⟨hx, _⟩
    · exact ⟨h0, h1⟩
    · exact h.1 x hx
  rw [up_all (key := id) (put_up h.2 (b := b) (x := b) rfl) (fun x hx => (hm x hx).1) _ 12, List.filter_eq_self.2]
  · intro x hx; have := hm x hx; simp; omega
  · intro j _
    unfold docR
    by_cases e : (j : Int) = b
    · rw [if_pos (.inl ⟨e, rfl⟩), e, put_here b b rfl]
    · rw [put_at b b rfl _ e, num_filter h.2]
      by_cases k : amongB l j = true
      · rw [if_pos (.inr ⟨e, k⟩), if_pos k]
      · rw [if_neg (fun z => z.elim (fun a => e a.1) (fun a => k a.2)), if_neg k]
theorem docR_drop {l : List Int} (h : rises l = true) {b : Int} : (List.range 12).flatMap (docR l b false) = dropAt id l b := by
  rw [rises_iff] at h
  have hm : ∀ x ∈ dropAt id l b, 0 ≤ x ∧ x ≤ 11 := fun x hx => h.1 x (mem_drop.1 hx).1
  rw [up_all (key := id) (drop_up h.2 b) (fun x hx => (hm x hx).1) _ 12, List.filter_eq_self.2]
  · intro x hx; have := hm x hx; simp; omega
  · intro j _
    unfold docR
    rw [num_filter (drop_up h.2 b)]
    have hk : amongB (dropAt id l b) j = true ↔ (j : Int) ≠ b ∧ amongB l j = true := by
      simp only [amongB, List.any_eq_true, beq_iff_eq]
      constructor
      · rintro ⟨x, hx, e⟩
        have := mem_drop.1 hx
        rw [e] at this
        exact ⟨this.2, _, this.1, rfl⟩
      · rintro ⟨a, x, hx, e⟩
        rw [e] at hx
        exact ⟨_, mem_drop.2 ⟨hx, a⟩, rfl⟩
    by_cases k : (j : Int) ≠ b ∧ amongB l j = true
    · rw [if_pos (.inr k), if_pos (hk.2 k)]
    · rw [if_neg (fun z => z.elim (fun a => Bool.noConfusion a.2) k), if_neg (fun a => k (hk.1 a))]
theorem rest_eq {l : List (Int × ByteArray)} (h : rises (blksOf l) = true) (b : Int) : l.filter (fun y => decide (y.1 ≠ b)) = dropAt (·.1) l b := by
  rw [rises_iff, blksOf, up_map] at h
  exact (drop_eq h.2 b).symm

end Go.Proofs.YtjnpndfpajjihabGreat

namespace Go.Proofs.YtjnpndfpajjihabGreat
open Go.RowKit

/-- Copies by number, up to one. -/
def oneC (f : Int → Option ByteArray) (j : Nat) : List (Int × ByteArray) := ((f (j : Int)).map fun s => ((j : Int), s)).toList
def asN (f : Int → Option ByteArray) (n : Nat) : List (Int × ByteArray) := (List.range n).flatMap (oneC f)
theorem asN_snoc (f : Int → Option ByteArray) (n : Nat) : asN f (n + 1) = asN f n ++ oneC f n := by
  rw [asN, List.range_succ, List.flatMap_append]; simp [asN]
theorem oneC_length (f : Int → Option ByteArray) (j : Nat) : (oneC f j).length ≤ 1 := by
  unfold oneC; cases f j <;> simp
theorem asN_length (f : Int → Option ByteArray) (n : Nat) : (asN f n).length ≤ n := by
  induction n with
  | zero => exact Nat.le_refl _
  | succ n ih => rw [asN_snoc, List.length_append]; have := oneC_length f n; omega
theorem asN_congr {f g : Int → Option ByteArray} {n : Nat} (h : ∀ j : Nat, j < n → f j = g j) : asN f n = asN g n := by
  induction n with
  | zero => rfl
  | succ n ih => rw [asN_snoc, asN_snoc, ih fun j hj => h j (by omega), oneC, oneC, h n (by omega)]
theorem textIn_append (b : Int) (l r : List (Int × ByteArray)) : textIn b (l ++ r) = if (textIn b l).isSome = true then textIn b l else textIn b r := by
  induction l with
  | nil => rfl
  | cons x l ih =>
    rw [List.cons_append, textIn, textIn]
    by_cases e : x.1 = b
    · simp [e]
    · rw [if_neg e, if_neg e, ih]
theorem textIn_asN (f : Int → Option ByteArray) (n : Nat) (b : Int) : textIn b (asN f n) = if 0 ≤ b ∧ b < n then f b else none := by
  induction n with
  | zero => rw [if_neg (by omega)]; rfl
  | succ n ih =>
    rw [asN_snoc, textIn_append, ih]
    by_cases h : 0 ≤ b ∧ b < n
    · rw [if_pos h, if_pos (⟨h.1, by omega⟩ : 0 ≤ b ∧ b < (n + 1 : Nat))]
      have e : textIn b (oneC f n) = none := by
        unfold oneC
        cases f n with
        | none => rfl
        | some s => simp only [Option.map_some, Option.toList_some, textIn]; rw [if_neg (by omega)]
      rw [e]
      cases f b <;> rfl
    · rw [if_neg h]
      by_cases h2 : b = n
      · subst h2
        rw [if_pos (⟨by omega, by omega⟩ : (0 : Int) ≤ (n : Int) ∧ (n : Int) < (n + 1 : Nat))]
        unfold oneC
        cases f n with
        | none => rfl
        | some s => simp [textIn]
      · rw [if_neg (show ¬ (0 ≤ b ∧ b < ((n + 1 : Nat) : Int)) by omega)]
        unfold oneC
        cases f n with
        | none => rfl
        | some s =>
          have h3 : ¬ (n : Int) = b := fun e => h2 e.symm
          simp [textIn, h3]
theorem asN_filter (f : Int → Option ByteArray) (b : Int) (n : Nat) : (asN f n).filter (fun y => decide (y.1 ≠ b)) = asN (fun j => if j = b then none else f j) n := by
  induction n with
  | zero => rfl
  | succ n ih =>
    rw [asN_snoc, asN_snoc, List.filter_append, ih]
    congr 1
    unfold oneC
    by_cases e : (n : Int) = b
    · cases f n <;> simp [e]
    · have e2 : (fun j => if j = b then none else f j) (n : Int) = f n := by simp [e]
      rw [e2]
      cases f n <;> simp [e]
theorem asN_docW (f : Int → Option ByteArray) (b : Int) (s : ByteArray) : (List.range 12).flatMap (docW (asN f 12) b s) = asN (fun j => if j = b then some s else f j) 12 := by
  have key : ∀ j ∈ List.range 12, docW (asN f 12) b s j = oneC (fun j => if j = b then some s else f j) j := ?_
  · show _ = (List.range 12).flatMap _
    rw [List.flatMap_def, List.flatMap_def, List.map_congr_left key]
  intro j hj
  have hj := List.mem_range.1 hj
  have e1 : textIn (j : Int) (asN f 12) = f j := by rw [textIn_asN, if_pos (⟨by omega, by omega⟩ : (0 : Int) ≤ (j : Int) ∧ (j : Int) < (12 : Nat))]
  unfold docW oneC
  rw [e1]
  by_cases e : (j : Int) = b
  · simp [e]
  · simp [e]

/-- The newest copy of a block behind one more transaction, and behind all. -/
def nwStep (b : Int) (o : Option ByteArray) (t : Tx) : Option ByteArray := if (textIn b t.info).isSome = true then textIn b t.info else if amongB t.rev b = true then none else o
def newestF (l : List Tx) (b : Int) : Option ByteArray := l.foldl (nwStep b) none
theorem newestF_snoc (l : List Tx) (t : Tx) (b : Int) : newestF (l ++ [t]) b = nwStep b (newestF l b) t := by
  unfold newestF; rw [List.foldl_append]; rfl
theorem newestF_take {l : List Tx} {k : Nat} {t : Tx} (h : l[k]? = some t) (b : Int) : newestF (l.take (k + 1)) b = nwStep b (newestF (l.take k) b) t := by
  rw [List.take_add_one, h]; exact newestF_snoc _ _ _
def newestL (l : List Tx) : List (Int × ByteArray) := asN (newestF l) 12

/-- The same, forward, as the document has it: what is revoked taken away, what is copied put there. -/
def dropF (r : List Int) (f : Int → Option ByteArray) : Int → Option ByteArray := fun j => if amongB r j = true then none else f j
def putF (r : List Int) (f : Int → Option ByteArray) (c : Int × ByteArray) : Int → Option ByteArray := if withinB c.1 0 11 = true ∧ amongB r c.1 = false then (fun j => if j = c.1 then some c.2 else f j) else f
def docStep (f : Int → Option ByteArray) (t : Tx) : Int → Option ByteArray := t.info.foldl (putF t.rev) (dropF t.rev f)
def docF (l : List Tx) : Int → Option ByteArray := l.foldl docStep (fun _ => none)
theorem docF_take {l : List Tx} {k : Nat} {t : Tx} (h : l[k]? = some t) : docF (l.take (k + 1)) = docStep (docF (l.take k)) t := by
  rw [List.take_add_one, h, docF, List.foldl_append]; rfl
theorem dropF_nil (f : Int → Option ByteArray) : dropF [] f = f := rfl
theorem dropF_take {r : List Int} {k : Nat} {b : Int} (h : r[k]? = some b) (f : Int → Option ByteArray) : dropF (r.take (k + 1)) f = fun j => if j = b then none else dropF (r.take k) f j := by
  funext j
  unfold dropF
  rw [List.take_add_one, h, amongB, amongB, List.any_append]
  by_cases e : j = b
  · simp [e]
  · have : ¬ b = j := fun x => e x.symm
    simp [e, this]
theorem putF_take {l : List (Int × ByteArray)} {k : Nat} {c : Int × ByteArray} (h : l[k]? = some c) (r : List Int) (f : Int → Option ByteArray) : (l.take (k + 1)).foldl (putF r) f = putF r ((l.take k).foldl (putF r) f) c := by
  rw [List.take_add_one, h, List.foldl_append]; rfl
theorem put_all (r : List Int) (l : List (Int × ByteArray)) (hu : (blksOf l).Nodup) (hb : ∀ x ∈ l, withinB x.1 0 11 = true ∧ amongB r x.1 = false) (f : Int → Option ByteArray) (j : Int) :
    l.foldl (putF r) f j = if (textIn j l).isSome = true then textIn j l else f j := by
  induction l generalizing f with
  | nil => rfl
  | cons c l ih =>
    have hc := hb c (by simp)
    have hu2 : c.1 ∉ blksOf l ∧ (blksOf l).Nodup := List.nodup_cons.1 hu
    rw [List.foldl_cons, ih hu2.2 (fun x hx => hb x (by simp [hx])), textIn]
    have e1 : putF r f c = fun j => if j = c.1 then some c.2 else f j := by rw [putF, if_pos hc]
    by_cases e : c.1 = j
    · have e2 : textIn j l = none := by
        have : j ∉ blksOf l := by rw [← e]; exact hu2.1
        clear ih hu hb hu2
        induction l with
        | nil => rfl
        | cons y l ih2 =>
          rw [textIn, if_neg (fun h => this (by rw [← h]; simp [blksOf]))]
          exact ih2 fun h => this (by simp only [blksOf, List.map_cons, List.mem_cons] at h ⊢; exact .inr h)
      rw [e2, e1, if_pos e]
      simp [e]
    · rw [if_neg e, e1]
      by_cases h : (textIn j l).isSome = true
      · rw [if_pos h, if_pos h]
      · rw [if_neg h, if_neg h]
        exact if_neg fun x : j = c.1 => e x.symm
theorem docStep_good {t : Tx} (h : goodX t = true) (f : Int → Option ByteArray) (j : Int) : docStep f t j = nwStep j (f j) t := by
  obtain ⟨_, _, ⟨h1, _, _⟩, h2, _⟩ := (goodX_iff t).1 h
  have h3 := (rises_iff _).1 h1
  unfold allOf at h2
  rw [List.nodup_append] at h2
  have hb : ∀ x ∈ t.info, withinB x.1 0 11 = true ∧ amongB t.rev x.1 = false := by
    intro x hx
    have hm : x.1 ∈ blksOf t.info := List.mem_map.2 ⟨x, hx, rfl⟩
    have hw := h3.1 x.1 hm
    refine ⟨by simp [withinB, hw], ?_⟩
    rw [amongB, List.any_eq_false]
    intro y hy
    have := h2.2.2 x.1 hm y (by simp [hy])
    simpa using fun e : y = x.1 => this e.symm
  unfold docStep
  rw [put_all t.rev t.info h2.1 hb]
  rfl
theorem docF_good {l : List Tx} (h : ∀ t ∈ l, goodX t = true) (j : Int) : docF l j = newestF l j := by
  have key : ∀ (l : List Tx) (f : Int → Option ByteArray) (o : Option ByteArray), (∀ t ∈ l, goodX t = true) → f j = o → l.foldl docStep f j = l.foldl (nwStep j) o := by
    intro l
    induction l with
    | nil => intro f o _ e; exact e
    | cons t l ih =>
      intro f o hg e
      rw [List.foldl_cons, List.foldl_cons]
      exact ih _ _ (fun x hx => hg x (by simp [hx])) (by rw [docStep_good (hg t (by simp)), e])
  exact key l _ _ h rfl
theorem newest_doc {l : List Tx} (h : ∀ t ∈ l, goodX t = true) : newestL l = asN (docF l) 12 := asN_congr fun j _ => (docF_good h j).symm

end Go.Proofs.YtjnpndfpajjihabGreat

namespace Go.Proofs.YtjnpndfpajjihabGreat
open Go.RowKit

/-- Are all bytes from a place on noughts? -/
def zeroFrom (s : ByteArray) (k : Nat) : Bool := (s.data.toList.drop k).all (· == 0)

theorem zero_yes (s : ByteArray) (k : Nat) (h : k < s.size) (hz : s[k] = 0) : zeroFrom s k = zeroFrom s (k + 1) := by
  have e : s.data.toList.drop k = s[k] :: s.data.toList.drop (k + 1) := by rw [List.drop_eq_getElem_cons (by simpa using h)]; rfl
  rw [zeroFrom, e, List.all_cons, hz]; rfl
theorem zero_no (s : ByteArray) (k : Nat) (h : k < s.size) (hz : ¬ s[k] = 0) : zeroFrom s k = false := by
  have e : s.data.toList.drop k = s[k] :: s.data.toList.drop (k + 1) := by rw [List.drop_eq_getElem_cons (by simpa using h)]; rfl
  rw [zeroFrom, e, List.all_cons]
  simp [hz]
theorem zero_end (s : ByteArray) (k : Nat) (h : s.size ≤ k) : zeroFrom s k = true := by
  have hl : s.data.toList.length = s.size := rfl
  rw [zeroFrom, List.drop_eq_nil_of_le (by omega)]; rfl
end Go.Proofs.YtjnpndfpajjihabGreat
