/-
  What package txn's functions answer, as plain data; the document's own lists, number by number. Nothing of the program is proved here.
-/
import Derived.Test.YtjnpndfpajjihabGreatTCore
import Derived.Test.YtjnpndfpajjihabGreatUp
import Derived.Test.YtjnpndfpajjihabGreatRNeedPure
import Derived.Test.YtjnpndfpajjihabGreatWithin
namespace Go.Proofs.YtjnpndfpajjihabGreat
open Go.RowKit

/-- The numbers of copies; all that are in a transaction. -/
def blksOf (l : List (Int × ByteArray)) : List Int := l.map (·.1)
def allOf (t : Tx) : List Int := blksOf t.info ++ (blksOf t.data ++ t.rev)
/-- Have all texts the size of a block? -/
def fitsAll (l : List (Int × ByteArray)) : Bool := l.all fun x => fitsB x.2
/-- Is it a handle? -/
def hdB (h : Hd) : Bool := decide (0 ≤ h.left) && decide (h.left ≤ 24) && (h.on || decide (h.left = 0))
/-- Is it a transaction? -/
def goodX (t : Tx) : Bool := (decide (1 ≤ t.seq) && decide (t.seq ≤ 2147483647)) && (fitsAll t.info && fitsAll t.data) && (rises (blksOf t.info) && rises (blksOf t.data) && rises t.rev) && decide (allOf t).Nodup && (hdB t.h0 && hdB t.h1 && hdB t.h2)
theorem hdB_iff (h : Hd) : hdB h = true ↔ 0 ≤ h.left ∧ h.left ≤ 24 ∧ (h.on = false → h.left = 0) := by
  cases ho : h.on <;> simp [hdB, ho, and_assoc]
theorem goodX_iff (t : Tx) : goodX t = true ↔ (1 ≤ t.seq ∧ t.seq ≤ 2147483647) ∧ (fitsAll t.info = true ∧ fitsAll t.data = true) ∧ (rises (blksOf t.info) = true ∧ rises (blksOf t.data) = true ∧ rises t.rev = true) ∧ (allOf t).Nodup ∧ (hdB t.h0 = true ∧ hdB t.h1 = true ∧ hdB t.h2 = true) := by
  simp only [goodX, Bool.and_eq_true, decide_eq_true_eq, and_assoc]

/-- A handle of a transaction, and a transaction with another one. -/
def hdAt (t : Tx) (h : Int) : Hd := if h = 0 then t.h0 else if h = 1 then t.h1 else t.h2
def setHd (t : Tx) (h : Int) (x : Hd) : Tx := if h = 0 then { t with h0 := x } else if h = 1 then { t with h1 := x } else { t with h2 := x }

/-- Begin, Stop. -/
def beginE (t : Tx) (h n free : Int) : Int :=
  if goodX t = false then 2 else if h < 0 ∨ 2 < h then 4 else if (hdAt t h).on = true then 5 else if n < 0 ∨ 12 < n then 2
  else if 24 < askedN t + n ∨ free < mostN (askedN t + n) then 6 else 0
def beginT (t : Tx) (h n free : Int) : Tx := if beginE t h n free = 0 then setHd t h ⟨true, n⟩ else t
def stopE (t : Tx) (h : Int) : Int := if goodX t = false then 2 else if h < 0 ∨ 2 < h ∨ (hdAt t h).on = false then 4 else 0
def stopT (t : Tx) (h : Int) : Tx := if stopE t h = 0 then setHd t h ⟨false, 0⟩ else t

/-- What Change, Fill and Revoke say first; is a block named; a block named by a handle. -/
def reachE (t : Tx) (h b : Int) : Int := if goodX t = false then 2 else if h < 0 ∨ 2 < h ∨ (hdAt t h).on = false ∨ b < 0 ∨ 11 < b then 4 else 0
def namedB (t : Tx) (b : Int) : Bool := (textIn b t.info).isSome || amongB t.rev b
def nameE (t : Tx) (h b : Int) : Int := if namedB t b = true then 0 else if (hdAt t h).left = 0 then 7 else 0
def nameT (t : Tx) (h b : Int) : Tx := if namedB t b = true then t else setHd t h ⟨(hdAt t h).on, (hdAt t h).left - 1⟩

/-- A list with one at a number, and without it. -/
def putAt {α : Type} (key : α → Int) (l : List α) (b : Int) (x : α) : List α := l.filter (fun y => decide (key y < b)) ++ x :: l.filter (fun y => decide (b < key y))
def dropAt {α : Type} (key : α → Int) (l : List α) (b : Int) : List α := l.filter (fun y => decide (key y < b)) ++ l.filter (fun y => decide (b < key y))

def changeE (t : Tx) (h b : Int) (s : ByteArray) : Int :=
  if reachE t h b ≠ 0 then reachE t h b else if fitsB s = false then 1 else if (textIn b t.data).isSome = true then 8 else nameE t h b
def changeY (t : Tx) (h b : Int) (s : ByteArray) : Tx := { nameT t h b with info := putAt (·.1) t.info b (b, s), rev := dropAt id t.rev b }
def changeT (t : Tx) (h b : Int) (s : ByteArray) : Tx := if changeE t h b s = 0 then changeY t h b s else t
def fillE (t : Tx) (h b : Int) (s : ByteArray) : Int :=
  if reachE t h b ≠ 0 then reachE t h b else if fitsB s = false then 1 else if namedB t b = true then 8 else 0
def fillT (t : Tx) (h b : Int) (s : ByteArray) : Tx := if fillE t h b s = 0 then { t with data := putAt (·.1) t.data b (b, s) } else t
def revokeE (t : Tx) (h b : Int) : Int :=
  if reachE t h b ≠ 0 then reachE t h b else if amongB t.rev b = true then 5 else nameE t h b
def revokeY (t : Tx) (h b : Int) : Tx := { nameT t h b with info := dropAt (·.1) t.info b, data := dropAt (·.1) t.data b, rev := putAt id t.rev b b }
def revokeT (t : Tx) (h b : Int) : Tx := if revokeE t h b = 0 then revokeY t h b else t

theorem nameT_info (t : Tx) (h b : Int) : (nameT t h b).info = t.info ∧ (nameT t h b).data = t.data ∧ (nameT t h b).rev = t.rev := by
  unfold nameT setHd
  split
  · exact ⟨rfl, rfl, rfl⟩
  · split
    · exact ⟨rfl, rfl, rfl⟩
    · split <;> exact ⟨rfl, rfl, rfl⟩

/-- In a list that rises: what is at each number. -/
theorem put_at {α : Type} {key : α → Int} {l : List α} (b : Int) (x : α) (hx : key x = b) (j : Int) (hj : j ≠ b) : (putAt key l b x).filter (fun y => decide (key y = j)) = l.filter (fun y => decide (key y = j)) := by
  unfold putAt
  rw [List.filter_append, List.filter_cons, if_neg (by simp [hx]; omega), List.filter_filter, List.filter_filter]
  by_cases h : j < b
  · have e1 : l.filter (fun a => decide (key a = j) && decide (key a < b)) = l.filter (fun y => decide (key y = j)) := List.filter_congr (fun z _ => by by_cases e : key z = j <;> simp [e, h])
    have e2 : l.filter (fun a => decide (key a = j) && decide (b < key a)) = [] := by rw [List.filter_eq_nil_iff]; intro z _; simp; omega
    rw [e1, e2, List.append_nil]
  · have e1 : l.filter (fun a => decide (key a = j) && decide (b < key a)) = l.filter (fun y => decide (key y = j)) := List.filter_congr (fun z _ => by by_cases e : key z = j <;> simp [e]; omega)
    have e2 : l.filter (fun a => decide (key a = j) && decide (key a < b)) = [] := by rw [List.filter_eq_nil_iff]; intro z _; simp; omega
    rw [e1, e2, List.nil_append]
theorem put_here {α : Type} {key : α → Int} {l : List α} (b : Int) (x : α) (hx : key x = b) : (putAt key l b x).filter (fun y => decide (key y = b)) = [x] := by
  unfold putAt
  rw [List.filter_append, List.filter_cons, if_pos (by simp [hx]), List.filter_filter, List.filter_filter]
  have e1 : l.filter (fun a => decide (key a = b) && decide (b < key a)) = [] := by rw [List.filter_eq_nil_iff]; intro z _; simp; omega
  have e2 : l.filter (fun a => decide (key a = b) && decide (key a < b)) = [] := by rw [List.filter_eq_nil_iff]; intro z _; simp; omega
  rw [e1, e2]; rfl
theorem mem_put {α : Type} {key : α → Int} {l : List α} {b : Int} {x y : α} : y ∈ putAt key l b x ↔ y = x ∨ (y ∈ l ∧ key y ≠ b) := by
  unfold putAt
  simp only [List.mem_append, List.mem_cons, List.mem_filter, decide_eq_true_eq]
  constructor
  · rintro (⟨a, c⟩ | rfl | ⟨a, c⟩)
    · exact .inr ⟨a, by omega⟩
    · exact .inl rfl
    · exact .inr ⟨a, by omega⟩
  · rintro (rfl | ⟨a, c⟩)
    · exact .inr (.inl rfl)
    · by_cases h : key y < b
      · exact .inl ⟨a, h⟩
      · exact .inr (.inr ⟨a, by omega⟩)
theorem mem_drop {α : Type} {key : α → Int} {l : List α} {b : Int} {y : α} : y ∈ dropAt key l b ↔ y ∈ l ∧ key y ≠ b := by
  unfold dropAt
  simp only [List.mem_append, List.mem_filter, decide_eq_true_eq]
  constructor
  · rintro (⟨a, c⟩ | ⟨a, c⟩) <;> exact ⟨a, by omega⟩
  · rintro ⟨a, c⟩
    by_cases h : key y < b
    · exact .inl ⟨a, h⟩
    · exact .inr ⟨a, by omega⟩
theorem put_up {α : Type} {key : α → Int} {l : List α} (h : Up key l) {b : Int} {x : α} (hx : key x = b) : Up key (putAt key l b x) := by
  unfold putAt Up
  rw [List.pairwise_append, List.pairwise_cons]
  refine ⟨h.filter _, ⟨fun y hy => ?_, h.filter _⟩, fun y hy z hz => ?_⟩
  · have := (List.mem_filter.1 hy).2; simp at this; omega
  · have h1 := (List.mem_filter.1 hy).2
    simp at h1
    rcases List.mem_cons.1 hz with rfl | hz
    · omega
    · have := (List.mem_filter.1 hz).2; simp at this; omega
theorem drop_up {α : Type} {key : α → Int} {l : List α} (h : Up key l) (b : Int) : Up key (dropAt key l b) := by
  unfold dropAt Up
  rw [List.pairwise_append]
  refine ⟨h.filter _, h.filter _, fun y hy z hz => ?_⟩
  have h1 := (List.mem_filter.1 hy).2
  have h2 := (List.mem_filter.1 hz).2
  simp at h1 h2
  omega
theorem drop_eq {α : Type} {key : α → Int} {l : List α} (h : Up key l) (b : Int) : dropAt key l b = l.filter (fun y => decide (key y ≠ b)) := by
  induction l with
  | nil => rfl
  | cons x r ih =>
    have hr := List.pairwise_cons.1 h
    have := ih hr.2
    unfold dropAt at this ⊢
    rw [List.filter_cons, List.filter_cons, List.filter_cons]
    by_cases h1 : key x < b
    · rw [if_pos (by simpa using h1), if_neg (by simp; omega), if_pos (by simp; omega), ← this]; rfl
    · have e1 : r.filter (fun x => decide (key x < b)) = [] := by rw [List.filter_eq_nil_iff]; intro y hy; have := hr.1 y hy; simp; omega
      rw [e1] at this
      rw [if_neg (by simpa using h1), e1]
      by_cases h2 : key x = b
      · rw [if_neg (by simp; omega), if_neg (by simp [h2]), ← this]
      · rw [if_pos (by simp; omega), if_pos (by simp [h2]), ← this]; rfl
/-- The first copy of a block, in a list that rises, is the only one. -/
theorem text_filter {l : List (Int × ByteArray)} (h : Up (·.1) l) (j : Int) : l.filter (fun y => decide (y.1 = j)) = ((textIn j l).map fun t => (j, t)).toList := by
  induction l with
  | nil => rfl
  | cons x r ih =>
    have hr := List.pairwise_cons.1 h
    rw [List.filter_cons, textIn]
    by_cases e : x.1 = j
    · have e1 : r.filter (fun y => decide (y.1 = j)) = [] := by rw [List.filter_eq_nil_iff]; intro y hy; have := hr.1 y hy; simp at this ⊢; omega
      rw [if_pos (by simpa using e), if_pos e, e1]
      simp [← e]
    · rw [if_neg (by simpa using e), if_neg e]
      exact ih hr.2
theorem num_filter {l : List Int} (h : Up id l) (j : Int) : l.filter (fun y => decide (id y = j)) = if amongB l j = true then [j] else [] := by
  induction l with
  | nil => rfl
  | cons x r ih =>
    have hr := List.pairwise_cons.1 h
    rw [List.filter_cons, amongB, List.any_cons]
    by_cases e : x = j
    · have e1 : r.filter (fun y => decide (id y = j)) = [] := by rw [List.filter_eq_nil_iff]; intro y hy; have := hr.1 y hy; simp at this ⊢; omega
      rw [if_pos (by simpa using e), e1]
      simp [e]
    · rw [if_neg (by simpa using e), ih hr.2]
      simp [e, amongB]
/-- The document's own list with a copy, number by number. -/
def docW (l : List (Int × ByteArray)) (b : Int) (s : ByteArray) (j : Nat) : List (Int × ByteArray) := if (j : Int) = b then [(b, s)] else ((textIn j l).map fun t => ((j : Int), t)).toList
theorem docW_all {l : List (Int × ByteArray)} (h : rises (blksOf l) = true) {b : Int} (h0 : 0 ≤ b) (h1 : b ≤ 11) (s : ByteArray) : (List.range 12).flatMap (docW l b s) = putAt (·.1) l b (b, s) := by
  rw [rises_iff, blksOf, up_map] at h
  have hb : ∀ x ∈ l, 0 ≤ x.1 ∧ x.1 ≤ 11 := fun x hx => h.1 x.1 (List.mem_map.2 ⟨x, hx, rfl⟩)
  have hm : ∀ x ∈ putAt (·.1) l b (b, s), 0 ≤ x.1 ∧ x.1 ≤ 11 := by
    intro x hx
    rcases mem_put.1 hx with rfl | ⟨hx, _⟩
    · exact ⟨h0, h1⟩
    · exact hb x hx
  rw [up_all (key := (·.1)) (put_up h.2 (x := (b, s)) rfl) (fun x hx => (hm x hx).1) _ 12, List.filter_eq_self.2]
  · intro x hx; have := hm x hx; simp; omega
  · intro j _
    unfold docW
    by_cases e : (j : Int) = b
    · rw [if_pos e, e, put_here b (b, s) rfl]
    · rw [if_neg e, put_at b (b, s) rfl _ e, text_filter h.2]
/-- The document's own revoked blocks, number by number. -/
def docR (l : List Int) (b : Int) (r : Bool) (j : Nat) : List Int := if ((j : Int) = b ∧ r = true) ∨ ((j : Int) ≠ b ∧ amongB l j = true) then [(j : Int)] else []
theorem docR_put {l : List Int} (h : rises l = true) {b : Int} (h0 : 0 ≤ b) (h1 : b ≤ 11) : (List.range 12).flatMap (docR l b true) = putAt id l b b := by
  rw [rises_iff] at h
  have hm : ∀ x ∈ putAt id l b b, 0 ≤ x ∧ x ≤ 11 := by
    intro x hx
    rcases mem_put.1 hx with rfl | ⟨hx, _⟩
    · exact ⟨h0, h1⟩
    · exact h.1 x hx
  rw [up_all (key := id) (put_up h.2 (b := b) (x := b) rfl) (fun x hx => (hm x hx).1) _ 12, List.filter_eq_self.2]
  · intro x hx; have := hm x hx; simp; omega
  · intro j _
    unfold docR
    by_cases e : (j : Int) = b
    · rw [if_pos (.inl ⟨e, rfl⟩), e, put_here b b rfl]
    · rw [put_at b b rfl _ e, num_filter h.2]
      by_cases k : amongB l j = true
      · rw [if_pos (.inr ⟨e, k⟩), if_pos k]
      · rw [if_neg (fun z => z.elim (fun a => e a.1) (fun a => k a.2)), if_neg k]
theorem docR_drop {l : List Int} (h : rises l = true) {b : Int} : (List.range 12).flatMap (docR l b false) = dropAt id l b := by
  rw [rises_iff] at h
  have hm : ∀ x ∈ dropAt id l b, 0 ≤ x ∧ x ≤ 11 := fun x hx => h.1 x (mem_drop.1 hx).1
  rw [up_all (key := id) (drop_up h.2 b) (fun x hx => (hm x hx).1) _ 12, List.filter_eq_self.2]
  · intro x hx; have := hm x hx; simp; omega
  · intro j _
    unfold docR
    rw [num_filter (drop_up h.2 b)]
    have hk : amongB (dropAt id l b) j = true ↔ (j : Int) ≠ b ∧ amongB l j = true := by
      simp only [amongB, List.any_eq_true, beq_iff_eq]
      constructor
      · rintro ⟨x, hx, e⟩
        have := mem_drop.1 hx
        rw [e] at this
        exact ⟨this.2, _, this.1, rfl⟩
      · rintro ⟨a, x, hx, e⟩
        rw [e] at hx
        exact ⟨_, mem_drop.2 ⟨hx, a⟩, rfl⟩
    by_cases k : (j : Int) ≠ b ∧ amongB l j = true
    · rw [if_pos (.inr k), if_pos (hk.2 k)]
    · rw [if_neg (fun z => z.elim (fun a => Bool.noConfusion a.2) k), if_neg (fun a => k (hk.1 a))]
theorem rest_eq {l : List (Int × ByteArray)} (h : rises (blksOf l) = true) (b : Int) : l.filter (fun y => decide (y.1 ≠ b)) = dropAt (·.1) l b := by
  rw [rises_iff, blksOf, up_map] at h
  exact (drop_eq h.2 b).symm

end Go.Proofs.YtjnpndfpajjihabGreat
