/-
  What package txn's calls keep of a transaction: it stays good, what is asked, what is there. Nothing of the program is proved here.
-/
import Derived.Test.YtjnpndfpajjihabTReach
namespace Go.Proofs.Ytjnpndfpajjihab
open Go.RowKit

theorem rises_nodup {l : List Int} (h : rises l = true) : l.Nodup := by
  rw [rises_iff] at h
  exact List.Pairwise.imp (fun h => by simp only [id] at h; omega) h.2
/-- No block is in two of the lists. -/
def Parted (t : Tx) : Prop := (∀ x ∈ blksOf t.info, x ∉ blksOf t.data ∧ x ∉ t.rev) ∧ ∀ x ∈ blksOf t.data, x ∉ t.rev
theorem parted_iff {t : Tx} (h1 : rises (blksOf t.info) = true) (h2 : rises (blksOf t.data) = true) (h3 : rises t.rev = true) : (allOf t).Nodup ↔ Parted t := by
  rw [allOf, List.nodup_append, List.nodup_append]
  constructor
  · rintro ⟨_, ⟨_, _, a⟩, b⟩
    refine ⟨fun x hx => ⟨fun e => b x hx x (List.mem_append.2 (.inl e)) rfl, fun e => b x hx x (List.mem_append.2 (.inr e)) rfl⟩, fun x hx e => a x hx x e rfl⟩
  · rintro ⟨a, b⟩
    refine ⟨rises_nodup h1, ⟨rises_nodup h2, rises_nodup h3, fun x hx y hy e => b x hx (e ▸ hy)⟩, fun x hx y hy e => ?_⟩
    rcases List.mem_append.1 hy with hy | hy
    · exact (a x hx).1 (e ▸ hy)
    · exact (a x hx).2 (e ▸ hy)
theorem mem_blks {l : List (Int × ByteArray)} {b : Int} : b ∈ blksOf l ↔ (textIn b l).isSome = true := by
  rw [text_any, List.any_eq_true, blksOf, List.mem_map]
  constructor
  · rintro ⟨x, hx, rfl⟩; exact ⟨x, hx, by simp⟩
  · rintro ⟨x, hx, e⟩; exact ⟨x, hx, by simpa using e⟩
theorem mem_among {l : List Int} {b : Int} : b ∈ l ↔ amongB l b = true := by
  rw [amongB, List.any_eq_true]
  constructor
  · intro h; exact ⟨b, h, by simp⟩
  · rintro ⟨x, hx, e⟩
    have : x = b := by simpa using e
    rw [← this]; exact hx
theorem blks_put {l : List (Int × ByteArray)} {b y : Int} {s : ByteArray} : y ∈ blksOf (putAt (·.1) l b (b, s)) ↔ y = b ∨ (y ∈ blksOf l ∧ y ≠ b) := by
  simp only [blksOf, List.mem_map]
  constructor
  · rintro ⟨x, hx, rfl⟩
    rcases mem_put.1 hx with rfl | ⟨h1, h2⟩
    · exact .inl rfl
    · exact .inr ⟨⟨x, h1, rfl⟩, h2⟩
  · rintro (rfl | ⟨⟨x, h1, rfl⟩, h2⟩)
    · exact ⟨_, mem_put.2 (.inl rfl), rfl⟩
    · exact ⟨x, mem_put.2 (.inr ⟨h1, h2⟩), rfl⟩
theorem blks_drop {l : List (Int × ByteArray)} {b y : Int} : y ∈ blksOf (dropAt (·.1) l b) ↔ y ∈ blksOf l ∧ y ≠ b := by
  simp only [blksOf, List.mem_map]
  constructor
  · rintro ⟨x, hx, rfl⟩
    have := mem_drop.1 hx
    exact ⟨⟨x, this.1, rfl⟩, this.2⟩
  · rintro ⟨⟨x, h1, rfl⟩, h2⟩
    exact ⟨x, mem_drop.2 ⟨h1, h2⟩, rfl⟩
theorem rises_put {l : List (Int × ByteArray)} (h : rises (blksOf l) = true) {b : Int} (h0 : 0 ≤ b) (h1 : b ≤ 11) (s : ByteArray) : rises (blksOf (putAt (·.1) l b (b, s))) = true := by
  have hh := (rises_iff _).1 h
  rw [rises_iff]
  refine ⟨fun y hy => ?_, ?_⟩
  · rcases blks_put.1 hy with rfl | ⟨e, _⟩
    · exact ⟨h0, h1⟩
    · exact hh.1 y e
  · rw [blksOf, up_map] at hh ⊢
    exact put_up hh.2 rfl
theorem rises_dropC {l : List (Int × ByteArray)} (h : rises (blksOf l) = true) (b : Int) : rises (blksOf (dropAt (·.1) l b)) = true := by
  have hh := (rises_iff _).1 h
  rw [rises_iff]
  refine ⟨fun y hy => hh.1 y (blks_drop.1 hy).1, ?_⟩
  rw [blksOf, up_map] at hh ⊢
  exact drop_up hh.2 b
theorem rises_putI {l : List Int} (h : rises l = true) {b : Int} (h0 : 0 ≤ b) (h1 : b ≤ 11) : rises (putAt id l b b) = true := by
  rw [rises_iff] at h ⊢
  refine ⟨fun y hy => ?_, put_up h.2 rfl⟩
  rcases mem_put.1 hy with rfl | ⟨e, _⟩
  · exact ⟨h0, h1⟩
  · exact h.1 y e
theorem rises_dropI {l : List Int} (h : rises l = true) (b : Int) : rises (dropAt id l b) = true := by
  rw [rises_iff] at h ⊢
  exact ⟨fun y hy => h.1 y (mem_drop.1 hy).1, drop_up h.2 b⟩
theorem fits_put {l : List (Int × ByteArray)} (h : fitsAll l = true) (b : Int) {s : ByteArray} (hs : fitsB s = true) : fitsAll (putAt (·.1) l b (b, s)) = true := by
  unfold fitsAll at h ⊢
  rw [List.all_eq_true] at h ⊢
  intro x hx
  rcases mem_put.1 hx with rfl | ⟨e, _⟩
  · exact hs
  · exact h x e
theorem fits_dropC {l : List (Int × ByteArray)} (h : fitsAll l = true) (b : Int) : fitsAll (dropAt (·.1) l b) = true := by
  unfold fitsAll at h ⊢
  rw [List.all_eq_true] at h ⊢
  intro x hx
  exact h x (mem_drop.1 hx).1
/-- How many there are with one at a number, and without it. -/
theorem cut_length {α : Type} {key : α → Int} {l : List α} (h : Up key l) (b : Int) : (dropAt key l b).length + (if (l.any fun x => key x == b) = true then 1 else 0) = l.length := by
  induction l with
  | nil => rfl
  | cons x r ih =>
    have hr := List.pairwise_cons.1 h
    have hi := ih hr.2
    have hd := drop_eq h b
    have hd2 := drop_eq hr.2 b
    rw [hd2] at hi
    rw [hd, List.filter_cons, List.any_cons]
    by_cases e : key x = b
    · have hno : (r.any fun x => key x == b) = false := by
        rw [List.any_eq_false]
        intro y hy; have := hr.1 y hy; simp; omega
      rw [hno] at hi
      have e' : (key x == b) = true := by simpa using e
      rw [if_neg (by simpa using e), e', hno]
      simp at hi ⊢; omega
    · have e' : (key x == b) = false := by simpa using e
      rw [if_pos (by simpa using e), e', Bool.false_or, List.length_cons, List.length_cons]
      omega
theorem put_len {α : Type} (key : α → Int) (l : List α) (b : Int) (x : α) : (putAt key l b x).length = (dropAt key l b).length + 1 := by
  simp [putAt, dropAt]; omega
theorem text_put (l : List (Int × ByteArray)) (h : Up (·.1) l) (b : Int) (s : ByteArray) : textIn b (putAt (·.1) l b (b, s)) = some s := by
  have h1 := text_filter (put_up h (b := b) (x := (b, s)) rfl) b
  have h2 : (putAt (·.1) l b (b, s)).filter (fun y => decide (y.1 = b)) = [(b, s)] := put_here b (b, s) rfl
  rw [h2] at h1
  cases e : textIn b (putAt (·.1) l b (b, s)) with
  | none => rw [e] at h1; simp at h1
  | some u => rw [e] at h1; simp at h1; rw [h1]
theorem text_drop (l : List (Int × ByteArray)) (b : Int) : textIn b (dropAt (·.1) l b) = none := by
  refine text_none ?_
  rw [List.any_eq_false]
  intro x hx
  have := (mem_drop.1 hx).2
  simpa using this
theorem among_drop (l : List Int) (b : Int) : amongB (dropAt id l b) b = false := by
  cases e : amongB (dropAt id l b) b with
  | false => rfl
  | true => exact absurd rfl (mem_drop.1 (mem_among.2 e)).2

/-- A transaction named: what is kept of it. -/
theorem nameT_hd (t : Tx) (h b : Int) (hh : h = 0 ∨ h = 1 ∨ h = 2) : (hdAt (nameT t h b) h).on = (hdAt t h).on ∧ (hdAt (nameT t h b) h).left = (hdAt t h).left - (if namedB t b = true then 0 else 1) := by
  unfold nameT
  cases namedB t b with
  | true => simp
  | false => rcases hh with rfl | rfl | rfl <;> simp [setHd, hdAt]
theorem nameT_seq (t : Tx) (h b : Int) : (nameT t h b).seq = t.seq := by
  unfold nameT setHd
  split
  · rfl
  · split
    · rfl
    · split <;> rfl
theorem nameT_good {t : Tx} {h b : Int} (hg : goodX t = true) (hh : h = 0 ∨ h = 1 ∨ h = 2) (hn : nameE t h b = 0) (ho : (hdAt t h).on = true) :
    hdB (nameT t h b).h0 = true ∧ hdB (nameT t h b).h1 = true ∧ hdB (nameT t h b).h2 = true := by
  have hgh := ((goodX_iff t).1 hg).2.2.2.2
  unfold nameT
  by_cases e : namedB t b = true
  · rw [if_pos e]; exact hgh
  · rw [if_neg e]
    rw [nameE, if_neg e] at hn
    have hk := (hdB_iff _).1 (good_hd hg h)
    have hl : (hdAt t h).left ≠ 0 := by intro e; rw [if_pos e] at hn; cases hn
    have hnew : hdB ⟨(hdAt t h).on, (hdAt t h).left - 1⟩ = true := (hdB_iff _).2 ⟨by show 0 ≤ (hdAt t h).left - 1; omega, by show (hdAt t h).left - 1 ≤ 24; omega, fun e => by rw [ho] at e; cases e⟩
    rcases hh with rfl | rfl | rfl
    · exact ⟨hnew, hgh.2.1, hgh.2.2⟩
    · exact ⟨hgh.1, hnew, hgh.2.2⟩
    · exact ⟨hgh.1, hgh.2.1, hnew⟩
theorem nameT_asked (t : Tx) (h b : Int) (hh : h = 0 ∨ h = 1 ∨ h = 2) : (nameT t h b).h0.left + (nameT t h b).h1.left + (nameT t h b).h2.left = t.h0.left + t.h1.left + t.h2.left - (if namedB t b = true then 0 else 1) := by
  unfold nameT
  cases namedB t b with
  | true => simp
  | false => rcases hh with rfl | rfl | rfl <;> simp [setHd, hdAt] <;> omega

end Go.Proofs.Ytjnpndfpajjihab
