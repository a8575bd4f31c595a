/-
  What package txn's calls keep of a transaction: it stays good, what is asked, what is there. Nothing of the program is proved here.
  Begin, Stop, Change, Fill and Revoke keep a transaction good, and none but Begin asks for more. Nothing of the program is proved here.
  What orders to a transaction keep of it: it stays good, only a handle that begins asks for more, and what was let begin finds room. Nothing of the program is proved here.
-/
import Derived.Test.YtjnpndfpajjihabTReach
namespace Go.Proofs.Ytjnpndfpajjihab
open Go.RowKit

theorem rises_nodup {l : List Int} (h : rises l = true) : l.Nodup := by
  rw [rises_iff] at h
  exact List.Pairwise.imp (fun h => by simp only [id] at h; omega) h.2
/-- No block is in two of the lists. -/
def Parted (t : Tx) : Prop := (∀ x ∈ blksOf t.info, x ∉ blksOf t.data ∧ x ∉ t.rev) ∧ ∀ x ∈ blksOf t.data, x ∉ t.rev
theorem parted_iff {t : Tx} (h1 : rises (blksOf t.info) = true) (h2 : rises (blksOf t.data) = true) (h3 : rises t.rev = true) : (allOf t).Nodup ↔ Parted t := by
  rw [allOf, List.nodup_append, List.nodup_append]
  constructor
  · rintro ⟨_, ⟨_, _, a⟩, b⟩
    refine ⟨fun x hx => ⟨fun e => b x hx x (List.mem_append.2 (.inl e)) rfl, fun e => b x hx x (List.mem_append.2 (.inr e)) rfl⟩, fun x hx e => a x hx x e rfl⟩
  · rintro ⟨a, b⟩
    refine ⟨rises_nodup h1, ⟨rises_nodup h2, rises_nodup h3, fun x hx y hy e => b x hx (e ▸ hy)⟩, fun x hx y hy e => ?_⟩
    rcases List.mem_append.1 hy with hy | hy
    · exact (a x hx).1 (e ▸ hy)
    · exact (a x hx).2 (e ▸ hy)
theorem mem_blks {l : List (Int × ByteArray)} {b : Int} : b ∈ blksOf l ↔ (textIn b l).isSome = true := by
  rw [text_any, List.any_eq_true, blksOf, List.mem_map]
  constructor
  · rintro ⟨x, hx, rfl⟩; exact ⟨x, hx, by simp⟩
  · rintro ⟨x, hx, e⟩; exact ⟨x, hx, by simpa using e⟩
theorem mem_among {l : List Int} {b : Int} : b ∈ l ↔ amongB l b = true := by
  rw [amongB, List.any_eq_true]
  constructor
  · intro h; exact ⟨b, h, by simp⟩
  · rintro ⟨x, hx, e⟩
    have : x = b := by simpa using e
    rw [← this]; exact hx
theorem blks_put {l : List (Int × ByteArray)} {b y : Int} {s : ByteArray} : y ∈ blksOf (putAt (·.1) l b (b, s)) ↔ y = b ∨ (y ∈ blksOf l ∧ y ≠ b) := by
  simp only [blksOf, List.mem_map]
  constructor
  · rintro ⟨x, hx, rfl⟩
    rcases mem_put.1 hx with rfl | ⟨h1, h2⟩
    · exact .inl rfl
    · exact .inr ⟨⟨x, h1, rfl⟩, h2⟩
  · rintro (rfl | ⟨⟨x, h1, rfl⟩, h2⟩)
    · exact ⟨_, mem_put.2 (.inl rfl), rfl⟩
    · exact ⟨x, mem_put.2 (.inr ⟨h1, h2⟩), rfl⟩
theorem blks_drop {l : List (Int × ByteArray)} {b y : Int} : y ∈ blksOf (dropAt (·.1) l b) ↔ y ∈ blksOf l ∧ y ≠ b := by
  simp only [blksOf, List.mem_map]
  constructor
  · rintro ⟨x, hx, rfl⟩
    have := mem_drop.1 hx
    exact ⟨⟨x, this.1, rfl⟩, this.2⟩
  · rintro ⟨⟨x, h1, rfl⟩, h2⟩
    exact ⟨x, mem_drop.2 ⟨h1, h2⟩, rfl⟩
theorem rises_put {l : List (Int × ByteArray)} (h : rises (blksOf l) = true) {b : Int} (h0 : 0 ≤ b) (h1 : b ≤ 11) (s : ByteArray) : rises (blksOf (putAt (·.1) l b (b, s))) = true := by
  have hh := (rises_iff _).1 h
  rw [rises_iff]
  refine ⟨fun y hy => ?_, ?_⟩
  · rcases blks_put.1 hy with rfl | ⟨e, _⟩
    · exact ⟨h0, h1⟩
    · exact hh.1 y e
  · rw [blksOf, up_map] at hh ⊢
    exact put_up hh.2 rfl
theorem rises_dropC {l : List (Int × ByteArray)} (h : rises (blksOf l) = true) (b : Int) : rises (blksOf (dropAt (·.1) l b)) = true := by
  have hh := (rises_iff _).1 h
  rw [rises_iff]
  refine ⟨fun y hy => hh.1 y (blks_drop.1 hy).1, ?_⟩
  rw [blksOf, up_map] at hh ⊢
  exact drop_up hh.2 b
theorem rises_putI {l : List Int} (h : rises l = true) {b : Int} (h0 : 0 ≤ b) (h1 : b ≤ 11) : rises (putAt id l b b) = true := by
  rw [rises_iff] at h ⊢
  refine ⟨fun y hy => ?_, put_up h.2 rfl⟩
  rcases mem_put.1 hy with rfl | ⟨e, _⟩
  · exact ⟨h0, h1⟩
  · exact h.1 y e
theorem rises_dropI {l : List Int} (h : rises l = true) (b : Int) : rises (dropAt id l b) = true := by
  rw [rises_iff] at h ⊢
  exact ⟨fun y hy => h.1 y (mem_drop.1 hy).1, drop_up h.2 b⟩
theorem fits_put {l : List (Int × ByteArray)} (h : fitsAll l = true) (b : Int) {s : ByteArray} (hs : fitsB s = true) : fitsAll (putAt (·.1) l b (b, s)) = true := by
  unfold fitsAll at h ⊢
  rw [List.all_eq_true] at h ⊢
  intro x hx
  rcases mem_put.1 hx with rfl | ⟨e, _⟩
  · exact hs
  · exact h x e
theorem fits_dropC {l : List (Int × ByteArray)} (h : fitsAll l = true) (b : Int) : fitsAll (dropAt (·.1) l b) = true := by
  unfold fitsAll at h ⊢
  rw [List.all_eq_true] at h ⊢
  intro x hx
  exact h x (mem_drop.1 hx).1
/-- How many there are with one at a number, and without it. -/
theorem cut_length {α : Type} {key : α → Int} {l : List α} (h : Up key l) (b : Int) : (dropAt key l b).length + (if (l.any fun x => key x == b) = true then 1 else 0) = l.length := by
  induction l with
  | nil => rfl
  | cons x r ih =>
    have hr := List.pairwise_cons.1 h
    have hi := ih hr.2
    have hd := drop_eq h b
    have hd2 := drop_eq hr.2 b
    rw [hd2] at hi
    rw [hd, List.filter_cons, List.any_cons]
    by_cases e : key x = b
    · have hno : (r.any fun x => key x == b) = false := by
        rw [List.any_eq_false]
        intro y hy; have := hr.1 y hy; simp; omega
      rw [hno] at hi
      have e' : (key x == b) = true := by simpa using e
      rw [if_neg (by simpa using e), e', hno]
      simp at hi ⊢; omega
    · have e' : (key x == b) = false := by simpa using e
      rw [if_pos (by simpa using e), e', Bool.false_or, List.length_cons, List.length_cons]
      omega
theorem put_len {α : Type} (key : α → Int) (l : List α) (b : Int) (x : α) : (putAt key l b x).length = (dropAt key l b).length + 1 := by
  simp [putAt, dropAt]; omega
theorem text_put (l : List (Int × ByteArray)) (h : Up (·.1) l) (b : Int) (s : ByteArray) : textIn b (putAt (·.1) l b (b, s)) = some s := by
  have h1 := text_filter (put_up h (b := b) (x := (b, s)) rfl) b
  have h2 : (putAt (·.1) l b (b, s)).filter (fun y => decide (y.1 = b)) = [(b, s)] := put_here b (b, s) rfl
  rw [h2] at h1
  cases e : textIn b (putAt (·.1) l b (b, s)) with
  | none => rw [e] at h1; simp at h1
  | some u => rw [e] at h1; simp at h1; rw [h1]
theorem text_drop (l : List (Int × ByteArray)) (b : Int) : textIn b (dropAt (·.1) l b) = none := by
  refine text_none ?_
  rw [List.any_eq_false]
  intro x hx
  have := (mem_drop.1 hx).2
  simpa using this
theorem among_drop (l : List Int) (b : Int) : amongB (dropAt id l b) b = false := by
  cases e : amongB (dropAt id l b) b with
  | false => rfl
  | true => exact absurd rfl (mem_drop.1 (mem_among.2 e)).2

/-- A transaction named: what is kept of it. -/
theorem nameT_hd (t : Tx) (h b : Int) (hh : h = 0 ∨ h = 1 ∨ h = 2) : (hdAt (nameT t h b) h).on = (hdAt t h).on ∧ (hdAt (nameT t h b) h).left = (hdAt t h).left - (if namedB t b = true then 0 else 1) := by
  unfold nameT
  cases namedB t b with
  | true => simp
  | false => rcases hh with rfl | rfl | rfl <;> simp [setHd, hdAt]
theorem nameT_seq (t : Tx) (h b : Int) : (nameT t h b).seq = t.seq := by
  unfold nameT setHd
  split
  · rfl
  · split
    · rfl
    · split <;> rfl
theorem nameT_good {t : Tx} {h b : Int} (hg : goodX t = true) (hh : h = 0 ∨ h = 1 ∨ h = 2) (hn : nameE t h b = 0) (ho : (hdAt t h).on = true) :
    hdB (nameT t h b).h0 = true ∧ hdB (nameT t h b).h1 = true ∧ hdB (nameT t h b).h2 = true := by
  have hgh := ((goodX_iff t).1 hg).2.2.2.2
  unfold nameT
  by_cases e : namedB t b = true
  · rw [if_pos e]; exact hgh
  · rw [if_neg e]
    rw [nameE, if_neg e] at hn
    have hk := (hdB_iff _).1 (good_hd hg h)
    have hl : (hdAt t h).left ≠ 0 := by intro e; rw [if_pos e] at hn; cases hn
    have hnew : hdB ⟨(hdAt t h).on, (hdAt t h).left - 1⟩ = true := (hdB_iff _).2 ⟨by show 0 ≤ (hdAt t h).left - 1; omega, by show (hdAt t h).left - 1 ≤ 24; omega, fun e => by rw [ho] at e; cases e⟩
    rcases hh with rfl | rfl | rfl
    · exact ⟨hnew, hgh.2.1, hgh.2.2⟩
    · exact ⟨hgh.1, hnew, hgh.2.2⟩
    · exact ⟨hgh.1, hgh.2.1, hnew⟩
theorem nameT_asked (t : Tx) (h b : Int) (hh : h = 0 ∨ h = 1 ∨ h = 2) : (nameT t h b).h0.left + (nameT t h b).h1.left + (nameT t h b).h2.left = t.h0.left + t.h1.left + t.h2.left - (if namedB t b = true then 0 else 1) := by
  unfold nameT
  cases namedB t b with
  | true => simp
  | false => rcases hh with rfl | rfl | rfl <;> simp [setHd, hdAt] <;> omega


theorem change_ok {t : Tx} {h b : Int} {s : ByteArray} (e : changeE t h b s = 0) : reachE t h b = 0 ∧ fitsB s = true ∧ (textIn b t.data).isSome = false ∧ nameE t h b = 0 := by
  unfold changeE at e
  by_cases h1 : reachE t h b = 0
  · rw [if_neg (by simpa using h1)] at e
    cases h2 : fitsB s with
    | false => rw [if_pos h2] at e; cases e
    | true =>
      rw [if_neg (by rw [h2]; simp)] at e
      cases h3 : (textIn b t.data).isSome with
      | true => rw [if_pos h3] at e; cases e
      | false => rw [if_neg (by rw [h3]; simp)] at e; exact ⟨h1, rfl, rfl, e⟩
  · rw [if_pos h1] at e; exact absurd e h1
theorem fill_ok {t : Tx} {h b : Int} {s : ByteArray} (e : fillE t h b s = 0) : reachE t h b = 0 ∧ fitsB s = true ∧ namedB t b = false := by
  unfold fillE at e
  by_cases h1 : reachE t h b = 0
  · rw [if_neg (by simpa using h1)] at e
    cases h2 : fitsB s with
    | false => rw [if_pos h2] at e; cases e
    | true =>
      rw [if_neg (by rw [h2]; simp)] at e
      cases h3 : namedB t b with
      | true => rw [if_pos h3] at e; cases e
      | false => exact ⟨h1, rfl, rfl⟩
  · rw [if_pos h1] at e; exact absurd e h1
theorem revoke_ok {t : Tx} {h b : Int} (e : revokeE t h b = 0) : reachE t h b = 0 ∧ amongB t.rev b = false ∧ nameE t h b = 0 := by
  unfold revokeE at e
  by_cases h1 : reachE t h b = 0
  · rw [if_neg (by simpa using h1)] at e
    cases h3 : amongB t.rev b with
    | true => rw [if_pos h3] at e; cases e
    | false => rw [if_neg (by rw [h3]; simp)] at e; exact ⟨h1, rfl, e⟩
  · rw [if_pos h1] at e; exact absurd e h1

theorem good_mk {t : Tx} (h1 : 1 ≤ t.seq ∧ t.seq ≤ 2147483647) (h2 : fitsAll t.info = true) (h3 : fitsAll t.data = true) (h4 : rises (blksOf t.info) = true) (h5 : rises (blksOf t.data) = true) (h6 : rises t.rev = true) (h7 : Parted t) (h8 : hdB t.h0 = true ∧ hdB t.h1 = true ∧ hdB t.h2 = true) : goodX t = true :=
  (goodX_iff t).2 ⟨h1, ⟨h2, h3⟩, ⟨h4, h5, h6⟩, (parted_iff h4 h5 h6).2 h7, h8⟩
theorem good_parted {t : Tx} (h : goodX t = true) : Parted t := by
  have := (goodX_iff t).1 h
  exact (parted_iff this.2.2.1.1 this.2.2.1.2.1 this.2.2.1.2.2).1 this.2.2.2.1

/-- A change done. -/
theorem good_changeY {t : Tx} {h b : Int} {s : ByteArray} (e : changeE t h b s = 0) : goodX (changeY t h b s) = true := by
  obtain ⟨hr, hs, hd, hn⟩ := change_ok e
  obtain ⟨hg, hh, ho, b0, b1⟩ := reach_ok hr
  have hi := (goodX_iff t).1 hg
  have hp := good_parted hg
  refine good_mk (t := changeY t h b s) ?_ (fits_put hi.2.1.1 b hs) ?_ (rises_put hi.2.2.1.1 b0 b1 s) ?_ (rises_dropI hi.2.2.1.2.2 b) ?_ (nameT_good hg hh hn ho)
  · show 1 ≤ (nameT t h b).seq ∧ (nameT t h b).seq ≤ 2147483647
    rw [nameT_seq]; exact hi.1
  · show fitsAll (nameT t h b).data = true
    rw [(nameT_info t h b).2.1]; exact hi.2.1.2
  · show rises (blksOf (nameT t h b).data) = true
    rw [(nameT_info t h b).2.1]; exact hi.2.2.1.2.1
  · have hdat : (changeY t h b s).data = t.data := (nameT_info t h b).2.1
    have hbd : b ∉ blksOf t.data := fun e => by rw [mem_blks, hd] at e; cases e
    refine ⟨fun x hx => ⟨?_, ?_⟩, fun x hx => ?_⟩
    · rw [hdat]
      rcases blks_put.1 hx with rfl | ⟨h1, _⟩
      · exact hbd
      · exact (hp.1 x h1).1
    · intro hx2
      have h2 := mem_drop.1 hx2
      rcases blks_put.1 hx with rfl | ⟨h1, _⟩
      · exact h2.2 rfl
      · exact (hp.1 x h1).2 h2.1
    · rw [hdat] at hx
      intro hx2
      exact hp.2 x hx (mem_drop.1 hx2).1
theorem good_revokeY {t : Tx} {h b : Int} (e : revokeE t h b = 0) : goodX (revokeY t h b) = true := by
  obtain ⟨hr, hd, hn⟩ := revoke_ok e
  obtain ⟨hg, hh, ho, b0, b1⟩ := reach_ok hr
  have hi := (goodX_iff t).1 hg
  have hp := good_parted hg
  refine good_mk (t := revokeY t h b) ?_ (fits_dropC hi.2.1.1 b) (fits_dropC hi.2.1.2 b) (rises_dropC hi.2.2.1.1 b) (rises_dropC hi.2.2.1.2.1 b) (rises_putI hi.2.2.1.2.2 b0 b1) ?_ (nameT_good hg hh hn ho)
  · show 1 ≤ (nameT t h b).seq ∧ (nameT t h b).seq ≤ 2147483647
    rw [nameT_seq]; exact hi.1
  · refine ⟨fun x hx => ⟨?_, ?_⟩, fun x hx => ?_⟩
    · intro hx2
      exact (hp.1 x (blks_drop.1 hx).1).1 (blks_drop.1 hx2).1
    · intro hx2
      have h1 := blks_drop.1 hx
      rcases mem_put.1 hx2 with rfl | ⟨h2, _⟩
      · exact h1.2 rfl
      · exact (hp.1 x h1.1).2 h2
    · intro hx2
      have h1 := blks_drop.1 hx
      rcases mem_put.1 hx2 with rfl | ⟨h2, _⟩
      · exact h1.2 rfl
      · exact hp.2 x h1.1 h2
theorem good_fillY {t : Tx} {h b : Int} {s : ByteArray} (e : fillE t h b s = 0) : goodX { t with data := putAt (·.1) t.data b (b, s) } = true := by
  obtain ⟨hr, hs, hd⟩ := fill_ok e
  obtain ⟨hg, hh, ho, b0, b1⟩ := reach_ok hr
  have hi := (goodX_iff t).1 hg
  have hp := good_parted hg
  have hnn : (textIn b t.info).isSome = false ∧ amongB t.rev b = false := by rw [namedB] at hd; simpa using hd
  refine good_mk (t := { t with data := putAt (·.1) t.data b (b, s) }) hi.1 hi.2.1.1 (fits_put hi.2.1.2 b hs) hi.2.2.1.1 (rises_put hi.2.2.1.2.1 b0 b1 s) hi.2.2.1.2.2 ?_ hi.2.2.2.2
  refine ⟨fun x hx => ⟨?_, (hp.1 x hx).2⟩, fun x hx => ?_⟩
  · intro hx2
    rcases blks_put.1 hx2 with rfl | ⟨h2, _⟩
    · rw [mem_blks, hnn.1] at hx; cases hx
    · exact (hp.1 x hx).1 h2
  · intro hx2
    rcases blks_put.1 hx with rfl | ⟨h1, _⟩
    · rw [mem_among] at hx2; rw [hnn.2] at hx2; cases hx2
    · exact hp.2 x h1 hx2
theorem good_setHd {t : Tx} {h : Int} {x : Hd} (hg : goodX t = true) (hx : hdB x = true) : goodX (setHd t h x) = true := by
  have hi := (goodX_iff t).1 hg
  unfold setHd
  split
  · exact (goodX_iff _).2 ⟨hi.1, hi.2.1, hi.2.2.1, hi.2.2.2.1, hx, hi.2.2.2.2.2⟩
  · split
    · exact (goodX_iff _).2 ⟨hi.1, hi.2.1, hi.2.2.1, hi.2.2.2.1, hi.2.2.2.2.1, hx, hi.2.2.2.2.2.2⟩
    · exact (goodX_iff _).2 ⟨hi.1, hi.2.1, hi.2.2.1, hi.2.2.2.1, hi.2.2.2.2.1, hi.2.2.2.2.2.1, hx⟩

theorem bool_ite (x : Bool) : (if x = true then (1 : Nat) else 0) = x.toNat := by cases x <;> rfl
/-- What is asked stays, whatever is named. -/
theorem asked_changeY {t : Tx} {h b : Int} {s : ByteArray} (e : changeE t h b s = 0) : askedN (changeY t h b s) = askedN t := by
  have hy := good_changeY e
  obtain ⟨hr, hs, hd, hn⟩ := change_ok e
  obtain ⟨hg, hh, ho, b0, b1⟩ := reach_ok hr
  have hi := (goodX_iff t).1 hg
  have hp := good_parted hg
  have u1 : Up (·.1) t.info := (up_map _ _).1 ((rises_iff _).1 hi.2.2.1.1).2
  have u3 : Up id t.rev := ((rises_iff _).1 hi.2.2.1.2.2).2
  rw [(good_asked hy).1, (good_asked hg).1]
  have l1 := cut_length u1 b
  have l3 := cut_length u3 b
  have p1 := put_len (·.1) t.info b (b, s)
  have hl := nameT_asked t h b hh
  have x1 : (changeY t h b s).info.length = (dropAt (·.1) t.info b).length + 1 := p1
  have x3 : (changeY t h b s).rev.length = (dropAt id t.rev b).length := rfl
  have y0 : (changeY t h b s).h0.left + (changeY t h b s).h1.left + (changeY t h b s).h2.left = t.h0.left + t.h1.left + t.h2.left - (if namedB t b = true then 0 else 1) := hl
  have a1 : (t.info.any fun x => x.1 == b) = (textIn b t.info).isSome := (text_any t.info b).symm
  have a3 : (t.rev.any fun x => id x == b) = amongB t.rev b := rfl
  rw [a1] at l1
  rw [a3] at l3
  have hx : ¬ ((textIn b t.info).isSome = true ∧ amongB t.rev b = true) := fun ⟨e1, e2⟩ => (hp.1 b (mem_blks.2 e1)).2 (mem_among.2 e2)
  unfold namedB at y0
  cases c1 : (textIn b t.info).isSome with
  | true =>
    cases c3 : amongB t.rev b with
    | true => exact absurd ⟨c1, c3⟩ hx
    | false => rw [c1] at l1; rw [c3] at l3; rw [c1] at y0; simp at l1 l3 y0; omega
  | false =>
    cases c3 : amongB t.rev b with
    | true => rw [c1] at l1; rw [c3] at l3; rw [c1, c3] at y0; simp at l1 l3 y0; omega
    | false => rw [c1] at l1; rw [c3] at l3; rw [c1, c3] at y0; simp at l1 l3 y0; omega
theorem asked_revokeY {t : Tx} {h b : Int} (e : revokeE t h b = 0) : askedN (revokeY t h b) = askedN t := by
  have hy := good_revokeY e
  obtain ⟨hr, hd, hn⟩ := revoke_ok e
  obtain ⟨hg, hh, ho, b0, b1⟩ := reach_ok hr
  have hi := (goodX_iff t).1 hg
  have u1 : Up (·.1) t.info := (up_map _ _).1 ((rises_iff _).1 hi.2.2.1.1).2
  have u3 : Up id t.rev := ((rises_iff _).1 hi.2.2.1.2.2).2
  rw [(good_asked hy).1, (good_asked hg).1]
  have l1 := cut_length u1 b
  have l3 := cut_length u3 b
  have p3 := put_len id t.rev b b
  have hl := nameT_asked t h b hh
  have x1 : (revokeY t h b).info.length = (dropAt (·.1) t.info b).length := rfl
  have x3 : (revokeY t h b).rev.length = (dropAt id t.rev b).length + 1 := p3
  have y0 : (revokeY t h b).h0.left + (revokeY t h b).h1.left + (revokeY t h b).h2.left = t.h0.left + t.h1.left + t.h2.left - (if namedB t b = true then 0 else 1) := hl
  have a1 : (t.info.any fun x => x.1 == b) = (textIn b t.info).isSome := (text_any t.info b).symm
  have a3 : (t.rev.any fun x => id x == b) = amongB t.rev b := rfl
  rw [a1] at l1
  rw [a3, hd] at l3
  unfold namedB at y0
  rw [hd, Bool.or_false] at y0
  cases c1 : (textIn b t.info).isSome with
  | true => rw [c1] at l1; rw [c1] at y0; simp at l1 l3 y0; omega
  | false => rw [c1] at l1; rw [c1] at y0; simp at l1 l3 y0; omega

/-- A block changed, changed again, filled, revoked: what TxnLast asks. -/
theorem last_facts {t : Tx} {h b : Int} {s u : ByteArray} (e : changeE t h b s = 0) (hu : fitsB u = true) :
    textIn b (changeY t h b s).info = some s ∧ changeE (changeY t h b s) h b u = 0 ∧ textIn b (changeY (changeY t h b s) h b u).info = some u ∧ askedN (changeY (changeY t h b s) h b u) = askedN (changeY t h b s) ∧
      fillE (changeY t h b s) h b u = 8 ∧ revokeE (changeY t h b s) h b = 0 ∧ textIn b (revokeY (changeY t h b s) h b).info = none ∧ askedN (revokeY (changeY t h b s) h b) = askedN (changeY t h b s) := by
  have hgy := good_changeY e
  obtain ⟨hr, hs, hd, hn⟩ := change_ok e
  obtain ⟨hg, hh, ho, b0, b1⟩ := reach_ok hr
  have hi := (goodX_iff t).1 hg
  have u1 : Up (·.1) t.info := (up_map _ _).1 ((rises_iff _).1 hi.2.2.1.1).2
  have t1 : textIn b (changeY t h b s).info = some s := text_put t.info u1 b s
  have hiy := (goodX_iff _).1 hgy
  have uy : Up (·.1) (changeY t h b s).info := (up_map _ _).1 ((rises_iff _).1 hiy.2.2.1.1).2
  have hon : (hdAt (changeY t h b s) h).on = true := by
    have : (hdAt (changeY t h b s) h).on = (hdAt (nameT t h b) h).on := by rcases hh with rfl | rfl | rfl <;> rfl
    rw [this, (nameT_hd t h b hh).1]; exact ho
  have hry : reachE (changeY t h b s) h b = 0 := by
    rw [reachE, if_neg (by rw [hgy]; simp), if_neg]
    rw [hon]; simp; omega
  have hnm : namedB (changeY t h b s) b = true := by rw [namedB, t1]; rfl
  have hne : nameE (changeY t h b s) h b = 0 := by rw [nameE, if_pos hnm]
  have hdy : (textIn b (changeY t h b s).data).isSome = false := by
    have : (changeY t h b s).data = t.data := (nameT_info t h b).2.1
    rw [this]; exact hd
  have e2 : changeE (changeY t h b s) h b u = 0 := by rw [changeE, if_neg (by simpa using hry), if_neg (by rw [hu]; simp), if_neg (by rw [hdy]; simp)]; exact hne
  have hrv : amongB (changeY t h b s).rev b = false := among_drop t.rev b
  have e3 : revokeE (changeY t h b s) h b = 0 := by rw [revokeE, if_neg (by simpa using hry), if_neg (by rw [hrv]; simp)]; exact hne
  exact ⟨t1, e2, text_put _ uy b u, asked_changeY e2, by rw [fillE, if_neg (by simpa using hry), if_neg (by rw [hu]; simp), if_pos hnm], e3, text_drop _ b, asked_revokeY e3⟩


/-- What an order answers, and what the transaction is behind it. -/
def followE (t : Tx) (k h b n free : Int) (s : ByteArray) : Int :=
  if k = 0 then beginE t h n free else if k = 1 then changeE t h b s else if k = 2 then fillE t h b s else if k = 3 then revokeE t h b else stopE t h
def followT (t : Tx) (k h b n free : Int) (s : ByteArray) : Tx :=
  if k = 0 then beginT t h n free else if k = 1 then changeT t h b s else if k = 2 then fillT t h b s else if k = 3 then revokeT t h b else stopT t h

theorem clamp_bd (n : Int) : 0 ≤ clampN n ∧ clampN n ≤ 24 ∧ (0 ≤ n → clampN n ≤ n) := by unfold clampN; split <;> (try split) <;> omega
theorem clamp_mono {a b : Int} (h : a ≤ b) : clampN a ≤ clampN b := by unfold clampN; split <;> split <;> (try split) <;> (try split) <;> omega
theorem most_mono {a b : Int} (h : a ≤ b) : mostN a ≤ mostN b := by
  have h1 := clamp_mono h
  unfold mostN
  generalize clampN a = x at *
  generalize clampN b = y at *
  have e1 : (if 0 < x then (1 : Int) else 0) ≤ if 0 < y then 1 else 0 := by split <;> split <;> omega
  have e2 : (if 10 < x then (1 : Int) else 0) ≤ if 10 < y then 1 else 0 := by split <;> split <;> omega
  have e3 : (if 20 < x then (1 : Int) else 0) ≤ if 20 < y then 1 else 0 := by split <;> split <;> omega
  omega
theorem need_most {m r a : Int} (hm : 0 ≤ m) (hr : 0 ≤ r) (hm2 : m ≤ 12) (hr2 : r ≤ 12) (ha : m + r ≤ a) : needE m r = 0 ∧ needN m r ≤ mostN a := by
  have he : needE m r = 0 := by rw [needE, if_neg]; omega
  refine ⟨he, ?_⟩
  have h1 : mostN (m + r) ≤ mostN a := most_mono ha
  refine Int.le_trans ?_ h1
  have hc : clampN (m + r) = m + r := by unfold clampN; rw [if_neg (by omega), if_neg (by omega)]
  rw [needN, if_pos he, mostN, hc]
  have e1 : (if 0 < r then (1 : Int) else 0) ≤ if 0 < m + r then 1 else 0 := by split <;> split <;> omega
  have e2 : (if 0 < m then (1 : Int) else 0) ≤ if 0 < m + r then 1 else 0 := by split <;> split <;> omega
  have e3 : (if 10 < m then (1 : Int) else 0) ≤ if 10 < m + r then 1 else 0 := by split <;> split <;> omega
  have e4 : 0 ≤ if 20 < m + r then (1 : Int) else 0 := by split <;> omega
  omega
/-- Whatever is in a good transaction finds room. -/
theorem good_room {t : Tx} (h : goodX t = true) : needE (t.info.length : Int) (t.rev.length : Int) = 0 ∧ needN (t.info.length : Int) (t.rev.length : Int) ≤ mostN (askedN t) := by
  have hs := good_small h
  have ha := good_asked h
  have hh := ((goodX_iff t).1 h).2.2.2.2
  have a0 := (hdB_iff _).1 hh.1
  have a1 := (hdB_iff _).1 hh.2.1
  have a2 := (hdB_iff _).1 hh.2.2
  exact need_most (by omega) (by omega) (by omega) (by omega) (by omega)

theorem setHd_parts (t : Tx) (h : Int) (x : Hd) : (setHd t h x).info = t.info ∧ (setHd t h x).rev = t.rev := by
  unfold setHd; split
  · exact ⟨rfl, rfl⟩
  · split <;> exact ⟨rfl, rfl⟩
theorem asked_setHd {t : Tx} {h : Int} {x : Hd} (hg : goodX t = true) (hx : hdB x = true) : askedN (setHd t h x) = askedN t - (hdAt t h).left + x.left := by
  have e := (good_asked (good_setHd (h := h) hg hx)).1
  have e0 := (good_asked hg).1
  rw [e, e0, (setHd_parts t h x).1, (setHd_parts t h x).2]
  unfold setHd hdAt
  split
  · show _ + _ + x.left + t.h1.left + t.h2.left = _; omega
  · split
    · show _ + _ + t.h0.left + x.left + t.h2.left = _; omega
    · show _ + _ + t.h0.left + t.h1.left + x.left = _; omega

theorem begin_ok {t : Tx} {h n free : Int} (e : beginE t h n free = 0) : goodX t = true ∧ (hdAt t h).on = false ∧ (0 ≤ n ∧ n ≤ 12) ∧ askedN t + n ≤ 24 ∧ mostN (askedN t + n) ≤ free := by
  unfold beginE at e
  cases hg : goodX t with
  | false => rw [if_pos hg] at e; cases e
  | true =>
    rw [if_neg (by rw [hg]; simp)] at e
    by_cases h1 : h < 0 ∨ 2 < h
    · rw [if_pos h1] at e; cases e
    · rw [if_neg h1] at e
      cases ho : (hdAt t h).on with
      | true => rw [if_pos ho] at e; cases e
      | false =>
        rw [if_neg (by rw [ho]; simp)] at e
        by_cases h2 : n < 0 ∨ 12 < n
        · rw [if_pos h2] at e; cases e
        · rw [if_neg h2] at e
          by_cases h3 : 24 < askedN t + n ∨ free < mostN (askedN t + n)
          · rw [if_pos h3] at e; cases e
          · exact ⟨rfl, rfl, by omega, by omega, by omega⟩
theorem stop_ok {t : Tx} {h : Int} (e : stopE t h = 0) : goodX t = true := by
  unfold stopE at e
  cases hg : goodX t with
  | false => rw [if_pos hg] at e; cases e
  | true => rfl

theorem follow_same {t : Tx} {k h b n free : Int} {s : ByteArray} (he : ¬ followE t k h b n free s = 0) : followT t k h b n free s = t := by
  unfold followE at he
  unfold followT
  split
  · rename_i hk; rw [if_pos hk] at he; rw [beginT, if_neg he]
  · rename_i hk; rw [if_neg hk] at he
    split
    · rename_i hk; rw [if_pos hk] at he; rw [changeT, if_neg he]
    · rename_i hk; rw [if_neg hk] at he
      split
      · rename_i hk; rw [if_pos hk] at he; rw [fillT, if_neg he]
      · rename_i hk; rw [if_neg hk] at he
        split
        · rename_i hk; rw [if_pos hk] at he; rw [revokeT, if_neg he]
        · rename_i hk; rw [if_neg hk] at he; rw [stopT, if_neg he]
/-- A good transaction stays good; only a handle that begins asks for more; and then there is room. -/
theorem follow_keeps {t : Tx} {k h b n free : Int} {s : ByteArray} (hg : goodX t = true) :
    goodX (followT t k h b n free s) = true ∧ (k ≠ 0 → askedN (followT t k h b n free s) ≤ askedN t) ∧ (followE t k h b n free s = 0 → k = 0 → mostN (askedN (followT t k h b n free s)) ≤ free) := by
  by_cases he : followE t k h b n free s = 0
  · have hk0 := (hdB_iff _).1 (good_hd hg h)
    unfold followE at he
    unfold followT
    split
    · rename_i hk
      rw [if_pos hk] at he
      obtain ⟨_, ho, hn, h24, hm⟩ := begin_ok he
      have hx : hdB ⟨true, n⟩ = true := (hdB_iff _).2 ⟨hn.1, by show n ≤ 24; omega, fun e => by cases e⟩
      have hl : (hdAt t h).left = 0 := hk0.2.2 ho
      have ha := asked_setHd (h := h) hg hx
      rw [hl] at ha
      rw [beginT, if_pos he]
      refine ⟨good_setHd hg hx, fun e => absurd hk e, fun _ _ => ?_⟩
      rw [ha, show askedN t - 0 + (Hd.mk true n).left = askedN t + n from by show _ - 0 + n = _; omega]
      exact hm
    · rename_i hk
      rw [if_neg hk] at he
      split
      · rename_i hk1
        rw [if_pos hk1] at he
        rw [changeT, if_pos he]
        exact ⟨good_changeY he, fun _ => by rw [asked_changeY he]; omega, fun _ e => absurd e hk⟩
      · rename_i hk1
        rw [if_neg hk1] at he
        split
        · rename_i hk2
          rw [if_pos hk2] at he
          rw [fillT, if_pos he]
          refine ⟨good_fillY he, fun _ => ?_, fun _ e => absurd e hk⟩
          exact Int.le_of_eq rfl
        · rename_i hk2
          rw [if_neg hk2] at he
          split
          · rename_i hk3
            rw [if_pos hk3] at he
            rw [revokeT, if_pos he]
            exact ⟨good_revokeY he, fun _ => by rw [asked_revokeY he]; omega, fun _ e => absurd e hk⟩
          · rename_i hk3
            rw [if_neg hk3] at he
            have hx : hdB ⟨false, 0⟩ = true := rfl
            have ha := asked_setHd (h := h) hg hx
            rw [stopT, if_pos he]
            refine ⟨good_setHd hg hx, fun _ => ?_, fun _ e => absurd e hk⟩
            rw [ha]
            show askedN t - (hdAt t h).left + 0 ≤ _
            omega
  · rw [follow_same he]
    exact ⟨hg, fun _ => Int.le_refl _, fun e => absurd e he⟩

end Go.Proofs.Ytjnpndfpajjihab
