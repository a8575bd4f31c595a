/-
  Begin, Stop, Change, Fill and Revoke keep a transaction good, and none but Begin asks for more. Nothing of the program is proved here.
-/
import Derived.Test.YtjnpndfpajjihabTKeep
namespace Go.Proofs.Ytjnpndfpajjihab
open Go.RowKit

theorem change_ok {t : Tx} {h b : Int} {s : ByteArray} (e : changeE t h b s = 0) : reachE t h b = 0 ∧ fitsB s = true ∧ (textIn b t.data).isSome = false ∧ nameE t h b = 0 := by
  unfold changeE at e
  by_cases h1 : reachE t h b = 0
  · rw [if_neg (by simpa using h1)] at e
    cases h2 : fitsB s with
    | false => rw [if_pos h2] at e; cases e
    | true =>
      rw [if_neg (by rw [h2]; simp)] at e
      cases h3 : (textIn b t.data).isSome with
      | true => rw [if_pos h3] at e; cases e
      | false => rw [if_neg (by rw [h3]; simp)] at e; exact ⟨h1, rfl, rfl, e⟩
  · rw [if_pos h1] at e; exact absurd e h1
theorem fill_ok {t : Tx} {h b : Int} {s : ByteArray} (e : fillE t h b s = 0) : reachE t h b = 0 ∧ fitsB s = true ∧ namedB t b = false := by
  unfold fillE at e
  by_cases h1 : reachE t h b = 0
  · rw [if_neg (by simpa using h1)] at e
    cases h2 : fitsB s with
    | false => rw [if_pos h2] at e; cases e
    | true =>
      rw [if_neg (by rw [h2]; simp)] at e
      cases h3 : namedB t b with
      | true => rw [if_pos h3] at e; cases e
      | false => exact ⟨h1, rfl, rfl⟩
  · rw [if_pos h1] at e; exact absurd e h1
theorem revoke_ok {t : Tx} {h b : Int} (e : revokeE t h b = 0) : reachE t h b = 0 ∧ amongB t.rev b = false ∧ nameE t h b = 0 := by
  unfold revokeE at e
  by_cases h1 : reachE t h b = 0
  · rw [if_neg (by simpa using h1)] at e
    cases h3 : amongB t.rev b with
    | true => rw [if_pos h3] at e; cases e
    | false => rw [if_neg (by rw [h3]; simp)] at e; exact ⟨h1, rfl, e⟩
  · rw [if_pos h1] at e; exact absurd e h1

theorem good_mk {t : Tx} (h1 : 1 ≤ t.seq ∧ t.seq ≤ 2147483647) (h2 : fitsAll t.info = true) (h3 : fitsAll t.data = true) (h4 : rises (blksOf t.info) = true) (h5 : rises (blksOf t.data) = true) (h6 : rises t.rev = true) (h7 : Parted t) (h8 : hdB t.h0 = true ∧ hdB t.h1 = true ∧ hdB t.h2 = true) : goodX t = true :=
  (goodX_iff t).2 ⟨h1, ⟨h2, h3⟩, ⟨h4, h5, h6⟩, (parted_iff h4 h5 h6).2 h7, h8⟩
theorem good_parted {t : Tx} (h : goodX t = true) : Parted t := by
  have := (goodX_iff t).1 h
  exact (parted_iff this.2.2.1.1 this.2.2.1.2.1 this.2.2.1.2.2).1 this.2.2.2.1

/-- A change done. -/
theorem good_changeY {t : Tx} {h b : Int} {s : ByteArray} (e : changeE t h b s = 0) : goodX (changeY t h b s) = true := by
  obtain ⟨hr, hs, hd, hn⟩ := change_ok e
  obtain ⟨hg, hh, ho, b0, b1⟩ := reach_ok hr
  have hi := (goodX_iff t).1 hg
  have hp := good_parted hg
  refine good_mk (t := changeY t h b s) ?_ (fits_put hi.2.1.1 b hs) ?_ (rises_put hi.2.2.1.1 b0 b1 s) ?_ (rises_dropI hi.2.2.1.2.2 b) ?_ (nameT_good hg hh hn ho)
  · show 1 ≤ (nameT t h b).seq ∧ (nameT t h b).seq ≤ 2147483647
    rw [nameT_seq]; exact hi.1
  · show fitsAll (nameT t h b).data = true
    rw [(nameT_info t h b).2.1]; exact hi.2.1.2
  · show rises (blksOf (nameT t h b).data) = true
    rw [(nameT_info t h b).2.1]; exact hi.2.2.1.2.1
  · have hdat : (changeY t h b s).data = t.data := (nameT_info t h b).2.1
    have hbd : b ∉ blksOf t.data := fun e => by rw [mem_blks, hd] at e; cases e
    refine ⟨fun x hx => ⟨?_, ?_⟩, fun x hx => ?_⟩
    · rw [hdat]
      rcases blks_put.1 hx with rfl | ⟨h1, _⟩
      · exact hbd
      · exact (hp.1 x h1).1
    · intro hx2
      have h2 := mem_drop.1 hx2
      rcases blks_put.1 hx with rfl | ⟨h1, _⟩
      · exact h2.2 rfl
      · exact (hp.1 x h1).2 h2.1
    · rw [hdat] at hx
      intro hx2
      exact hp.2 x hx (mem_drop.1 hx2).1
theorem good_revokeY {t : Tx} {h b : Int} (e : revokeE t h b = 0) : goodX (revokeY t h b) = true := by
  obtain ⟨hr, hd, hn⟩ := revoke_ok e
  obtain ⟨hg, hh, ho, b0, b1⟩ := reach_ok hr
  have hi := (goodX_iff t).1 hg
  have hp := good_parted hg
  refine good_mk (t := revokeY t h b) ?_ (fits_dropC hi.2.1.1 b) (fits_dropC hi.2.1.2 b) (rises_dropC hi.2.2.1.1 b) (rises_dropC hi.2.2.1.2.1 b) (rises_putI hi.2.2.1.2.2 b0 b1) ?_ (nameT_good hg hh hn ho)
  · show 1 ≤ (nameT t h b).seq ∧ (nameT t h b).seq ≤ 2147483647
    rw [nameT_seq]; exact hi.1
  · refine ⟨fun x hx => ⟨?_, ?_⟩, fun x hx => ?_⟩
    · intro hx2
      exact (hp.1 x (blks_drop.1 hx).1).1 (blks_drop.1 hx2).1
    · intro hx2
      have h1 := blks_drop.1 hx
      rcases mem_put.1 hx2 with rfl | ⟨h2, _⟩
      · exact h1.2 rfl
      · exact (hp.1 x h1.1).2 h2
    · intro hx2
      have h1 := blks_drop.1 hx
      rcases mem_put.1 hx2 with rfl | ⟨h2, _⟩
      · exact h1.2 rfl
      · exact hp.2 x h1.1 h2
theorem good_fillY {t : Tx} {h b : Int} {s : ByteArray} (e : fillE t h b s = 0) : goodX { t with data := putAt (·.1) t.data b (b, s) } = true := by
  obtain ⟨hr, hs, hd⟩ := fill_ok e
  obtain ⟨hg, hh, ho, b0, b1⟩ := reach_ok hr
  have hi := (goodX_iff t).1 hg
  have hp := good_parted hg
  have hnn : (textIn b t.info).isSome = false ∧ amongB t.rev b = false := by rw [namedB] at hd; simpa using hd
  refine good_mk (t := { t with data := putAt (·.1) t.data b (b, s) }) hi.1 hi.2.1.1 (fits_put hi.2.1.2 b hs) hi.2.2.1.1 (rises_put hi.2.2.1.2.1 b0 b1 s) hi.2.2.1.2.2 ?_ hi.2.2.2.2
  refine ⟨fun x hx => ⟨?_, (hp.1 x hx).2⟩, fun x hx => ?_⟩
  · intro hx2
    rcases blks_put.1 hx2 with rfl | ⟨h2, _⟩
    · rw [mem_blks, hnn.1] at hx; cases hx
    · exact (hp.1 x hx).1 h2
  · intro hx2
    rcases blks_put.1 hx with rfl | ⟨h1, _⟩
    · rw [mem_among] at hx2; rw [hnn.2] at hx2; cases hx2
    · exact hp.2 x h1 hx2
theorem good_setHd {t : Tx} {h : Int} {x : Hd} (hg : goodX t = true) (hx : hdB x = true) : goodX (setHd t h x) = true := by
  have hi := (goodX_iff t).1 hg
  unfold setHd
  split
  · exact (goodX_iff _).2 ⟨hi.1, hi.2.1, hi.2.2.1, hi.2.2.2.1, hx, hi.2.2.2.2.2⟩
  · split
    · exact (goodX_iff _).2 ⟨hi.1, hi.2.1, hi.2.2.1, hi.2.2.2.1, hi.2.2.2.2.1, hx, hi.2.2.2.2.2.2⟩
    · exact (goodX_iff _).2 ⟨hi.1, hi.2.1, hi.2.2.1, hi.2.2.2.1, hi.2.2.2.2.1, hi.2.2.2.2.2.1, hx⟩

theorem bool_ite (x : Bool) : (if x = true then (1 : Nat) else 0) = x.toNat := by cases x <;> rfl
/-- What is asked stays, whatever is named. -/
theorem asked_changeY {t : Tx} {h b : Int} {s : ByteArray} (e : changeE t h b s = 0) : askedN (changeY t h b s) = askedN t := by
  have hy := good_changeY e
  obtain ⟨hr, hs, hd, hn⟩ := change_ok e
  obtain ⟨hg, hh, ho, b0, b1⟩ := reach_ok hr
  have hi := (goodX_iff t).1 hg
  have hp := good_parted hg
  have u1 : Up (·.1) t.info := (up_map _ _).1 ((rises_iff _).1 hi.2.2.1.1).2
  have u3 : Up id t.rev := ((rises_iff _).1 hi.2.2.1.2.2).2
  rw [(good_asked hy).1, (good_asked hg).1]
  have l1 := cut_length u1 b
  have l3 := cut_length u3 b
  have p1 := put_len (·.1) t.info b (b, s)
  have hl := nameT_asked t h b hh
  have x1 : (changeY t h b s).info.length = (dropAt (·.1) t.info b).length + 1 := p1
  have x3 : (changeY t h b s).rev.length = (dropAt id t.rev b).length := rfl
  have y0 : (changeY t h b s).h0.left + (changeY t h b s).h1.left + (changeY t h b s).h2.left = t.h0.left + t.h1.left + t.h2.left - (if namedB t b = true then 0 else 1) := hl
  have a1 : (t.info.any fun x => x.1 == b) = (textIn b t.info).isSome := (text_any t.info b).symm
  have a3 : (t.rev.any fun x => id x == b) = amongB t.rev b := rfl
  rw [a1] at l1
  rw [a3] at l3
  have hx : ¬ ((textIn b t.info).isSome = true ∧ amongB t.rev b = true) := fun ⟨e1, e2⟩ => (hp.1 b (mem_blks.2 e1)).2 (mem_among.2 e2)
  unfold namedB at y0
  cases c1 : (textIn b t.info).isSome with
  | true =>
    cases c3 : amongB t.rev b with
    | true => exact absurd ⟨c1, c3⟩ hx
    | false => rw [c1] at l1; rw [c3] at l3; rw [c1] at y0; simp at l1 l3 y0; omega
  | false =>
    cases c3 : amongB t.rev b with
    | true => rw [c1] at l1; rw [c3] at l3; rw [c1, c3] at y0; simp at l1 l3 y0; omega
    | false => rw [c1] at l1; rw [c3] at l3; rw [c1, c3] at y0; simp at l1 l3 y0; omega
theorem asked_revokeY {t : Tx} {h b : Int} (e : revokeE t h b = 0) : askedN (revokeY t h b) = askedN t := by
  have hy := good_revokeY e
  obtain ⟨hr, hd, hn⟩ := revoke_ok e
  obtain ⟨hg, hh, ho, b0, b1⟩ := reach_ok hr
  have hi := (goodX_iff t).1 hg
  have u1 : Up (·.1) t.info := (up_map _ _).1 ((rises_iff _).1 hi.2.2.1.1).2
  have u3 : Up id t.rev := ((rises_iff _).1 hi.2.2.1.2.2).2
  rw [(good_asked hy).1, (good_asked hg).1]
  have l1 := cut_length u1 b
  have l3 := cut_length u3 b
  have p3 := put_len id t.rev b b
  have hl := nameT_asked t h b hh
  have x1 : (revokeY t h b).info.length = (dropAt (·.1) t.info b).length := rfl
  have x3 : (revokeY t h b).rev.length = (dropAt id t.rev b).length + 1 := p3
  have y0 : (revokeY t h b).h0.left + (revokeY t h b).h1.left + (revokeY t h b).h2.left = t.h0.left + t.h1.left + t.h2.left - (if namedB t b = true then 0 else 1) := hl
  have a1 : (t.info.any fun x => x.1 == b) = (textIn b t.info).isSome := (text_any t.info b).symm
  have a3 : (t.rev.any fun x => id x == b) = amongB t.rev b := rfl
  rw [a1] at l1
  rw [a3, hd] at l3
  unfold namedB at y0
  rw [hd, Bool.or_false] at y0
  cases c1 : (textIn b t.info).isSome with
  | true => rw [c1] at l1; rw [c1] at y0; simp at l1 l3 y0; omega
  | false => rw [c1] at l1; rw [c1] at y0; simp at l1 l3 y0; omega

/-- A block changed, changed again, filled, revoked: what TxnLast asks. -/
theorem last_facts {t : Tx} {h b : Int} {s u : ByteArray} (e : changeE t h b s = 0) (hu : fitsB u = true) :
    textIn b (changeY t h b s).info = some s ∧ changeE (changeY t h b s) h b u = 0 ∧ textIn b (changeY (changeY t h b s) h b u).info = some u ∧ askedN (changeY (changeY t h b s) h b u) = askedN (changeY t h b s) ∧
      fillE (changeY t h b s) h b u = 8 ∧ revokeE (changeY t h b s) h b = 0 ∧ textIn b (revokeY (changeY t h b s) h b).info = none ∧ askedN (revokeY (changeY t h b s) h b) = askedN (changeY t h b s) := by
  have hgy := good_changeY e
  obtain ⟨hr, hs, hd, hn⟩ := change_ok e
  obtain ⟨hg, hh, ho, b0, b1⟩ := reach_ok hr
  have hi := (goodX_iff t).1 hg
  have u1 : Up (·.1) t.info := (up_map _ _).1 ((rises_iff _).1 hi.2.2.1.1).2
  have t1 : textIn b (changeY t h b s).info = some s := text_put t.info u1 b s
  have hiy := (goodX_iff _).1 hgy
  have uy : Up (·.1) (changeY t h b s).info := (up_map _ _).1 ((rises_iff _).1 hiy.2.2.1.1).2
  have hon : (hdAt (changeY t h b s) h).on = true := by
    have : (hdAt (changeY t h b s) h).on = (hdAt (nameT t h b) h).on := by rcases hh with rfl | rfl | rfl <;> rfl
    rw [this, (nameT_hd t h b hh).1]; exact ho
  have hry : reachE (changeY t h b s) h b = 0 := by
    rw [reachE, if_neg (by rw [hgy]; simp), if_neg]
    rw [hon]; simp; omega
  have hnm : namedB (changeY t h b s) b = true := by rw [namedB, t1]; rfl
  have hne : nameE (changeY t h b s) h b = 0 := by rw [nameE, if_pos hnm]
  have hdy : (textIn b (changeY t h b s).data).isSome = false := by
    have : (changeY t h b s).data = t.data := (nameT_info t h b).2.1
    rw [this]; exact hd
  have e2 : changeE (changeY t h b s) h b u = 0 := by rw [changeE, if_neg (by simpa using hry), if_neg (by rw [hu]; simp), if_neg (by rw [hdy]; simp)]; exact hne
  have hrv : amongB (changeY t h b s).rev b = false := among_drop t.rev b
  have e3 : revokeE (changeY t h b s) h b = 0 := by rw [revokeE, if_neg (by simpa using hry), if_neg (by rw [hrv]; simp)]; exact hne
  exact ⟨t1, e2, text_put _ uy b u, asked_changeY e2, by rw [fillE, if_neg (by simpa using hry), if_neg (by rw [hu]; simp), if_pos hnm], e3, text_drop _ b, asked_revokeY e3⟩

end Go.Proofs.Ytjnpndfpajjihab
