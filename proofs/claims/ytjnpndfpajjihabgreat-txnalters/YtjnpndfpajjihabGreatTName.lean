/-
  The walk of package txn's name.
-/
import Derived.Test.YtjnpndfpajjihabGreatTFrom
namespace Go.Proofs.YtjnpndfpajjihabGreat
open Go.RowKit

/-- The transaction behind name. -/
def nameX (t : Tx) (h b : Int) : Tx := if nameE t h b = 0 then nameT t h b else t

set_option maxHeartbeats 2000000 in
set_option maxRecDepth 100000 in
theorem name_0 (B : Nat) (t : Tx) (va vd vr : Value) (b : Int) (w : World) (hbx : BoxTx w B t va vd vr) (r1 : t.info.length ≤ 1000) (r2 : t.data.length ≤ 1000) (r3 : t.rev.length ≤ 1000) (hl : 0 ≤ t.h0.left ∧ t.h0.left ≤ 24) :
    Calls Tryz.prog 39 #[.pointer (some ⟨B, 0, none⟩), .int .i64 0, .int .i64 b] w fun e w' => e = .returned (.int .i64 (nameE t 0 b)) ∧ BoxTx w' B (nameX t 0 b) va vd vr ∧ Below B w w' := by
  have HT := hide (hbx.is (by unfold maxLen; omega) (by unfold maxLen; omega) (by unfold maxLen; omega))
  obtain ⟨a1, c1, rfl, _, _⟩ := SegC.of_owns hbx.2.1
  obtain ⟨a2, c2, rfl, _, _⟩ := SegC.of_owns hbx.2.2.1
  obtain ⟨a3, c3, rfl, _, _⟩ := SegI.of_owns hbx.2.2.2
  have BX := hide hbx
  have hlt := hbx.lt
  clear hbx r1 r2 r3
  obtain ⟨⟨z0, z1, z2, z3, z4, z5, z6, z7, z8, z9⟩, gf⟩ := box10 BX.out.1
  go_enter Tryz.func39, Tryz.ntmps39
  go_wp2_with fail
  refine (named_any _ t b _ HT.out).mono ?_
  rintro e w1 ⟨rfl, hb1⟩
  have BX1 := hide (BX.out.below hb1)
  have HB1 : Hid (Below B w w1) := hb1.mono (by omega)
  clear z0 z1 z2 z3 z4 z5 z6 z7 z8 z9 gf hb1
  obtain ⟨⟨z0, z1, z2, z3, z4, z5, z6, z7, z8, z9⟩, gf⟩ := box10 BX1.out.1
  cases hn : namedB t b with
  | true =>
    have HE : Hid (nameE t 0 b = 0) := by rw [Hid, nameE, if_pos hn]
    have HN : Hid (nameT t 0 b = t) := by rw [Hid, nameT, if_pos hn]
    go_wp2
    go_ret
    exact ⟨by rw [HE.out]; rfl, by rw [nameX, if_pos HE.out, HN.out]; exact BX1.out, HB1.out⟩
  | false =>
    by_cases h0 : t.h0.left = 0
    · have HE : Hid (nameE t 0 b = 7) := by rw [Hid, nameE, if_neg (by rw [hn]; simp), if_pos (show (hdAt t 0).left = 0 from h0)]
      have H0 := hide h0
      clear hn
      go_wp2
      go_ret
      exact ⟨by rw [HE.out]; rfl, by rw [nameX, if_neg (by rw [HE.out]; decide)]; exact BX1.out, HB1.out⟩
    · have HE : Hid (nameE t 0 b = 0) := by rw [Hid, nameE, if_neg (by rw [hn]; simp), if_neg (show ¬ (hdAt t 0).left = 0 from h0)]
      have HN : Hid (nameT t 0 b = { t with h0 := ⟨t.h0.on, t.h0.left - 1⟩ }) := by rw [Hid, nameT, if_neg (by rw [hn]; simp)]; rfl
      go_wp2
      go_ret
      refine ⟨by rw [HE.out]; rfl, ?_, HB1.out.setCell (by simp) _⟩
      rw [nameX, if_pos HE.out, HN.out]
      exact BX1.out.set (t' := { t with h0 := ⟨t.h0.on, t.h0.left - 1⟩ }) 5 (.int .i64 (t.h0.left - 1)) rfl BX1.out.2.1 BX1.out.2.2.1 BX1.out.2.2.2

set_option maxHeartbeats 2000000 in
set_option maxRecDepth 100000 in
theorem name_1 (B : Nat) (t : Tx) (va vd vr : Value) (b : Int) (w : World) (hbx : BoxTx w B t va vd vr) (r1 : t.info.length ≤ 1000) (r2 : t.data.length ≤ 1000) (r3 : t.rev.length ≤ 1000) (hl : 0 ≤ t.h1.left ∧ t.h1.left ≤ 24) :
    Calls Tryz.prog 39 #[.pointer (some ⟨B, 0, none⟩), .int .i64 1, .int .i64 b] w fun e w' => e = .returned (.int .i64 (nameE t 1 b)) ∧ BoxTx w' B (nameX t 1 b) va vd vr ∧ Below B w w' := by
  have HT := hide (hbx.is (by unfold maxLen; omega) (by unfold maxLen; omega) (by unfold maxLen; omega))
  obtain ⟨a1, c1, rfl, _, _⟩ := SegC.of_owns hbx.2.1
  obtain ⟨a2, c2, rfl, _, _⟩ := SegC.of_owns hbx.2.2.1
  obtain ⟨a3, c3, rfl, _, _⟩ := SegI.of_owns hbx.2.2.2
  have BX := hide hbx
  have hlt := hbx.lt
  clear hbx r1 r2 r3
  obtain ⟨⟨z0, z1, z2, z3, z4, z5, z6, z7, z8, z9⟩, gf⟩ := box10 BX.out.1
  go_enter Tryz.func39, Tryz.ntmps39
  go_wp2_with fail
  refine (named_any _ t b _ HT.out).mono ?_
  rintro e w1 ⟨rfl, hb1⟩
  have BX1 := hide (BX.out.below hb1)
  have HB1 : Hid (Below B w w1) := hb1.mono (by omega)
  clear z0 z1 z2 z3 z4 z5 z6 z7 z8 z9 gf hb1
  obtain ⟨⟨z0, z1, z2, z3, z4, z5, z6, z7, z8, z9⟩, gf⟩ := box10 BX1.out.1
  cases hn : namedB t b with
  | true =>
    have HE : Hid (nameE t 1 b = 0) := by rw [Hid, nameE, if_pos hn]
    have HN : Hid (nameT t 1 b = t) := by rw [Hid, nameT, if_pos hn]
    go_wp2
    go_ret
    exact ⟨by rw [HE.out]; rfl, by rw [nameX, if_pos HE.out, HN.out]; exact BX1.out, HB1.out⟩
  | false =>
    by_cases h0 : t.h1.left = 0
    · have HE : Hid (nameE t 1 b = 7) := by rw [Hid, nameE, if_neg (by rw [hn]; simp), if_pos (show (hdAt t 1).left = 0 from h0)]
      have H0 := hide h0
      clear hn
      go_wp2
      go_ret
      exact ⟨by rw [HE.out]; rfl, by rw [nameX, if_neg (by rw [HE.out]; decide)]; exact BX1.out, HB1.out⟩
    · have HE : Hid (nameE t 1 b = 0) := by rw [Hid, nameE, if_neg (by rw [hn]; simp), if_neg (show ¬ (hdAt t 1).left = 0 from h0)]
      have HN : Hid (nameT t 1 b = { t with h1 := ⟨t.h1.on, t.h1.left - 1⟩ }) := by rw [Hid, nameT, if_neg (by rw [hn]; simp)]; rfl
      go_wp2
      go_ret
      refine ⟨by rw [HE.out]; rfl, ?_, HB1.out.setCell (by simp) _⟩
      rw [nameX, if_pos HE.out, HN.out]
      exact BX1.out.set (t' := { t with h1 := ⟨t.h1.on, t.h1.left - 1⟩ }) 7 (.int .i64 (t.h1.left - 1)) rfl BX1.out.2.1 BX1.out.2.2.1 BX1.out.2.2.2

set_option maxHeartbeats 2000000 in
set_option maxRecDepth 100000 in
theorem name_2 (B : Nat) (t : Tx) (va vd vr : Value) (b : Int) (w : World) (hbx : BoxTx w B t va vd vr) (r1 : t.info.length ≤ 1000) (r2 : t.data.length ≤ 1000) (r3 : t.rev.length ≤ 1000) (hl : 0 ≤ t.h2.left ∧ t.h2.left ≤ 24) :
    Calls Tryz.prog 39 #[.pointer (some ⟨B, 0, none⟩), .int .i64 2, .int .i64 b] w fun e w' => e = .returned (.int .i64 (nameE t 2 b)) ∧ BoxTx w' B (nameX t 2 b) va vd vr ∧ Below B w w' := by
  have HT := hide (hbx.is (by unfold maxLen; omega) (by unfold maxLen; omega) (by unfold maxLen; omega))
  obtain ⟨a1, c1, rfl, _, _⟩ := SegC.of_owns hbx.2.1
  obtain ⟨a2, c2, rfl, _, _⟩ := SegC.of_owns hbx.2.2.1
  obtain ⟨a3, c3, rfl, _, _⟩ := SegI.of_owns hbx.2.2.2
  have BX := hide hbx
  have hlt := hbx.lt
  clear hbx r1 r2 r3
  obtain ⟨⟨z0, z1, z2, z3, z4, z5, z6, z7, z8, z9⟩, gf⟩ := box10 BX.out.1
  go_enter Tryz.func39, Tryz.ntmps39
  go_wp2_with fail
  refine (named_any _ t b _ HT.out).mono ?_
  rintro e w1 ⟨rfl, hb1⟩
  have BX1 := hide (BX.out.below hb1)
  have HB1 : Hid (Below B w w1) := hb1.mono (by omega)
  clear z0 z1 z2 z3 z4 z5 z6 z7 z8 z9 gf hb1
  obtain ⟨⟨z0, z1, z2, z3, z4, z5, z6, z7, z8, z9⟩, gf⟩ := box10 BX1.out.1
  cases hn : namedB t b with
  | true =>
    have HE : Hid (nameE t 2 b = 0) := by rw [Hid, nameE, if_pos hn]
    have HN : Hid (nameT t 2 b = t) := by rw [Hid, nameT, if_pos hn]
    go_wp2
    go_ret
    exact ⟨by rw [HE.out]; rfl, by rw [nameX, if_pos HE.out, HN.out]; exact BX1.out, HB1.out⟩
  | false =>
    by_cases h0 : t.h2.left = 0
    · have HE : Hid (nameE t 2 b = 7) := by rw [Hid, nameE, if_neg (by rw [hn]; simp), if_pos (show (hdAt t 2).left = 0 from h0)]
      have H0 := hide h0
      clear hn
      go_wp2
      go_ret
      exact ⟨by rw [HE.out]; rfl, by rw [nameX, if_neg (by rw [HE.out]; decide)]; exact BX1.out, HB1.out⟩
    · have HE : Hid (nameE t 2 b = 0) := by rw [Hid, nameE, if_neg (by rw [hn]; simp), if_neg (show ¬ (hdAt t 2).left = 0 from h0)]
      have HN : Hid (nameT t 2 b = { t with h2 := ⟨t.h2.on, t.h2.left - 1⟩ }) := by rw [Hid, nameT, if_neg (by rw [hn]; simp)]; rfl
      go_wp2
      go_ret
      refine ⟨by rw [HE.out]; rfl, ?_, HB1.out.setCell (by simp) _⟩
      rw [nameX, if_pos HE.out, HN.out]
      exact BX1.out.set (t' := { t with h2 := ⟨t.h2.on, t.h2.left - 1⟩ }) 9 (.int .i64 (t.h2.left - 1)) rfl BX1.out.2.1 BX1.out.2.2.1 BX1.out.2.2.2

theorem name_any (B : Nat) (t : Tx) (va vd vr : Value) (h b : Int) (w : World) (hbx : BoxTx w B t va vd vr) (hg : goodX t = true) (hh : h = 0 ∨ h = 1 ∨ h = 2) :
    Calls Tryz.prog 39 #[.pointer (some ⟨B, 0, none⟩), .int .i64 h, .int .i64 b] w fun e w' => e = .returned (.int .i64 (nameE t h b)) ∧ BoxTx w' B (nameX t h b) va vd vr ∧ Below B w w' := by
  have hs := good_small hg
  rcases hh with rfl | rfl | rfl
  · have := (hdB_iff _).1 (good_hd hg 0)
    exact name_0 B t va vd vr b w hbx (by omega) (by omega) (by omega) ⟨this.1, this.2.1⟩
  · have := (hdB_iff _).1 (good_hd hg 1)
    exact name_1 B t va vd vr b w hbx (by omega) (by omega) (by omega) ⟨this.1, this.2.1⟩
  · have := (hdB_iff _).1 (good_hd hg 2)
    exact name_2 B t va vd vr b w hbx (by omega) (by omega) (by omega) ⟨this.1, this.2.1⟩

end Go.Proofs.YtjnpndfpajjihabGreat
