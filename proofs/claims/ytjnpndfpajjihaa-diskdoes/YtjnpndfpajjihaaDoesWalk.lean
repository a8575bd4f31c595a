/-
  The walk of the statement DiskDoes: it says true at every disk, place and text.
-/
import Derived.Test.YtjnpndfpajjihaaRefSame
import Derived.Test.YtjnpndfpajjihaaRefFit
import Derived.Deep.RegionHeld
namespace Go.Proofs.Ytjnpndfpajjihaa
open Go.RowKit

theorem nowB {w0 w' : World} {p : Prop} (h : Hid (Below w0.heap.size w0 w') ∧ p) : Below w0.heap.size w0 w' := h.1.out
theorem stepB {w0 w' w2 : World} {p : Prop} (h : Hid (Below w0.heap.size w0 w') ∧ p) (hb : Below w'.heap.size w' w2) : Below w0.heap.size w0 w2 := bthen h.1.out hb

set_option maxHeartbeats 3000000 in
set_option maxRecDepth 100000 in
theorem does_walk (v : Value) (d : Dk) (n : Int) (s : ByteArray) (w : World) (h : IsDk w v d) (hs : s.size ≤ maxLen) (h16 : d.safe.length * 16 ≤ 140737488355328) (h24 : d.wr.length * 24 ≤ 140737488355328) :
    Calls Try.prog 3 #[v, .int .i64 n, .string s] w fun e w' => e = .returned (.bool true) ∧ Below w.heap.size w w' := by
  have HI := hide h
  obtain ⟨a, c, a', c', rfl, _, _, _, _⟩ := h
  go_enter Try.func3, Try.ntmps3
  go_wp2_with fail
  refine (copy_any _ d _ (HI.out.below (below1 _ _)) h16 h24).mono ?_
  rintro e w1 ⟨v1, rfl, hd1, hb1⟩
  have HC := hide hd1
  obtain ⟨a1, c1, a1', c1', rfl, _, _, _, _⟩ := hd1
  have x0 := cellKeep hb1 (b := w.heap.size) (o := 0) (v := .slice a d.safe.length c) (by simp) (by simp [go_sem])
  have x1 := cellKeep hb1 (b := w.heap.size) (o := 1) (v := .slice a' d.wr.length c') (by simp) (by simp [go_sem])
  have hs1 : w.heap.size < w1.heap.size := by have := hb1.size; simp at this; omega
  have hb2 := bthen (below1 _ _) hb1
  clear hb1
  -- Read, ReadDisk
  go_wp2_with fail
  refine (read_any _ d n _ (HC.out.below (below1 _ _))).mono ?_
  rintro e w2 ⟨rfl, hb3⟩
  have y0 := cellKeep hb3 (b := w1.heap.size) (o := 0) (v := .slice a1 d.safe.length c1) (by simp) (by simp [go_sem])
  have y1 := cellKeep hb3 (b := w1.heap.size) (o := 1) (v := .slice a1' d.wr.length c1') (by simp) (by simp [go_sem])
  have hs2 : w1.heap.size < w2.heap.size := by have := hb3.size; simp at this; omega
  have hb4 : Below w1.heap.size w1 w2 := bthen (below1 _ _) hb3
  have x2 := cellKeep hb4 hs1 x0
  have x3 := cellKeep hb4 hs1 x1
  clear hb3 x0 x1
  go_wp2_with fail
  refine (readDisk_any _ d n _ (HI.out.below (bthen hb2 hb4))).mono ?_
  rintro e w3 ⟨rfl, hb5⟩
  generalize readT d n = rt
  generalize readE d n = re
  have hs3 := hb5.size
  have x4 := cellKeep hb5 (by omega) x2
  have x5 := cellKeep hb5 (by omega) x3
  have y2 := cellKeep hb5 (by omega) y0
  have y3 := cellKeep hb5 (by omega) y1
  have hb6 := bthen hb4 hb5
  have hs3' : w1.heap.size < w3.heap.size := by omega
  clear x2 x3 y0 y1 hb4 hb5
  -- Put, PutDisk
  go_wp2_with fail
  refine (put_any _ d n s _ (HC.out.below hb6)).mono ?_
  rintro e w4 ⟨v4, rfl, hd4, _, hb7⟩
  have HA := hide hd4
  obtain ⟨a4, c4, a4', c4', rfl, _, _, _, _⟩ := hd4
  have hs4 := hb7.size
  have x6 := cellKeep hb7 (by omega) x4
  have x7 := cellKeep hb7 (by omega) x5
  have y4 := cellKeep hb7 (by omega) y2
  have y5 := cellKeep hb7 (by omega) y3
  have hb8 := bthen hb6 hb7
  have hs4' : w.heap.size < w4.heap.size := by omega
  clear x4 x5 y2 y3 hb6 hb7
  go_wp2_with fail
  refine (putRef_any _ d n s _ (HI.out.below (bthen (bthen hb2 hb8) (below1 _ _)))).mono ?_
  rintro e w5 ⟨v5, rfl, hd5, _, hb9⟩
  have HB := hide hd5
  obtain ⟨a5, c5, a5', c5', rfl, _, _, _, _⟩ := hd5
  generalize putE d n s = pe
  generalize putK d n s = pk at *
  have z0 := cellKeep hb9 (b := w4.heap.size) (o := 0) (v := .slice a4 pk.safe.length c4) (by simp) (by simp [go_sem])
  have z1 := cellKeep hb9 (b := w4.heap.size) (o := 1) (v := .slice a4' pk.wr.length c4') (by simp) (by simp [go_sem])
  have hs5 : w4.heap.size < w5.heap.size := by have := hb9.size; simp at this; omega
  have hb10 : Below w4.heap.size w4 w5 := bthen (below1 _ _) hb9
  have x8 := cellKeep hb10 (by omega) x6
  have x9 := cellKeep hb10 (by omega) x7
  have y6 := cellKeep hb10 (by omega) y4
  have y7 := cellKeep hb10 (by omega) y5
  have hb11 := bthen hb8 hb10
  have HA5 := hide (HA.out.below hb10)
  have hs5' : w1.heap.size < w5.heap.size := by omega
  clear x6 x7 y4 y5 hb8 hb9 hb10 HA
  -- Flush, FlushDisk
  go_wp2_with fail
  refine (flush_any _ d _ (HC.out.below (bthen hb11 (below1 _ _)))).mono ?_
  rintro e w6 ⟨v6, rfl, hd6, _, hb12⟩
  have HU := hide hd6
  obtain ⟨a6, c6, a6', c6', rfl, _, _, _, _⟩ := hd6
  have b0 := cellKeep hb12 (b := w5.heap.size) (o := 0) (v := .slice a5 pk.safe.length c5) (by simp) (by simp [go_sem])
  have b1 := cellKeep hb12 (b := w5.heap.size) (o := 1) (v := .slice a5' pk.wr.length c5') (by simp) (by simp [go_sem])
  have hs6 : w5.heap.size < w6.heap.size := by have := hb12.size; simp at this; omega
  have hb13 : Below w5.heap.size w5 w6 := bthen (below1 _ _) hb12
  have x10 := cellKeep hb13 (by omega) x8
  have x11 := cellKeep hb13 (by omega) x9
  have y8 := cellKeep hb13 (by omega) y6
  have y9 := cellKeep hb13 (by omega) y7
  have z2 := cellKeep hb13 (by omega) z0
  have z3 := cellKeep hb13 (by omega) z1
  have hb14 := bthen hb11 hb13
  have HA6 := hide (HA5.out.below hb13)
  have HB6 := hide (HB.out.below hb13)
  have hs6' : w.heap.size < w6.heap.size := by omega
  clear x8 x9 y6 y7 z0 z1 hb11 hb12 hb13 HA5 HB
  go_wp2_with fail
  refine (flushRef_any _ d _ (HI.out.below (bthen (bthen hb2 hb14) (below1 _ _)))).mono ?_
  rintro e w7 ⟨v7, rfl, hd7, hb15⟩
  have HV := hide hd7
  obtain ⟨a7, c7, a7', c7', rfl, _, _, _, _⟩ := hd7
  generalize flushE d = fe
  generalize flushK d = fk at *
  have u0 := cellKeep hb15 (b := w6.heap.size) (o := 0) (v := .slice a6 fk.safe.length c6) (by simp) (by simp [go_sem])
  have u1 := cellKeep hb15 (b := w6.heap.size) (o := 1) (v := .slice a6' fk.wr.length c6') (by simp) (by simp [go_sem])
  have hs7 : w6.heap.size < w7.heap.size := by have := hb15.size; simp at this; omega
  have hb16 : Below w6.heap.size w6 w7 := bthen (below1 _ _) hb15
  have x12 := cellKeep hb16 (by omega) x10
  have x13 := cellKeep hb16 (by omega) x11
  have y10 := cellKeep hb16 (by omega) y8
  have y11 := cellKeep hb16 (by omega) y9
  have z4 := cellKeep hb16 (by omega) z2
  have z5 := cellKeep hb16 (by omega) z3
  have b2 := cellKeep hb16 (by omega) b0
  have b3 := cellKeep hb16 (by omega) b1
  have hb17 := bthen hb14 hb16
  have HA7 := hide (HA6.out.below hb16)
  have HB7 := hide (HB6.out.below hb16)
  have HU7 := hide (HU.out.below hb16)
  have HC7 := hide (HC.out.below hb17)
  have HI7 := hide (HI.out.below (bthen hb2 hb17))
  have HBW := hide (bthen hb2 hb17)
  clear x10 x11 y8 y9 z2 z3 b0 b1 hb14 hb15 hb16 hb17 hb2 HA6 HB6 HU HC HI
  go_wp2
  obtain ⟨w9, h9⟩ : ∃ w9, w9 = w7.alloc (Obj.cells #[.slice a7 fk.safe.length c7, .slice a7' fk.wr.length c7'] 25) := ⟨_, rfl⟩
  have hb18 : Below w7.heap.size w7 w9 := by rw [h9]; exact below1 _ _
  have v0 : w9.cell? ⟨w7.heap.size, 0, none⟩ = some (.slice a7 fk.safe.length c7) := by rw [h9]; simp [go_sem]
  have v1 : w9.cell? ⟨w7.heap.size, 1, none⟩ = some (.slice a7' fk.wr.length c7') := by rw [h9]; simp [go_sem]
  have hs9 : w7.heap.size < w9.heap.size := by rw [h9]; simp
  rw [← h9]
  have x14 := cellKeep hb18 (by omega) x12
  have x15 := cellKeep hb18 (by omega) x13
  have y12 := cellKeep hb18 (by omega) y10
  have y13 := cellKeep hb18 (by omega) y11
  have z6 := cellKeep hb18 (by omega) z4
  have z7 := cellKeep hb18 (by omega) z5
  have b4 := cellKeep hb18 (by omega) b2
  have b5 := cellKeep hb18 (by omega) b3
  have u2 := cellKeep hb18 (by omega) u0
  have u3 := cellKeep hb18 (by omega) u1
  have HA9 := hide (HA7.out.below hb18)
  have HB9 := hide (HB7.out.below hb18)
  have HU9 := hide (HU7.out.below hb18)
  have HV9 := hide (HV.out.below hb18)
  have HC9 := hide (HC7.out.below hb18)
  have HI9 := hide (HI7.out.below hb18)
  have HBW9 := hide (bthen HBW.out hb18)
  have HALL : Hid (∀ w', Below w9.heap.size w9 w' → Hid (Below w9.heap.size w9 w') ∧ w'.cell? ⟨w.heap.size, 0, none⟩ = some (.slice a d.safe.length c) ∧ w'.cell? ⟨w.heap.size, 1, none⟩ = some (.slice a' d.wr.length c') ∧
      w'.cell? ⟨w1.heap.size, 0, none⟩ = some (.slice a1 d.safe.length c1) ∧ w'.cell? ⟨w1.heap.size, 1, none⟩ = some (.slice a1' d.wr.length c1') ∧
      w'.cell? ⟨w4.heap.size, 0, none⟩ = some (.slice a4 pk.safe.length c4) ∧ w'.cell? ⟨w4.heap.size, 1, none⟩ = some (.slice a4' pk.wr.length c4') ∧
      w'.cell? ⟨w5.heap.size, 0, none⟩ = some (.slice a5 pk.safe.length c5) ∧ w'.cell? ⟨w5.heap.size, 1, none⟩ = some (.slice a5' pk.wr.length c5') ∧
      w'.cell? ⟨w6.heap.size, 0, none⟩ = some (.slice a6 fk.safe.length c6) ∧ w'.cell? ⟨w6.heap.size, 1, none⟩ = some (.slice a6' fk.wr.length c6') ∧
      w'.cell? ⟨w7.heap.size, 0, none⟩ = some (.slice a7 fk.safe.length c7) ∧ w'.cell? ⟨w7.heap.size, 1, none⟩ = some (.slice a7' fk.wr.length c7')) := by
    intro w' hb
    exact ⟨hb, cellKeep hb (by omega) x14, cellKeep hb (by omega) x15, cellKeep hb (by omega) y12, cellKeep hb (by omega) y13, cellKeep hb (by omega) z6, cellKeep hb (by omega) z7, cellKeep hb (by omega) b4, cellKeep hb (by omega) b5, cellKeep hb (by omega) u2, cellKeep hb (by omega) u3, cellKeep hb hs9 v0, cellKeep hb hs9 v1⟩
  clear h9 hb18 x12 x13 x14 x15 y10 y11 y12 y13 z4 z5 z6 z7 b2 b3 b4 b5 u0 u1 u2 u3 v0 v1 HA7 HB7 HU7 HV HC7 HI7 HBW
  go_region_held (fun w' => Hid (Below w9.heap.size w9 w') ∧ w'.cell? ⟨w.heap.size, 0, none⟩ = some (.slice a d.safe.length c) ∧ w'.cell? ⟨w.heap.size, 1, none⟩ = some (.slice a' d.wr.length c') ∧
      w'.cell? ⟨w1.heap.size, 0, none⟩ = some (.slice a1 d.safe.length c1) ∧ w'.cell? ⟨w1.heap.size, 1, none⟩ = some (.slice a1' d.wr.length c1') ∧
      w'.cell? ⟨w4.heap.size, 0, none⟩ = some (.slice a4 pk.safe.length c4) ∧ w'.cell? ⟨w4.heap.size, 1, none⟩ = some (.slice a4' pk.wr.length c4') ∧
      w'.cell? ⟨w5.heap.size, 0, none⟩ = some (.slice a5 pk.safe.length c5) ∧ w'.cell? ⟨w5.heap.size, 1, none⟩ = some (.slice a5' pk.wr.length c5') ∧
      w'.cell? ⟨w6.heap.size, 0, none⟩ = some (.slice a6 fk.safe.length c6) ∧ w'.cell? ⟨w6.heap.size, 1, none⟩ = some (.slice a6' fk.wr.length c6') ∧
      w'.cell? ⟨w7.heap.size, 0, none⟩ = some (.slice a7 fk.safe.length c7) ∧ w'.cell? ⟨w7.heap.size, 1, none⟩ = some (.slice a7' fk.wr.length c7'))
    (first | exact HALL.out _ ((Below.refl _ _).drew) | (refine HALL.out _ ?_; assumption))
    (first
      | (go_at_call 22; (have hnow := (‹Hid (Below w9.heap.size w9 _) ∧ _›).1); have HNOW := hide hnow.out; refine (sameRef_any _ _ pk _ ?_ ?_).mono ?_; exact HA9.out.below hnow.out; exact HB9.out.below hnow.out; clear hnow; rintro e w10 ⟨rfl, hb10⟩; have hbN := bthen HNOW.out hb10; clear hb10 HNOW)
      | (go_at_call 22; (have hnow := (‹Hid (Below w9.heap.size w9 _) ∧ _›).1); have HNOW := hide hnow.out; refine (sameRef_any _ _ fk _ ?_ ?_).mono ?_; exact HU9.out.below hnow.out; exact HV9.out.below hnow.out; clear hnow; rintro e w10 ⟨rfl, hb10⟩; have hbN := bthen HNOW.out hb10; clear hb10 HNOW)
      | (go_at_call 22; (have hnow := (‹Hid (Below w9.heap.size w9 _) ∧ _›).1); have HNOW := hide hnow.out; refine (sameRef_any _ _ d _ ?_ ?_).mono ?_; exact HC9.out.below hnow.out; exact HI9.out.below hnow.out; clear hnow; rintro e w10 ⟨rfl, hb10⟩; have hbN := bthen HNOW.out hb10; clear hb10 HNOW)
      | (go_at_call 22; (have hnow := (‹Hid (Below w9.heap.size w9 _) ∧ _›).1); have HNOW := hide hnow.out; refine (sameRef_any _ _ newK _ ?_ ?_).mono ?_; exact HN.out; exact HM.out; clear hnow; rintro e w10 ⟨rfl, hb10⟩; have hbN := bthen HNOW.out hb10; clear hb10 HNOW)
      | (go_at_call 23; (have hnow := (‹Hid (Below w9.heap.size w9 _) ∧ _›).1); have HNOW := hide hnow.out; refine (fit_any s _ hs).mono ?_; clear hnow; rintro e w10 ⟨rfl, hb10⟩; have hbN := bthen HNOW.out hb10; clear hb10 HNOW)
      | (go_at_call 24; (have hnow := (‹Hid (Below w9.heap.size w9 _) ∧ _›).1); have HNOW := hide hnow.out; refine (fitText_any s _).mono ?_; clear hnow; rintro e w10 ⟨rfl, hb10⟩; have hbN := bthen HNOW.out hb10; clear hb10 HNOW)
      | (go_at_call 25; (have hnow := (‹Hid (Below w9.heap.size w9 _) ∧ _›).1); have HNOW := hide hnow.out; refine (new_any _).mono ?_; clear hnow; rintro e w10 ⟨vn, rfl, hdn, hb10⟩; have hbN := bthen HNOW.out hb10; have HN0 := hide hdn; clear hdn; clear hb10 HNOW)
      | (go_at_call 26; (have hnow := (‹Hid (Below w9.heap.size w9 _) ∧ _›).1); have HNOW := hide hnow.out; refine (newDisk_any _).mono ?_; clear hnow; rintro e w11 ⟨vm, rfl, hdm, hb10⟩; have hbN := bthen HNOW.out hb10; have HM := hide hdm; have HN := hide (HN0.out.below hb10); clear hdm; clear hb10 HNOW)
      | (go_at_call 27; (have hnow := (‹Hid (Below w9.heap.size w9 _) ∧ _›).1); have HNOW := hide hnow.out; refine (good_any _ d _ (HC9.out.below hnow.out)).mono ?_; clear hnow; rintro e w10 ⟨rfl, hb10⟩; have hbN := bthen HNOW.out hb10; clear hb10 HNOW)
      | (go_at_call 28; (have hnow := (‹Hid (Below w9.heap.size w9 _) ∧ _›).1); have HNOW := hide hnow.out; refine (goodDisk_any _ d _ (HI9.out.below hnow.out)).mono ?_; clear hnow; rintro e w10 ⟨rfl, hb10⟩; have hbN := bthen HNOW.out hb10; clear hb10 HNOW)
      | (go_at_call 29; (have hnow := (‹Hid (Below w9.heap.size w9 _) ∧ _›).1); have HNOW := hide hnow.out; refine (turnsLaw_any _).mono ?_; clear hnow; rintro e w10 ⟨rfl, hb10⟩; have hbN := bthen HNOW.out hb10; clear hb10 HNOW))
  go_wp2
  go_ret
  refine ⟨rfl, bthen HBW9.out ?_⟩
  assumption

end Go.Proofs.Ytjnpndfpajjihaa
