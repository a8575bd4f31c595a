/-
  The walk of the document's own EncodeMark: commit blocks and lists.
-/
import Derived.Test.YtjnpndfpajjihaaMEncode
namespace Go.Proofs.Ytjnpndfpajjihaa
open Go.RowKit

set_option maxHeartbeats 3000000 in
set_option maxRecDepth 100000 in
theorem encode_commit (q : Int) (a : Option Addr) (n c : Nat) (a' : Option Addr) (n' c' : Nat) (w : World) (hq1 : 1 ≤ q) (hq2 : q ≤ 2147483647) (hgood : ∀ w', Below w.heap.size w w' → Calls Try.prog 38 #[.agg #[.int .i64 4, .int .i64 q, .int .i64 0, .slice a n c, .slice a' n' c']] w' fun e w2 => e = .returned (.int .i64 0) ∧ Below w'.heap.size w' w2) :
    Calls Try.prog 36 #[.agg #[.int .i64 4, .int .i64 q, .int .i64 0, .slice a n c, .slice a' n' c']] w fun e w' => e = .returned (.tuple #[.string (fitT (headT 4 q)), .int .i64 0]) ∧ Below w.heap.size w w' := by
  have HG := hide hgood
  clear hgood
  go_enter Try.func36, Try.ntmps36
  go_wp2_with fail
  refine (HG.out _ (below1 _ _)).mono ?_
  rintro e w1 ⟨rfl, hb1⟩
  have x0 := cellKeep hb1 (b := w.heap.size) (o := 0) (v := .int .i64 4) (by simp) (by simp [go_sem])
  have x1 := cellKeep hb1 (b := w.heap.size) (o := 1) (v := .int .i64 q) (by simp) (by simp [go_sem])
  have x2 := cellKeep hb1 (b := w.heap.size) (o := 2) (v := .int .i64 0) (by simp) (by simp [go_sem])
  have x3 := cellKeep hb1 (b := w.heap.size) (o := 3) (v := .slice a n c) (by simp) (by simp [go_sem])
  have x4 := cellKeep hb1 (b := w.heap.size) (o := 4) (v := .slice a' n' c') (by simp) (by simp [go_sem])
  have hs1 : w.heap.size < w1.heap.size := by have := hb1.size; simp at this; omega
  have HALL : Hid (∀ w', Below w1.heap.size w1 w' → Hid (Below w1.heap.size w1 w') ∧ w'.cell? ⟨w.heap.size, 0, none⟩ = some (.int .i64 4) ∧ w'.cell? ⟨w.heap.size, 1, none⟩ = some (.int .i64 q) ∧ w'.cell? ⟨w.heap.size, 2, none⟩ = some (.int .i64 0) ∧ w'.cell? ⟨w.heap.size, 3, none⟩ = some (.slice a n c) ∧ w'.cell? ⟨w.heap.size, 4, none⟩ = some (.slice a' n' c')) := by
    intro w' hb
    exact ⟨hb, cellKeep hb hs1 x0, cellKeep hb hs1 x1, cellKeep hb hs1 x2, cellKeep hb hs1 x3, cellKeep hb hs1 x4⟩
  have HBW := hide (bthen (below1 _ _) hb1)
  have hw1 : IntKind.i64.wrap (q.tdiv 16777216) = q / 16777216 := Go.IntWalk.i64_quo q 16777216 (by omega)
  have hw2 : IntKind.i64.wrap (q.tdiv 65536) = q / 65536 := Go.IntWalk.i64_quo q 65536 (by omega)
  have hw3 : IntKind.i64.wrap (q.tdiv 256) = q / 256 := Go.IntWalk.i64_quo q 256 (by omega)
  have hm2 : (q / 65536).tmod 256 = q / 65536 % 256 := Int.tmod_eq_emod_of_nonneg (by omega)
  have hm3 : (q / 256).tmod 256 = q / 256 % 256 := Int.tmod_eq_emod_of_nonneg (by omega)
  have hm4 : q.tmod 256 = q % 256 := Int.tmod_eq_emod_of_nonneg (by omega)
  have hsz : ∀ n, (oneB n).size = 1 := fun _ => rfl
  clear hb1 x0 x1 x2 x3 x4
  go_wp2
  go_region_held (fun w' => Hid (Below w1.heap.size w1 w') ∧ w'.cell? ⟨w.heap.size, 0, none⟩ = some (.int .i64 4) ∧ w'.cell? ⟨w.heap.size, 1, none⟩ = some (.int .i64 q) ∧ w'.cell? ⟨w.heap.size, 2, none⟩ = some (.int .i64 0) ∧ w'.cell? ⟨w.heap.size, 3, none⟩ = some (.slice a n c) ∧ w'.cell? ⟨w.heap.size, 4, none⟩ = some (.slice a' n' c'))
    (first | exact HALL.out _ ((Below.refl _ _).drew) | (refine HALL.out _ ?_; assumption))
    (first | (go_at_call 74; (have hnow := (‹Hid (Below w1.heap.size w1 _) ∧ _›).1); have HNOW := hide hnow.out; refine (byteOf_int _ _ ?_ ?_).mono ?_; omega; omega; clear hnow; rintro e w10 ⟨rfl, hb10⟩; have hbN := bthen HNOW.out hb10; clear hb10 HNOW))
  obtain ⟨hnow, y0, y1, y2, y3, y4⟩ := ‹Hid (Below w1.heap.size w1 _) ∧ _›
  clear hw1 hw2 hw3 hm2 hm3 hm4
  go_wp2_with fail
  refine (fitText_any _ _).mono ?_
  rintro e w3 ⟨rfl, hb4⟩
  have HB := hide (bthen HBW.out (bthen hnow.out hb4))
  clear hb4 y0 y1 y2 y3 y4
  go_wp2
  go_ret2
  exact ⟨rfl, HB.out⟩

set_option maxHeartbeats 4000000 in
set_option maxRecDepth 100000 in
theorem encode_list (q : Int) (a : Option Addr) (n c : Nat) (a' : Option Addr) (c' : Nat) (l : List Int) (w : World) (hl : SegI w a' l) (h20 : l.length ≤ 20) (hbd : ∀ x ∈ l, 0 ≤ x ∧ x ≤ 11) (hq1 : 1 ≤ q) (hq2 : q ≤ 2147483647) (hgood : ∀ w', Below w.heap.size w w' → Calls Try.prog 38 #[.agg #[.int .i64 3, .int .i64 q, .int .i64 0, .slice a n c, .slice a' l.length c']] w' fun e w2 => e = .returned (.int .i64 0) ∧ Below w'.heap.size w' w2) :
    Calls Try.prog 36 #[.agg #[.int .i64 3, .int .i64 q, .int .i64 0, .slice a n c, .slice a' l.length c']] w fun e w' => e = .returned (.tuple #[.string (fitT (numsT (headT 3 q ++ oneB l.length) l)), .int .i64 0]) ∧ Below w.heap.size w w' := by
  have HG := hide hgood
  have HL := hide hl
  have HBD := hide hbd
  clear hgood hl hbd
  go_enter Try.func36, Try.ntmps36
  go_wp2_with fail
  refine (HG.out _ (below1 _ _)).mono ?_
  rintro e w1 ⟨rfl, hb1⟩
  have x0 := cellKeep hb1 (b := w.heap.size) (o := 0) (v := .int .i64 3) (by simp) (by simp [go_sem])
  have x1 := cellKeep hb1 (b := w.heap.size) (o := 1) (v := .int .i64 q) (by simp) (by simp [go_sem])
  have x2 := cellKeep hb1 (b := w.heap.size) (o := 2) (v := .int .i64 0) (by simp) (by simp [go_sem])
  have x3 := cellKeep hb1 (b := w.heap.size) (o := 3) (v := .slice a n c) (by simp) (by simp [go_sem])
  have x4 := cellKeep hb1 (b := w.heap.size) (o := 4) (v := .slice a' l.length c') (by simp) (by simp [go_sem])
  have hs1 : w.heap.size < w1.heap.size := by have := hb1.size; simp at this; omega
  have HALL : Hid (∀ w', Below w1.heap.size w1 w' → Hid (Below w1.heap.size w1 w') ∧ w'.cell? ⟨w.heap.size, 0, none⟩ = some (.int .i64 3) ∧ w'.cell? ⟨w.heap.size, 1, none⟩ = some (.int .i64 q) ∧ w'.cell? ⟨w.heap.size, 2, none⟩ = some (.int .i64 0) ∧ w'.cell? ⟨w.heap.size, 3, none⟩ = some (.slice a n c) ∧ w'.cell? ⟨w.heap.size, 4, none⟩ = some (.slice a' l.length c')) := by
    intro w' hb
    exact ⟨hb, cellKeep hb hs1 x0, cellKeep hb hs1 x1, cellKeep hb hs1 x2, cellKeep hb hs1 x3, cellKeep hb hs1 x4⟩
  have HBW := hide (bthen (below1 _ _) hb1)
  have hw1 : IntKind.i64.wrap (q.tdiv 16777216) = q / 16777216 := Go.IntWalk.i64_quo q 16777216 (by omega)
  have hw2 : IntKind.i64.wrap (q.tdiv 65536) = q / 65536 := Go.IntWalk.i64_quo q 65536 (by omega)
  have hw3 : IntKind.i64.wrap (q.tdiv 256) = q / 256 := Go.IntWalk.i64_quo q 256 (by omega)
  have hm2 : (q / 65536).tmod 256 = q / 65536 % 256 := Int.tmod_eq_emod_of_nonneg (by omega)
  have hm3 : (q / 256).tmod 256 = q / 256 % 256 := Int.tmod_eq_emod_of_nonneg (by omega)
  have hm4 : q.tmod 256 = q % 256 := Int.tmod_eq_emod_of_nonneg (by omega)
  have hsz : ∀ n, (oneB n).size = 1 := fun _ => rfl
  clear hb1 x0 x1 x2 x3 x4
  go_wp2
  go_region_held (fun w' => Hid (Below w1.heap.size w1 w') ∧ w'.cell? ⟨w.heap.size, 0, none⟩ = some (.int .i64 3) ∧ w'.cell? ⟨w.heap.size, 1, none⟩ = some (.int .i64 q) ∧ w'.cell? ⟨w.heap.size, 2, none⟩ = some (.int .i64 0) ∧ w'.cell? ⟨w.heap.size, 3, none⟩ = some (.slice a n c) ∧ w'.cell? ⟨w.heap.size, 4, none⟩ = some (.slice a' l.length c'))
    (first | exact HALL.out _ ((Below.refl _ _).drew) | (refine HALL.out _ ?_; assumption))
    (first | (go_at_call 74; (have hnow := (‹Hid (Below w1.heap.size w1 _) ∧ _›).1); have HNOW := hide hnow.out; refine (byteOf_int _ _ ?_ ?_).mono ?_; omega; omega; clear hnow; rintro e w10 ⟨rfl, hb10⟩; have hbN := bthen HNOW.out hb10; clear hb10 HNOW))
  obtain ⟨hnow, y0, y1, y2, y3, y4⟩ := ‹Hid (Below w1.heap.size w1 _) ∧ _›
  clear hw1 hw2 hw3 hm2 hm3 hm4
  go_wp2_with fail
  refine (byteOf_int _ _ (by omega) (by omega)).mono ?_
  rintro e w2 ⟨rfl, hb2⟩
  have hb3 := bthen hnow.out hb2
  have hs2 : w.heap.size < w2.heap.size := by have := hb3.size; omega
  have z4 : w2.cell? ⟨w.heap.size, 4, none⟩ = some (.slice a' l.length c') := (HALL.out _ hb3).2.2.2.2.2
  have HLW := hide (HL.out.below (bthen HBW.out hb3))
  clear hb2 y0 y1 y2 y3 y4
  go_wp2
  obtain ⟨s0, hs0⟩ : ∃ s0, s0 = headT 3 q ++ oneB l.length := ⟨_, rfl⟩
  have hz0 : s0.size = 10 := by rw [hs0]; rfl
  have HS0 := hide hs0
  have HZ0 := hide hz0
  clear hz0
  go_loopw [5, 88] (fun v i wr => ∃ k : Nat, k ≤ l.length ∧ i = .int .i64 k ∧ v = .string (numsT s0 (l.take k)) ∧ Below w2.heap.size w2 wr) (fun _ i _ => l.length - (intOf i).toNat)
  case atStart => exact ⟨0, Nat.zero_le _, rfl, by rw [hs0]; rfl, Below.refl _ _⟩
  case round =>
    obtain ⟨k, hk, rfl, rfl, hbr⟩ := hrel
    clear hs0
    obtain ⟨t, ht⟩ : ∃ t, t = numsT s0 (l.take k) := ⟨_, rfl⟩
    have htz : t.size ≤ 30 := by rw [ht, numsT_size, HZ0.out, List.length_take]; omega
    rw [← ht]
    have HTT := hide ht
    clear ht
    by_cases hlt : k < l.length
    · obtain ⟨b, off, ha, hb, hc⟩ := HLW.out.resolve_left (by intro e; rw [e] at hlt; simp at hlt)
      obtain ⟨x, hx⟩ : ∃ x, x = l.getD k 0 := ⟨_, rfl⟩
      have hck := cellKeep hbr hb (hc k hlt)
      rw [← hx] at hck
      have HX : Hid (l[k]? = some x) := by rw [hx]; exact getD_at _ _ _ hlt
      have hbx := HBD.out x (List.mem_of_getElem? HX.out)
      have HN : Hid (numsT s0 (l.take (k + 1)) = t ++ oneB x.toNat) := by rw [Hid, HTT.out, List.take_add_one, HX.out]; exact numsT_snoc _ _ _
      have hlt' : (k : Int) < (l.length : Int) := by omega
      clear hx hc
      subst ha
      go_wp2_with fail
      refine (byteOf_int x _ hbx.1 (by omega)).mono ?_
      rintro e w4 ⟨rfl, hb4⟩
      have hb5 := bthen hbr hb4
      clear hb4 hbr hck
      go_wp2
      go_roundw
      case rel => exact ⟨k + 1, by omega, by go_num, by rw [HN.out], hb5⟩
      case measure => simp [intOf]; omega
    · have e : l.take k = l := List.take_of_length_le (by omega)
      have HF : Hid (numsT (headT 3 q ++ oneB l.length) l = t) := by rw [Hid, HTT.out, e, HS0.out]
      clear e
      go_wp2_with fail
      refine (fitText_any _ _).mono ?_
      rintro e w5 ⟨rfl, hb6⟩
      have HB := hide (bthen HBW.out (bthen hb3 (bthen hbr hb6)))
      clear hb6 hbr hb3
      go_wp2
      go_ret2
      exact ⟨by rw [HF.out]; rfl, HB.out⟩

end Go.Proofs.Ytjnpndfpajjihaa
