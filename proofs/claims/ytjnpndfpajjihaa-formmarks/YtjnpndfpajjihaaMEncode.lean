/-
  The walk of the document's own EncodeMark.
-/
import Derived.Test.YtjnpndfpajjihaaMGood3
import Derived.Test.YtjnpndfpajjihaaMEncPure
import Derived.Test.YtjnpndfpajjihaaMByte
import Derived.Test.YtjnpndfpajjihaaFitRef
import Derived.Deep.RegionHeld
namespace Go.Proofs.Ytjnpndfpajjihaa
open Go.RowKit

theorem byteOf_int (x : Int) (w : World) (h0 : 0 ≤ x) (h1 : x < 256) :
    Calls Try.prog 74 #[.int .i64 x] w fun e w' => e = .returned (.string (oneB x.toNat)) ∧ Below w.heap.size w w' := by
  obtain ⟨n, rfl⟩ := Int.eq_ofNat_of_zero_le h0
  exact byteOf_any n w (by omega)


set_option maxHeartbeats 2000000 in
set_option maxRecDepth 100000 in
theorem encode_no (v : Value) (m : Mk) (w : World) (h : IsMk w v m) (h8 : m.tags.length * 8 ≤ 140737488355328) (hno : ¬ goodM m = 0) :
    Calls Try.prog 36 #[v] w fun e w' => e = .returned (.tuple #[.string (encT m), .int .i64 (goodM m)]) ∧ Below w.heap.size w w' := by
  have HI := hide h
  obtain ⟨a, c, a', c', rfl, _, _, _, _⟩ := h
  have HE : Hid (encT m = ByteArray.empty) := by rw [Hid, encT, if_neg hno]
  have hno' : (goodM m != 0) = true := by simpa using hno
  clear hno
  go_enter Try.func36, Try.ntmps36
  go_wp2_with fail
  refine (goodMark_any _ m _ (HI.out.below (below1 _ _)) h8).mono ?_
  rintro e w1 ⟨rfl, hb1⟩
  have HB := hide (bthen (below1 _ _) hb1)
  clear hb1
  go_wp2
  go_ret2
  exact ⟨by rw [HE.out]; rfl, HB.out⟩

set_option maxHeartbeats 3000000 in
set_option maxRecDepth 100000 in
theorem encode_super (q p : Int) (a : Option Addr) (n c : Nat) (a' : Option Addr) (n' c' : Nat) (w : World) (hq1 : 1 ≤ q) (hq2 : q ≤ 2147483647) (hp1 : 0 ≤ p) (hp2 : p ≤ 23) (hgood : ∀ w', Below w.heap.size w w' → Calls Try.prog 38 #[.agg #[.int .i64 1, .int .i64 q, .int .i64 p, .slice a n c, .slice a' n' c']] w' fun e w2 => e = .returned (.int .i64 0) ∧ Below w'.heap.size w' w2) :
    Calls Try.prog 36 #[.agg #[.int .i64 1, .int .i64 q, .int .i64 p, .slice a n c, .slice a' n' c']] w fun e w' => e = .returned (.tuple #[.string (fitT (headT 1 q ++ oneB p.toNat)), .int .i64 0]) ∧ Below w.heap.size w w' := by
  have HG := hide hgood
  clear hgood
  go_enter Try.func36, Try.ntmps36
  go_wp2_with fail
  refine (HG.out _ (below1 _ _)).mono ?_
  rintro e w1 ⟨rfl, hb1⟩
  have x0 := cellKeep hb1 (b := w.heap.size) (o := 0) (v := .int .i64 1) (by simp) (by simp [go_sem])
  have x1 := cellKeep hb1 (b := w.heap.size) (o := 1) (v := .int .i64 q) (by simp) (by simp [go_sem])
  have x2 := cellKeep hb1 (b := w.heap.size) (o := 2) (v := .int .i64 p) (by simp) (by simp [go_sem])
  have x3 := cellKeep hb1 (b := w.heap.size) (o := 3) (v := .slice a n c) (by simp) (by simp [go_sem])
  have x4 := cellKeep hb1 (b := w.heap.size) (o := 4) (v := .slice a' n' c') (by simp) (by simp [go_sem])
  have hs1 : w.heap.size < w1.heap.size := by have := hb1.size; simp at this; omega
  have HALL : Hid (∀ w', Below w1.heap.size w1 w' → Hid (Below w1.heap.size w1 w') ∧ w'.cell? ⟨w.heap.size, 0, none⟩ = some (.int .i64 1) ∧ w'.cell? ⟨w.heap.size, 1, none⟩ = some (.int .i64 q) ∧ w'.cell? ⟨w.heap.size, 2, none⟩ = some (.int .i64 p) ∧ w'.cell? ⟨w.heap.size, 3, none⟩ = some (.slice a n c) ∧ w'.cell? ⟨w.heap.size, 4, none⟩ = some (.slice a' n' c')) := by
    intro w' hb
    exact ⟨hb, cellKeep hb hs1 x0, cellKeep hb hs1 x1, cellKeep hb hs1 x2, cellKeep hb hs1 x3, cellKeep hb hs1 x4⟩
  have HBW := hide (bthen (below1 _ _) hb1)
  have hw1 : IntKind.i64.wrap (q.tdiv 16777216) = q / 16777216 := Go.IntWalk.i64_quo q 16777216 (by omega)
  have hw2 : IntKind.i64.wrap (q.tdiv 65536) = q / 65536 := Go.IntWalk.i64_quo q 65536 (by omega)
  have hw3 : IntKind.i64.wrap (q.tdiv 256) = q / 256 := Go.IntWalk.i64_quo q 256 (by omega)
  have hm2 : (q / 65536).tmod 256 = q / 65536 % 256 := Int.tmod_eq_emod_of_nonneg (by omega)
  have hm3 : (q / 256).tmod 256 = q / 256 % 256 := Int.tmod_eq_emod_of_nonneg (by omega)
  have hm4 : q.tmod 256 = q % 256 := Int.tmod_eq_emod_of_nonneg (by omega)
  have hsz : ∀ n, (oneB n).size = 1 := fun _ => rfl
  clear hb1 x0 x1 x2 x3 x4
  go_wp2
  go_region_held (fun w' => Hid (Below w1.heap.size w1 w') ∧ w'.cell? ⟨w.heap.size, 0, none⟩ = some (.int .i64 1) ∧ w'.cell? ⟨w.heap.size, 1, none⟩ = some (.int .i64 q) ∧ w'.cell? ⟨w.heap.size, 2, none⟩ = some (.int .i64 p) ∧ w'.cell? ⟨w.heap.size, 3, none⟩ = some (.slice a n c) ∧ w'.cell? ⟨w.heap.size, 4, none⟩ = some (.slice a' n' c'))
    (first | exact HALL.out _ ((Below.refl _ _).drew) | (refine HALL.out _ ?_; assumption))
    (first | (go_at_call 74; (have hnow := (‹Hid (Below w1.heap.size w1 _) ∧ _›).1); have HNOW := hide hnow.out; refine (byteOf_int _ _ ?_ ?_).mono ?_; omega; omega; clear hnow; rintro e w10 ⟨rfl, hb10⟩; have hbN := bthen HNOW.out hb10; clear hb10 HNOW))
  obtain ⟨hnow, y0, y1, y2, y3, y4⟩ := ‹Hid (Below w1.heap.size w1 _) ∧ _›
  clear hw1 hw2 hw3 hm2 hm3 hm4
  go_wp2_with fail
  refine (byteOf_int p _ hp1 (by omega)).mono ?_
  rintro e w2 ⟨rfl, hb2⟩
  have hb3 := bthen hnow.out hb2
  clear hb2 y0 y1 y2 y3 y4
  go_wp2_with fail
  refine (fitText_any _ _).mono ?_
  rintro e w3 ⟨rfl, hb4⟩
  have HB := hide (bthen HBW.out (bthen hb3 hb4))
  clear hb3 hb4
  go_wp2
  go_ret2
  exact ⟨rfl, HB.out⟩

end Go.Proofs.Ytjnpndfpajjihaa
