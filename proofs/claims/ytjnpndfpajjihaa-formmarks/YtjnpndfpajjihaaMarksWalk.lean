/-
  The walk of the statement FormMarks.
-/
import Derived.Test.YtjnpndfpajjihaaSMarks
import Derived.Test.YtjnpndfpajjihaaSUnesc
import Derived.Test.YtjnpndfpajjihaaMCopy
import Derived.Test.YtjnpndfpajjihaaMDecode
import Derived.Test.YtjnpndfpajjihaaMEncode3
import Derived.Deep.RegionHeld
namespace Go.Proofs.Ytjnpndfpajjihaa
open Go.RowKit

set_option maxHeartbeats 4000000 in
set_option maxRecDepth 100000 in
theorem marks_walk (v : Value) (m : Mk) (w : World) (h : IsMk w v m) (h16 : m.tags.length * 16 ≤ 140737488355328) (h8 : m.blocks.length * 8 ≤ 140737488355328) :
    Calls Try.prog 7 #[v] w fun e w' => e = .returned (.bool true) ∧ Below w.heap.size w w' := by
  have HI := hide h
  obtain ⟨a, c, a', c', rfl, _, _, _, _⟩ := h
  have H8 : Hid (m.tags.length * 8 ≤ 140737488355328) := by unfold Hid; omega
  have H16 := hide h16
  have HB8 := hide h8
  clear h16 h8
  go_enter Try.func7, Try.ntmps7
  go_wp2_with fail
  refine (mark_any _ m _ (HI.out.below (below1 _ _)) H16.out HB8.out).mono ?_
  rintro e w1 ⟨v1, rfl, hd1, hb1⟩
  have HD1 := hide hd1
  clear hd1
  have hs1 : w.heap.size < w1.heap.size := by have := hb1.size; simp at this; omega
  have hk1 := keep0 hb1
  have HB1 := hide (bthen (below1 _ _) hb1)
  clear hb1
  go_wp2_with fail
  refine (stampEncode_any _ m _ HD1.out).mono ?_
  rintro e w2 ⟨rfl, hb2⟩
  have hs2 : w.heap.size < w2.heap.size := by have := hb2.size; omega
  have hk2 := (hb2.block _ hs1).trans hk1
  obtain ⟨⟨x0, x1, x2, x3, x4⟩, _⟩ := box5 hk2
  have HK2 := hide hk2
  have HB2 := hide (bthen HB1.out hb2)
  clear hb2 hk1 hk2 HB1 HD1
  go_wp2_with fail
  refine (encodeMark_any _ m _ (HI.out.below HB2.out) H8.out).mono ?_
  rintro e w3 ⟨rfl, hb3⟩
  have hs3 : w.heap.size < w3.heap.size := by have := hb3.size; omega
  have hk3 := (hb3.block _ hs2).trans HK2.out
  have HB3 := hide (bthen HB2.out hb3)
  clear hb3 x0 x1 x2 x3 x4
  generalize encT m = t
  have HALL : Hid (∀ w', Below w3.heap.size w3 w' → Hid (Below w3.heap.size w3 w') ∧ w'.cell? ⟨w.heap.size, 0, none⟩ = some (.int .i64 m.kind) ∧ w'.cell? ⟨w.heap.size, 1, none⟩ = some (.int .i64 m.seq) ∧ w'.cell? ⟨w.heap.size, 2, none⟩ = some (.int .i64 m.pos) ∧ w'.cell? ⟨w.heap.size, 3, none⟩ = some (.slice a m.tags.length c) ∧ w'.cell? ⟨w.heap.size, 4, none⟩ = some (.slice a' m.blocks.length c')) := by
    intro w' hb
    have := (box5 ((hb.block _ hs3).trans hk3)).1
    exact ⟨hb, this⟩
  have HI3 := hide (HI.out.below HB3.out)
  clear hk3 HK2 HB2
  generalize goodM m = g
  go_wp2
  go_region_held (fun w' => Hid (Below w3.heap.size w3 w') ∧ w'.cell? ⟨w.heap.size, 0, none⟩ = some (.int .i64 m.kind) ∧ w'.cell? ⟨w.heap.size, 1, none⟩ = some (.int .i64 m.seq) ∧ w'.cell? ⟨w.heap.size, 2, none⟩ = some (.int .i64 m.pos) ∧ w'.cell? ⟨w.heap.size, 3, none⟩ = some (.slice a m.tags.length c) ∧ w'.cell? ⟨w.heap.size, 4, none⟩ = some (.slice a' m.blocks.length c'))
    (first | exact HALL.out _ ((Below.refl _ _).drew) | (refine HALL.out _ ?_; assumption))
    (first
      | (go_at_call 35; (have hnow := (‹Hid (Below w3.heap.size w3 _) ∧ _›).1); have HNOW := hide hnow.out; refine (mark_any _ m _ ?_ ?_ ?_).mono ?_; exact HI3.out.below hnow.out; exact H16.out; exact HB8.out; clear hnow; rintro e w10 ⟨vn, rfl, hdn, hb10⟩; have hbN := bthen HNOW.out hb10; have HN0 := hide hdn; clear hdn; clear hb10 HNOW)
      | (go_at_call 37; (have hnow := (‹Hid (Below w3.heap.size w3 _) ∧ _›).1); have HNOW := hide hnow.out; refine (stampGood_any _ m _ ?_).mono ?_; exact HN0.out; clear hnow; rintro e w10 ⟨rfl, hb10⟩; have hbN := bthen HNOW.out hb10; clear hb10 HNOW)
      | (go_at_call 38; (have hnow := (‹Hid (Below w3.heap.size w3 _) ∧ _›).1); have HNOW := hide hnow.out; have HN1 := HN0; refine (goodMark_any _ m _ ?_ ?_).mono ?_; exact HI3.out.below hnow.out; exact H8.out; clear hnow; rintro e w10 ⟨rfl, hb10⟩; have hbN := bthen HNOW.out hb10; replace HN0 := hide (HN1.out.below hb10); clear HN1; clear hb10 HNOW)
      | (go_at_call 38; (have hnow := (‹Hid (Below w3.heap.size w3 _) ∧ _›).1); have HNOW := hide hnow.out; refine (goodMark_any _ m _ ?_ ?_).mono ?_; exact HI3.out.below hnow.out; exact H8.out; clear hnow; rintro e w10 ⟨rfl, hb10⟩; have hbN := bthen HNOW.out hb10; clear hb10 HNOW)
      | (go_at_call 39; (have hnow := (‹Hid (Below w3.heap.size w3 _) ∧ _›).1); have HNOW := hide hnow.out; refine (lawMarks_any _).mono ?_; clear hnow; rintro e w10 ⟨rfl, hb10⟩; have hbN := bthen HNOW.out hb10; clear hb10 HNOW))
  all_goals
    go_wp2
    go_ret
    refine ⟨rfl, bthen HB3.out ?_⟩
    assumption

end Go.Proofs.Ytjnpndfpajjihaa
