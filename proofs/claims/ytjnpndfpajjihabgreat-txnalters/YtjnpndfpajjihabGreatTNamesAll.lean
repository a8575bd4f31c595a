/-
  A text as a block, as plain data.
  The walk of disk.Fit.
  The walk of a statement's own names: package txn answers at all.
  The walk of wastebooklaw's own names: package txn answers at all.
-/
import Derived.Test.YtjnpndfpajjihabGreatBase
import Derived.Test.YtjnpndfpajjihabGreatShelf
import Derived.Test.YtjnpndfpajjihabGreatTChange
import Derived.Deep.RegionWith
import Derived.Test.YtjnpndfpajjihabGreatTNamed
import Derived.Test.YtjnpndfpajjihabGreatTBegin
namespace Go.Proofs.YtjnpndfpajjihabGreat

/-- A text as a block. -/
def fitL (s : ByteArray) : List UInt8 := s.data.toList.take 32 ++ List.replicate (32 - s.size) 0
def fitT (s : ByteArray) : ByteArray := ⟨(fitL s).toArray⟩

end Go.Proofs.YtjnpndfpajjihabGreat

namespace Go.Proofs.YtjnpndfpajjihabGreat
open Go.RowKit

theorem repeatL_one (c : Nat) : Lib.repeatL [(0 : UInt8)] c = List.replicate c 0 := by
  induction c with
  | zero => rfl
  | succ k ih => simp [Lib.repeatL, List.replicate_succ, ih]

theorem fit_long (s : ByteArray) (h : 32 ≤ s.size) : fitT s = s.extract 0 32 := by
  apply ByteArray.ext
  rw [fitT, fitL, show 32 - s.size = 0 from by omega]
  apply Array.ext'
  simp [ByteArray.data_extract]

theorem fit_short (s z : ByteArray) (h : ¬ 32 ≤ s.size) (hz : z = ⟨(List.replicate (32 - s.size) 0).toArray⟩) : fitT s = s ++ z := by
  apply ByteArray.ext
  rw [ByteArray.data_append, hz]
  apply Array.ext'
  have hl : s.data.toList.length = s.size := rfl
  simp only [fitT, fitL, Array.toList_append]
  rw [List.take_of_length_le (by omega)]

theorem noughts (c : Nat) (w : World) (hc : c ≤ 32) :
    Calls Tryz.prog 102 #[.string ⟨#[0]⟩, .int .i64 c] w fun e w' => ∃ z : ByteArray, e = .returned (.string z) ∧ z = ⟨(List.replicate c 0).toArray⟩ ∧ Below w.heap.size w w' := by
  refine (Tryz.strings_Repeat ⟨#[0]⟩ c w (by omega) (by show 1 * c ≤ _; omega)).mono ?_
  rintro e w1 ⟨rfl, hb⟩
  exact ⟨_, rfl, by rw [repeatL_one], hb⟩

set_option maxHeartbeats 1000000 in
theorem fit_any (s : ByteArray) (w : World) (hs : s.size ≤ maxLen) :
    Calls Tryz.prog 57 #[.string s] w fun e w' => e = .returned (.string (fitT s)) ∧ Below w.heap.size w w' := by
  unfold maxLen at hs
  by_cases h : 32 ≤ s.size
  · have h' : (32 : Int) ≤ (s.size : Int) := by omega
    go_enter Tryz.func57, Tryz.ntmps57
    go_wp2
    go_ret
    refine ⟨?_, Below.refl _ _⟩
    rw [fit_long s h]; rfl
  · have h' : ¬ (32 : Int) ≤ (s.size : Int) := by omega
    go_enter Tryz.func57, Tryz.ntmps57
    have e32 : (32 : Int) - (s.size : Int) = ((32 - s.size : Nat) : Int) := by omega
    have HE : Hid ((32 : Int) - (s.size : Int) = ((32 - s.size : Nat) : Int)) := e32
    clear e32
    go_wp2_with fail
    rw [HE.out]
    refine (noughts (32 - s.size) _ (by omega)).mono ?_
    rintro e w1 ⟨z, rfl, hz, hb1⟩
    have hz1 : z.size ≤ 32 := by rw [hz]; show (List.replicate (32 - s.size) (0 : UInt8)).toArray.size ≤ 32; simp
    have HZ : Hid (fitT s = s ++ z) := fit_short s z h hz
    clear hz
    go_wp2
    go_ret
    exact ⟨by rw [HZ.out]; rfl, hb1⟩


def tx0 : Tx := ⟨1, [], [], [], ⟨false, 0⟩, ⟨false, 0⟩, ⟨false, 0⟩⟩
theorem tx0_is (w : World) : IsTx w (.agg #[.int .i64 1, .slice none 0 0, .slice none 0 0, .slice none 0 0, .bool false, .int .i64 0, .bool false, .int .i64 0, .bool false, .int .i64 0]) tx0 := ⟨none, 0, none, 0, none, 0, rfl, .inl rfl, .inl rfl, .inl rfl, Nat.zero_le _, Nat.zero_le _, Nat.zero_le _⟩
theorem begin0 : beginE tx0 2 3 24 = 0 := by decide +kernel
theorem begin0T : beginT tx0 2 3 24 = { tx0 with h2 := ⟨true, 3⟩ } := by rw [beginT, begin0]; rfl
theorem change0 (s : ByteArray) (h : fitsB s = true) : changeE { tx0 with h2 := ⟨true, 3⟩ } 2 5 s = 0 := by
  rw [changeE, if_neg (by decide +kernel), if_neg (by rw [h]; simp), if_neg (by decide +kernel)]; decide +kernel
theorem change0T (s : ByteArray) (h : fitsB s = true) : changeT { tx0 with h2 := ⟨true, 3⟩ } 2 5 s = { tx0 with h2 := ⟨true, 2⟩, info := [(5, s)] } := by
  rw [changeT, if_pos (change0 s h)]; rfl
theorem fitT_fits (s : ByteArray) : fitsB (fitT s) = true := by
  have : (fitT s).size = 32 := by
    show (fitL s).toArray.size = 32
    have hl : s.data.toList.length = s.size := rfl
    simp only [fitL, List.size_toArray, List.length_append, List.length_take, List.length_replicate]
    omega
  simp [fitsB, this]


set_option maxHeartbeats 2000000 in
set_option maxRecDepth 100000 in
theorem namesL_any (w : World) :
    Calls Tryz.prog 15 #[] w fun e w' => e = .returned (.bool true) ∧ Below w.heap.size w w' := by
  go_enter Tryz.func15, Tryz.ntmps15
  go_wp2_with fail
  refine (tBegin_any _ tx0 2 3 24 _ (tx0_is _) (by decide) (by decide)).mono ?_
  rintro e w1 ⟨v1, rfl, hT1, hb1⟩
  rw [begin0]
  rw [begin0T] at hT1
  obtain ⟨t1, ht1⟩ : ∃ t1, t1 = ({ tx0 with h2 := ⟨true, 3⟩ } : Tx) := ⟨_, rfl⟩
  have HE1 := hide ht1
  rw [← ht1] at hT1
  clear ht1
  have HT1 := hide hT1
  obtain ⟨a, c, a', c', r, d, rfl, _, _, _, _, _, _⟩ := hT1
  have HB1 := hide hb1
  clear hb1
  obtain ⟨s, hss⟩ : ∃ s, s = fitT ⟨#[120]⟩ := ⟨_, rfl⟩
  have HC : Hid (∀ W, IsTx W (.agg #[.int .i64 t1.seq, .slice a t1.info.length c, .slice a' t1.data.length c', .slice r t1.rev.length d, .bool t1.h0.on, .int .i64 t1.h0.left, .bool t1.h1.on, .int .i64 t1.h1.left, .bool t1.h2.on, .int .i64 t1.h2.left]) t1 → Calls Tryz.prog 8 #[.agg #[.int .i64 t1.seq, .slice a t1.info.length c, .slice a' t1.data.length c', .slice r t1.rev.length d, .bool t1.h0.on, .int .i64 t1.h0.left, .bool t1.h1.on, .int .i64 t1.h1.left, .bool t1.h2.on, .int .i64 t1.h2.left], .int .i64 2, .int .i64 5, .string s] W fun e w' => ∃ v2 t2, e = .returned (.tuple #[v2, .int .i64 0]) ∧ IsTx w' v2 t2 ∧ (t2.info.length = 1 ∧ t2.h2.left = 2 ∧ openB t2 = true) ∧ Below W.heap.size W w') := by
    intro W hW
    have hs : fitsB s = true := by rw [hss]; exact fitT_fits _
    refine (tChange_any _ t1 2 5 s W hW (by rw [HE1.out]; decide) (by rw [HE1.out]; decide)).mono ?_
    rintro e w' ⟨v2, rfl, h2, h3⟩
    rw [HE1.out, change0T s hs] at h2
    exact ⟨v2, _, by rw [HE1.out, change0 s hs], h2, ⟨rfl, rfl, rfl⟩, h3⟩
  have HF : Hid (∀ W, Calls Tryz.prog 57 #[.string ⟨#[120]⟩] W fun e w' => e = .returned (.string s) ∧ Below W.heap.size W w') := by
    intro W
    have := fit_any ⟨#[120]⟩ W (by decide)
    rw [← hss] at this
    exact this
  clear hss
  go_wp2
  obtain ⟨w2, hw2⟩ : ∃ w2, w2 = w1.alloc (Obj.cells #[.int .i64 t1.seq, .slice a t1.info.length c, .slice a' t1.data.length c', .slice r t1.rev.length d, .bool t1.h0.on, .int .i64 t1.h0.left, .bool t1.h1.on, .int .i64 t1.h1.left, .bool t1.h2.on, .int .i64 t1.h2.left] 28) := ⟨_, rfl⟩
  have K1 : Hid (w2.heap[w1.heap.size]? = some (Obj.cells #[.int .i64 t1.seq, .slice a t1.info.length c, .slice a' t1.data.length c', .slice r t1.rev.length d, .bool t1.h0.on, .int .i64 t1.h0.left, .bool t1.h1.on, .int .i64 t1.h1.left, .bool t1.h2.on, .int .i64 t1.h2.left] 28 (0, 0))) := by rw [hw2]; exact heap_alloc_new w1 _
  have hs2 : w1.heap.size < w2.heap.size := by rw [hw2]; simp
  have HB2 : Hid (Below w1.heap.size w1 w2) := by rw [hw2]; exact below1 _ _
  have HT2 := hide (HT1.out.below HB2.out)
  rw [← hw2]
  clear hw2 HT1
  obtain ⟨⟨x0, x1, x2, x3, x4, x5, x6, x7, x8, x9⟩, ff⟩ := box10 K1.out
  go_region_with (first
    | (go_at_call 57; refine (HF.out _).mono ?_; rintro e w3 ⟨rfl, hb3⟩; have hs3 := (Nat.lt_of_lt_of_le hs2 hb3.size); have hb3' : Below w2.heap.size w2 w3 := ((Below.refl _ _).drew).trans hb3; obtain ⟨⟨y0, y1, y2, y3, y4, y5, y6, y7, y8, y9⟩, fg⟩ := box10 (boxKeep hb3 hs2 K1.out))
    | (go_at_call 8; refine (HC.out _ (HT2.out.below (by assumption))).mono ?_; rintro e w4 ⟨v2, t2, rfl, h2, hf2, hb4⟩; have HF2 := hide hf2; have HT4 := hide h2; clear hf2; obtain ⟨a2, c2, a3, c3, r2, d2, rfl, _, _, _, _, _, _⟩ := h2; have hs4 := (Nat.lt_of_lt_of_le hs3 hb4.size); have K4 := hide (boxKeep hb4 hs3 (boxKeep hb3 hs2 K1.out)); obtain ⟨⟨z0, z1, z2, z3, z4, z5, z6, z7, z8, z9⟩, fz⟩ := box10 K4.out; have HB4 := hide (bthen hb3' hb4)))
  all_goals
    have hl := HF2.out.1
    have hf := HF2.out.2.1
    have HO := hide HF2.out.2.2
    clear HT4 HF2
    go_wp2_with fail
    refine (tOpenV_any t2.seq a2 1 c2 a3 t2.data.length c3 r2 t2.rev.length d2 t2.h0 t2.h1 ⟨t2.h2.on, 2⟩ _).mono ?_
    rintro e w5 ⟨rfl, hb5⟩
    have HO' : Hid ((t2.h0.on || t2.h1.on || t2.h2.on) = true) := HO.out
    rw [show (t2.h0.on || t2.h1.on || (Hd.mk t2.h2.on 2).on) = true from HO'.out]
    go_wp2
    go_ret
    refine ⟨rfl, bthen HB1.out ?_⟩
    have hX : Below w1.heap.size w1 w4 := HB2.out.trans (HB4.out.mono (by omega))
    refine Below.trans ?_ (hb5.mono (by simp; omega))
    iterate 10 (refine Below.setCell ?_ (by simp) _)
    exact hX

end Go.Proofs.YtjnpndfpajjihabGreat
