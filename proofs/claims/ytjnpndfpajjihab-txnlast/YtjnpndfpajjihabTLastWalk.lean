/-
  The walk of the statement TxnLast: it says true at every transaction, handle, block and texts.
-/
import Derived.Test.YtjnpndfpajjihabTOwn
import Derived.Test.YtjnpndfpajjihabTxBox
import Derived.Test.YtjnpndfpajjihabTKeep2
import Derived.Test.YtjnpndfpajjihabTFill
import Derived.Test.YtjnpndfpajjihabTRevoke
import Derived.Test.YtjnpndfpajjihabTNamesK
import Derived.Deep.CutRange
import Derived.Deep.RegionWith
namespace Go.Proofs.Ytjnpndfpajjihab
open Go.RowKit

theorem fitCall (s : ByteArray) (hs : s.size ≤ maxLen) : ∀ W, Calls Try.prog 34 #[.string s] W fun e w' => e = .returned (.string (fitT s)) ∧ Below W.heap.size W w' := fun W => fit_any s W hs

set_option maxHeartbeats 1000000 in
set_option maxRecDepth 100000 in
theorem last_no (v : Value) (t : Tx) (h b : Int) (s u : ByteArray) (w : World) (hT : IsTx w v t) (r1 : t.info.length * 24 ≤ 140737488355328) (r2 : t.data.length * 24 ≤ 140737488355328) (hs : s.size ≤ maxLen) (he : ¬ changeE t h b (fitT s) = 0) :
    Calls Try.prog 6 #[v, .int .i64 h, .int .i64 b, .string s, .string u] w fun e w' => e = .returned (.bool true) ∧ Below w.heap.size w w' := by
  have HT := hide hT
  obtain ⟨a0, a1, a2, a3, a4, a5, rfl, _, _, _, _, _, _⟩ := hT
  have HF := hide (fitCall s hs)
  have HE := hide he
  have HC : Hid (∀ W, IsTx W (.agg #[.int .i64 t.seq, .slice a0 t.info.length a1, .slice a2 t.data.length a3, .slice a4 t.rev.length a5, .bool t.h0.on, .int .i64 t.h0.left, .bool t.h1.on, .int .i64 t.h1.left, .bool t.h2.on, .int .i64 t.h2.left]) t → Calls Try.prog 33 #[.agg #[.int .i64 t.seq, .slice a0 t.info.length a1, .slice a2 t.data.length a3, .slice a4 t.rev.length a5, .bool t.h0.on, .int .i64 t.h0.left, .bool t.h1.on, .int .i64 t.h1.left, .bool t.h2.on, .int .i64 t.h2.left], .int .i64 h, .int .i64 b, .string (fitT s)] W fun e w' => ∃ v2, e = .returned (.tuple #[v2, .int .i64 (changeE t h b (fitT s))]) ∧ IsTx w' v2 (changeT t h b (fitT s)) ∧ True ∧ Below W.heap.size W w') :=
    fun W hW => (tChange_any _ t h b (fitT s) W hW r1 r2).mono fun _ _ ⟨v2, h1, h2, h3⟩ => ⟨v2, h1, h2, trivial, h3⟩
  clear he
  generalize changeE t h b (fitT s) = ce at *
  generalize changeT t h b (fitT s) = tc at *
  generalize fitT s = S at *
  go_enter Try.func6, Try.ntmps6
  go_upto_region 1 with fail
  obtain ⟨w1, hw1⟩ : ∃ w1, w1 = w.alloc (Obj.cells #[.int .i64 t.seq, .slice a0 t.info.length a1, .slice a2 t.data.length a3, .slice a4 t.rev.length a5, .bool t.h0.on, .int .i64 t.h0.left, .bool t.h1.on, .int .i64 t.h1.left, .bool t.h2.on, .int .i64 t.h2.left] 40) := ⟨_, rfl⟩
  have K0 : Hid (w1.heap[w.heap.size]? = some (Obj.cells #[.int .i64 t.seq, .slice a0 t.info.length a1, .slice a2 t.data.length a3, .slice a4 t.rev.length a5, .bool t.h0.on, .int .i64 t.h0.left, .bool t.h1.on, .int .i64 t.h1.left, .bool t.h2.on, .int .i64 t.h2.left] 40 (0, 0))) := by rw [hw1]; exact heap_alloc_new w _
  have hs0 : w.heap.size < w1.heap.size := by rw [hw1]; simp
  have HB1 : Hid (Below w.heap.size w w1) := by rw [hw1]; exact below1 _ _
  have HT1 := hide (HT.out.below HB1.out)
  rw [← hw1]
  clear hw1 HT
  go_cut [11, 12] from 25 to 33 (fun _ e wx => e = .int .i64 ce ∧ Hid (Below w.heap.size w wx))
  case first =>
    obtain ⟨⟨x0, x1, x2, x3, x4, x5, x6, x7, x8, x9⟩, _⟩ := box10 K0.out
    go_region_with (first
      | (go_at_call 34; refine (HF.out _).mono ?_; rintro e w3 ⟨rfl, hb3⟩; have hB3 : Below w1.heap.size w1 w3 := (by first | exact ((Below.refl _ _).drew).trans hb3 | exact ((Below.refl _ _).drew.alloc (Nat.le_refl _) _).trans (hb3.mono (by simp))); have hs3 := Nat.lt_of_lt_of_le hs0 hB3.size; obtain ⟨⟨x0, x1, x2, x3, x4, x5, x6, x7, x8, x9⟩, _⟩ := box10 (boxKeep hB3 hs0 K0.out); (first | (have KZ3 : Hid (w3.heap[w1.heap.size]? = some (.cells #[.int .i64 0, .slice none 0 0, .slice none 0 0, .slice none 0 0, .bool false, .int .i64 0, .bool false, .int .i64 0, .bool false, .int .i64 0] 40 (0, 0))) := one1 (w := w1.drew) (o := .cells #[.int .i64 0, .slice none 0 0, .slice none 0 0, .slice none 0 0, .bool false, .int .i64 0, .bool false, .int .i64 0, .bool false, .int .i64 0] 40) hb3) | skip))
      | (go_at_call 33; refine (HC.out _ (HT1.out.below (by first | exact hB3 | exact hB3.alloc hB3.size _))).mono ?_; rintro e w4 ⟨v2, rfl, h2, hf2, hb4⟩; have hB4 : Below w1.heap.size w1 w4 := (by first | exact hB3.trans (hb4.mono hB3.size) | exact (hB3.alloc hB3.size _).trans (hb4.mono (by simp; have := hB3.size; omega))); have hz3 := hB3.size; have hz4 := hb4.size; have HI4 := hide h2; have HR4 := hide hf2; clear hf2; obtain ⟨g0, g1, g2, g3, g4, g5, rfl, _, _, _, _, _, _⟩ := h2; (first | (have KZ4 : Hid (w4.heap[w3.heap.size]? = some (.cells #[.int .i64 0, .slice none 0 0, .slice none 0 0, .slice none 0 0, .bool false, .int .i64 0, .bool false, .int .i64 0, .bool false, .int .i64 0] 40 (0, 0))) := one1 (w := w3) (o := .cells #[.int .i64 0, .slice none 0 0, .slice none 0 0, .slice none 0 0, .bool false, .int .i64 0, .bool false, .int .i64 0, .bool false, .int .i64 0] 40) hb4; obtain ⟨⟨z0, z1, z2, z3, z4, z5, z6, z7, z8, z9⟩, zf⟩ := box10 KZ4.out) | (have KZ4 : Hid (w4.heap[w1.heap.size]? = some (.cells #[.int .i64 0, .slice none 0 0, .slice none 0 0, .slice none 0 0, .bool false, .int .i64 0, .bool false, .int .i64 0, .bool false, .int .i64 0] 40 (0, 0))) := boxKeep hb4 (Array.getElem?_eq_some_iff.1 KZ3.out).1 KZ3.out; obtain ⟨⟨z0, z1, z2, z3, z4, z5, z6, z7, z8, z9⟩, zf⟩ := box10 KZ4.out) | skip)))
    all_goals
      go_wp2_with fail
      go_meet
      refine ⟨rfl, hide ?_⟩
      have hB5 : Below w.heap.size w w4 := HB1.out.trans (hB4.mono (Nat.le_of_lt hs0))
      first
        | (with_reducible refine Below.alloc ?_ ?_ _; exact hB5; exact hB5.size)
        | (with_reducible refine Below.set10 ?_ ?_ _ _ _ _ _ _ _ _ _ _; exact hB5; omega)
  case rest =>
    obtain ⟨rfl, HB⟩ := hcut
    have hne := HE.out
    have hneb : (ce != 0) = true := by simpa using hne
    go_wp2_with fail
    refine (namesK_any _).mono ?_
    rintro e w5 ⟨rfl, hb5⟩
    go_wp2
    go_ret
    exact ⟨rfl, bthen HB.out hb5⟩

set_option maxHeartbeats 8000000 in
set_option maxRecDepth 100000 in
theorem last_ok (v : Value) (t : Tx) (h b : Int) (s u : ByteArray) (w : World) (hT : IsTx w v t) (r1 : t.info.length * 24 ≤ 140737488355328) (r2 : t.data.length * 24 ≤ 140737488355328) (hs : s.size ≤ maxLen) (hu : u.size ≤ maxLen) (he : changeE t h b (fitT s) = 0) :
    Calls Try.prog 6 #[v, .int .i64 h, .int .i64 b, .string s, .string u] w fun e w' => e = .returned (.bool true) ∧ Below w.heap.size w w' := by
  have HT := hide hT
  obtain ⟨a0, a1, a2, a3, a4, a5, rfl, _, _, _, _, _, _⟩ := hT
  have HF := hide (fitCall s hs)
  have HG := hide (fitCall u hu)
  have hX0 : changeT t h b (fitT s) = changeY t h b (fitT s) := by rw [changeT, if_pos he]
  have hgX := good_changeY he
  have hsm := good_small hgX
  obtain ⟨tX, eY, tY, aY, fF, eZ, tZ, aZ⟩ := last_facts he (fitT_fits u)
  have HC : Hid (∀ W, IsTx W (.agg #[.int .i64 t.seq, .slice a0 t.info.length a1, .slice a2 t.data.length a3, .slice a4 t.rev.length a5, .bool t.h0.on, .int .i64 t.h0.left, .bool t.h1.on, .int .i64 t.h1.left, .bool t.h2.on, .int .i64 t.h2.left]) t → Calls Try.prog 33 #[.agg #[.int .i64 t.seq, .slice a0 t.info.length a1, .slice a2 t.data.length a3, .slice a4 t.rev.length a5, .bool t.h0.on, .int .i64 t.h0.left, .bool t.h1.on, .int .i64 t.h1.left, .bool t.h2.on, .int .i64 t.h2.left], .int .i64 h, .int .i64 b, .string (fitT s)] W fun e w' => ∃ v2, e = .returned (.tuple #[v2, .int .i64 0]) ∧ IsTx w' v2 (changeY t h b (fitT s)) ∧ (v2 = .agg #[.int .i64 t.seq, .slice a0 t.info.length a1, .slice a2 t.data.length a3, .slice a4 t.rev.length a5, .bool t.h0.on, .int .i64 t.h0.left, .bool t.h1.on, .int .i64 t.h1.left, .bool t.h2.on, .int .i64 t.h2.left] ∨ RowsFrom W.heap.size v2 (changeY t h b (fitT s))) ∧ Below W.heap.size W w') :=
    fun W hW => (tChange_all _ t h b (fitT s) W hW r1 r2).mono fun _ _ ⟨v2, h1, h2, h3, h4⟩ => by rw [he] at h1; rw [hX0] at h2 h4; exact ⟨v2, h1, h2, h4, h3⟩
  obtain ⟨X, hXX⟩ : ∃ X, X = changeY t h b (fitT s) := ⟨_, rfl⟩
  rw [← hXX] at HC tX eY tY aY fF eZ tZ aZ hsm hgX
  have hY0 : changeT X h b (fitT u) = changeY X h b (fitT u) := by rw [changeT, if_pos eY]
  have hZ0 : revokeT X h b = revokeY X h b := by rw [revokeT, if_pos eZ]
  have hW0 : fillT X h b (fitT u) = X := by rw [fillT, if_neg (by rw [fF]; decide)]
  have HCY : Hid (∀ (c0 c2 c4 : Option Addr) (c1 c3 c5 : Nat), ∀ W, IsTx W (.agg #[.int .i64 X.seq, .slice c0 X.info.length c1, .slice c2 X.data.length c3, .slice c4 X.rev.length c5, .bool X.h0.on, .int .i64 X.h0.left, .bool X.h1.on, .int .i64 X.h1.left, .bool X.h2.on, .int .i64 X.h2.left]) X → Calls Try.prog 33 #[.agg #[.int .i64 X.seq, .slice c0 X.info.length c1, .slice c2 X.data.length c3, .slice c4 X.rev.length c5, .bool X.h0.on, .int .i64 X.h0.left, .bool X.h1.on, .int .i64 X.h1.left, .bool X.h2.on, .int .i64 X.h2.left], .int .i64 h, .int .i64 b, .string (fitT u)] W fun e w' => ∃ v2, e = .returned (.tuple #[v2, .int .i64 0]) ∧ IsTx w' v2 (changeY X h b (fitT u)) ∧ (v2 = .agg #[.int .i64 X.seq, .slice c0 X.info.length c1, .slice c2 X.data.length c3, .slice c4 X.rev.length c5, .bool X.h0.on, .int .i64 X.h0.left, .bool X.h1.on, .int .i64 X.h1.left, .bool X.h2.on, .int .i64 X.h2.left] ∨ RowsFrom W.heap.size v2 (changeY X h b (fitT u))) ∧ Below W.heap.size W w') :=
    fun c0 c2 c4 c1 c3 c5 W hW => (tChange_all _ X h b (fitT u) W hW (by omega) (by omega)).mono fun _ _ ⟨v2, h1, h2, h3, h4⟩ => by rw [eY] at h1; rw [hY0] at h2 h4; exact ⟨v2, h1, h2, h4, h3⟩
  have HCF : Hid (∀ (c0 c2 c4 : Option Addr) (c1 c3 c5 : Nat), ∀ W, IsTx W (.agg #[.int .i64 X.seq, .slice c0 X.info.length c1, .slice c2 X.data.length c3, .slice c4 X.rev.length c5, .bool X.h0.on, .int .i64 X.h0.left, .bool X.h1.on, .int .i64 X.h1.left, .bool X.h2.on, .int .i64 X.h2.left]) X → Calls Try.prog 36 #[.agg #[.int .i64 X.seq, .slice c0 X.info.length c1, .slice c2 X.data.length c3, .slice c4 X.rev.length c5, .bool X.h0.on, .int .i64 X.h0.left, .bool X.h1.on, .int .i64 X.h1.left, .bool X.h2.on, .int .i64 X.h2.left], .int .i64 h, .int .i64 b, .string (fitT u)] W fun e w' => ∃ v2, e = .returned (.tuple #[v2, .int .i64 8]) ∧ IsTx w' v2 X ∧ (v2 = .agg #[.int .i64 X.seq, .slice c0 X.info.length c1, .slice c2 X.data.length c3, .slice c4 X.rev.length c5, .bool X.h0.on, .int .i64 X.h0.left, .bool X.h1.on, .int .i64 X.h1.left, .bool X.h2.on, .int .i64 X.h2.left] ∨ RowsFrom W.heap.size v2 X) ∧ Below W.heap.size W w') :=
    fun c0 c2 c4 c1 c3 c5 W hW => (tFill_all _ X h b (fitT u) W hW (by omega) (by omega)).mono fun _ _ ⟨v2, h1, h2, h3, h4⟩ => by rw [fF] at h1; rw [hW0] at h2 h4; exact ⟨v2, h1, h2, h4, h3⟩
  have HCZ : Hid (∀ W v, IsTx W v X → Calls Try.prog 37 #[v, .int .i64 h, .int .i64 b] W fun e w' => ∃ v2, e = .returned (.tuple #[v2, .int .i64 0]) ∧ IsTx w' v2 (revokeY X h b) ∧ Below W.heap.size W w') :=
    fun W v hW => (tRevoke_any v X h b W hW (by omega) (by omega)).mono fun _ _ ⟨v2, h1, h2, h3⟩ => by rw [eZ] at h1; rw [hZ0] at h2; exact ⟨v2, h1, h2, h3⟩
  have HtX := hide tX
  have HtY := hide tY
  have HtZ := hide tZ
  have HaY := hide aY
  have HaZ := hide aZ
  clear he hX0 hgX hsm tX eY tY aY fF eZ tZ aZ hY0 hZ0 hW0 hXX
  generalize changeY X h b (fitT u) = Y at *
  generalize revokeY X h b = Z at *
  generalize fitT s = S at *
  generalize fitT u = U at *
  go_enter Try.func6, Try.ntmps6
  go_upto_region 1 with fail
  obtain ⟨w1, hw1⟩ : ∃ w1, w1 = w.alloc (Obj.cells #[.int .i64 t.seq, .slice a0 t.info.length a1, .slice a2 t.data.length a3, .slice a4 t.rev.length a5, .bool t.h0.on, .int .i64 t.h0.left, .bool t.h1.on, .int .i64 t.h1.left, .bool t.h2.on, .int .i64 t.h2.left] 40) := ⟨_, rfl⟩
  have K0 : Hid (w1.heap[w.heap.size]? = some (Obj.cells #[.int .i64 t.seq, .slice a0 t.info.length a1, .slice a2 t.data.length a3, .slice a4 t.rev.length a5, .bool t.h0.on, .int .i64 t.h0.left, .bool t.h1.on, .int .i64 t.h1.left, .bool t.h2.on, .int .i64 t.h2.left] 40 (0, 0))) := by rw [hw1]; exact heap_alloc_new w _
  have hs0 : w.heap.size < w1.heap.size := by rw [hw1]; simp
  have HB1 : Hid (Below w.heap.size w w1) := by rw [hw1]; exact below1 _ _
  have HT1 := hide (HT.out.below HB1.out)
  rw [← hw1]
  clear hw1 HT
  go_cut [11, 12] from 25 to 33 (fun p e wx => ∃ B : Nat, p = .pointer (some ⟨B, 0, none⟩) ∧ e = .int .i64 0 ∧ Hid (TxBox wx B X) ∧ Hid (Below w.heap.size w wx))
  case first =>
    obtain ⟨⟨x0, x1, x2, x3, x4, x5, x6, x7, x8, x9⟩, _⟩ := box10 K0.out
    go_region_with (first
      | (go_at_call 34; refine (HF.out _).mono ?_; rintro e w3 ⟨rfl, hb3⟩; have hB3 : Below w1.heap.size w1 w3 := (by first | exact ((Below.refl _ _).drew).trans hb3 | exact ((Below.refl _ _).drew.alloc (Nat.le_refl _) _).trans (hb3.mono (by simp))); have hs3 := Nat.lt_of_lt_of_le hs0 hB3.size; obtain ⟨⟨x0, x1, x2, x3, x4, x5, x6, x7, x8, x9⟩, _⟩ := box10 (boxKeep hB3 hs0 K0.out); (first | (have KZ3 : Hid (w3.heap[w1.heap.size]? = some (.cells #[.int .i64 0, .slice none 0 0, .slice none 0 0, .slice none 0 0, .bool false, .int .i64 0, .bool false, .int .i64 0, .bool false, .int .i64 0] 40 (0, 0))) := one1 (w := w1.drew) (o := .cells #[.int .i64 0, .slice none 0 0, .slice none 0 0, .slice none 0 0, .bool false, .int .i64 0, .bool false, .int .i64 0, .bool false, .int .i64 0] 40) hb3) | skip))
      | (go_at_call 33; refine (HC.out _ (HT1.out.below (by first | exact hB3 | exact hB3.alloc hB3.size _))).mono ?_; rintro e w4 ⟨v2, rfl, h2, hf2, hb4⟩; have hB4 : Below w1.heap.size w1 w4 := (by first | exact hB3.trans (hb4.mono hB3.size) | exact (hB3.alloc hB3.size _).trans (hb4.mono (by simp; have := hB3.size; omega))); have hz3 := hB3.size; have hz4 := hb4.size; have HI4 := hide h2; have HR4 := hide hf2; clear hf2; obtain ⟨g0, g1, g2, g3, g4, g5, rfl, _, _, _, _, _, _⟩ := h2; (first | (have KZ4 : Hid (w4.heap[w3.heap.size]? = some (.cells #[.int .i64 0, .slice none 0 0, .slice none 0 0, .slice none 0 0, .bool false, .int .i64 0, .bool false, .int .i64 0, .bool false, .int .i64 0] 40 (0, 0))) := one1 (w := w3) (o := .cells #[.int .i64 0, .slice none 0 0, .slice none 0 0, .slice none 0 0, .bool false, .int .i64 0, .bool false, .int .i64 0, .bool false, .int .i64 0] 40) hb4; obtain ⟨⟨z0, z1, z2, z3, z4, z5, z6, z7, z8, z9⟩, zf⟩ := box10 KZ4.out) | (have KZ4 : Hid (w4.heap[w1.heap.size]? = some (.cells #[.int .i64 0, .slice none 0 0, .slice none 0 0, .slice none 0 0, .bool false, .int .i64 0, .bool false, .int .i64 0, .bool false, .int .i64 0] 40 (0, 0))) := boxKeep hb4 (Array.getElem?_eq_some_iff.1 KZ3.out).1 KZ3.out; obtain ⟨⟨z0, z1, z2, z3, z4, z5, z6, z7, z8, z9⟩, zf⟩ := box10 KZ4.out) | skip)))
    all_goals
      go_wp2_with fail
      go_meet
      have hB5 : Below w.heap.size w w4 := HB1.out.trans (hB4.mono (Nat.le_of_lt hs0))
      refine ⟨_, rfl, rfl, hide ?_, hide ?_⟩
      · first
          | (with_reducible refine TxBox.made ?_; exact HI4.out)
                | (with_reducible refine TxBox.put HI4.out HR4.out HT1.out ?_ ?_ KZ4.out; exact hz3; simp)
          | (with_reducible refine TxBox.put HI4.out HR4.out HT1.out ?_ ?_ KZ4.out; exact Nat.le_refl _; simp; omega)
          | (with_reducible refine TxBox.put HI4.out HR4.out HT1.out ?_ ?_ KZ4.out; exact Nat.le_refl _; exact (Array.getElem?_eq_some_iff.1 KZ3.out).1)
      · first
          | (with_reducible refine Below.alloc ?_ ?_ _; exact hB5; exact hB5.size)
          | (with_reducible refine Below.set10 ?_ ?_ _ _ _ _ _ _ _ _ _ _; exact hB5; omega)
  case rest =>
    obtain ⟨BX, rfl, rfl, TX, HB⟩ := hcut
    obtain ⟨w2, rfl⟩ : ∃ w2, w2 = wc := ⟨_, rfl⟩
    have hlX := TX.out.lt
    obtain ⟨c0, c1, c2, c3, c4, c5, KX0, HX0⟩ := TX.out
    have KX := hide KX0
    have HX := hide HX0
    clear KX0 HX0 TX K0 HT1 HB1 HC
    obtain ⟨⟨x0, x1, x2, x3, x4, x5, x6, x7, x8, x9⟩, _⟩ := box10 KX.out
    go_wp2_with fail
    refine (namesK_any _).mono ?_
    rintro e w3 ⟨rfl, hb3⟩
    clear x0 x1 x2 x3 x4 x5 x6 x7 x8 x9
    replace HX := hide (HX.out.below hb3)
    replace KX := hide (boxKeep hb3 hlX KX.out)
    replace hlX := Nat.lt_of_lt_of_le hlX hb3.size
    replace HB := hide (bthen HB.out hb3)
    clear hb3
    obtain ⟨⟨x0, x1, x2, x3, x4, x5, x6, x7, x8, x9⟩, _⟩ := box10 KX.out
    go_wp2_with fail
    refine (tGet_any c0 c1 X.info b _ HX.out.seg.1 HX.out.seg.2.1).mono ?_
    rintro e w4 ⟨rfl, hb4⟩
    rw [HtX.out]
    clear x0 x1 x2 x3 x4 x5 x6 x7 x8 x9
    replace HX := hide (HX.out.below hb4)
    replace KX := hide (boxKeep hb4 hlX KX.out)
    replace hlX := Nat.lt_of_lt_of_le hlX hb4.size
    replace HB := hide (bthen HB.out hb4)
    clear hb4
    go_upto_region 5 with fail
    have HCY1 := hide (HCY.out c0 c2 c4 c1 c3 c5)
    have HCF1 := hide (HCF.out c0 c2 c4 c1 c3 c5)
    clear HCY HCF
    obtain ⟨w1, rfl⟩ : ∃ w1, w1 = w4 := ⟨_, rfl⟩
    go_cut [15, 16] from 48 to 56 (fun p e wx => ∃ B : Nat, p = .pointer (some ⟨B, 0, none⟩) ∧ e = .int .i64 0 ∧ Hid (TxBox wx B Y) ∧ Hid (Below w1.heap.size w1 wx))
    case first =>
      obtain ⟨⟨x0, x1, x2, x3, x4, x5, x6, x7, x8, x9⟩, _⟩ := box10 KX.out
      go_region_with (first
        | (go_at_call 34; refine (HG.out _).mono ?_; rintro e w3 ⟨rfl, hb3⟩; have hB3 : Below w1.heap.size w1 w3 := (by first | exact ((Below.refl _ _).drew).trans hb3 | exact ((Below.refl _ _).drew.alloc (Nat.le_refl _) _).trans (hb3.mono (by simp))); have hs3 := Nat.lt_of_lt_of_le hlX hB3.size; obtain ⟨⟨x0, x1, x2, x3, x4, x5, x6, x7, x8, x9⟩, _⟩ := box10 (boxKeep hB3 hlX KX.out); (first | (have KZ3 : Hid (w3.heap[w1.heap.size]? = some (.cells #[.int .i64 0, .slice none 0 0, .slice none 0 0, .slice none 0 0, .bool false, .int .i64 0, .bool false, .int .i64 0, .bool false, .int .i64 0] 40 (0, 0))) := one1 (w := w1.drew) (o := .cells #[.int .i64 0, .slice none 0 0, .slice none 0 0, .slice none 0 0, .bool false, .int .i64 0, .bool false, .int .i64 0, .bool false, .int .i64 0] 40) hb3) | skip))
        | (go_at_call 33; refine (HCY1.out _ (HX.out.below (by first | exact hB3 | exact hB3.alloc hB3.size _))).mono ?_; rintro e w4 ⟨v2, rfl, h2, hf2, hb4⟩; have hB4 : Below w1.heap.size w1 w4 := (by first | exact hB3.trans (hb4.mono hB3.size) | exact (hB3.alloc hB3.size _).trans (hb4.mono (by simp; have := hB3.size; omega))); have hz3 := hB3.size; have hz4 := hb4.size; have HI4 := hide h2; have HR4 := hide hf2; clear hf2; obtain ⟨g0, g1, g2, g3, g4, g5, rfl, _, _, _, _, _, _⟩ := h2; (first | (have KZ4 : Hid (w4.heap[w3.heap.size]? = some (.cells #[.int .i64 0, .slice none 0 0, .slice none 0 0, .slice none 0 0, .bool false, .int .i64 0, .bool false, .int .i64 0, .bool false, .int .i64 0] 40 (0, 0))) := one1 (w := w3) (o := .cells #[.int .i64 0, .slice none 0 0, .slice none 0 0, .slice none 0 0, .bool false, .int .i64 0, .bool false, .int .i64 0, .bool false, .int .i64 0] 40) hb4; obtain ⟨⟨z0, z1, z2, z3, z4, z5, z6, z7, z8, z9⟩, zf⟩ := box10 KZ4.out) | (have KZ4 : Hid (w4.heap[w1.heap.size]? = some (.cells #[.int .i64 0, .slice none 0 0, .slice none 0 0, .slice none 0 0, .bool false, .int .i64 0, .bool false, .int .i64 0, .bool false, .int .i64 0] 40 (0, 0))) := boxKeep hb4 (Array.getElem?_eq_some_iff.1 KZ3.out).1 KZ3.out; obtain ⟨⟨z0, z1, z2, z3, z4, z5, z6, z7, z8, z9⟩, zf⟩ := box10 KZ4.out) | skip)))
      all_goals
        go_wp2_with fail
        go_meet
        refine ⟨_, rfl, rfl, hide ?_, hide ?_⟩
        · first
            | (with_reducible refine TxBox.made ?_; exact HI4.out)
            | (with_reducible refine TxBox.put HI4.out HR4.out HX.out ?_ ?_ KZ4.out; exact hz3; simp)
            | (with_reducible refine TxBox.put HI4.out HR4.out HX.out ?_ ?_ KZ4.out; exact Nat.le_refl _; exact (Array.getElem?_eq_some_iff.1 KZ3.out).1)
        · first
            | (with_reducible refine Below.alloc ?_ ?_ _; exact hB4; exact hB4.size)
            | (with_reducible refine Below.set10 ?_ ?_ _ _ _ _ _ _ _ _ _ _; exact hB4; omega)
    case rest =>
      obtain ⟨BY, rfl, rfl, TY, hb5⟩ := hcut
      obtain ⟨w5, rfl⟩ : ∃ w5, w5 = wc := ⟨_, rfl⟩
      have hlY := TY.out.lt
      obtain ⟨d0, d1, d2, d3, d4, d5, KY0, HY0⟩ := TY.out
      have KY := hide KY0
      have HY := hide HY0
      replace HX := hide (HX.out.below hb5.out)
      replace KX := hide (boxKeep hb5.out hlX KX.out)
      replace hlX := Nat.lt_of_lt_of_le hlX hb5.out.size
      replace HB := hide (bthen HB.out hb5.out)
      clear KY0 HY0 TY hb5 HCY1
      obtain ⟨⟨y0, y1, y2, y3, y4, y5, y6, y7, y8, y9⟩, _⟩ := box10 KY.out
      go_wp2_with fail
      refine (tGet_any d0 d1 Y.info b _ HY.out.seg.1 HY.out.seg.2.1).mono ?_
      rintro e w6 ⟨rfl, hb6⟩
      rw [HtY.out]
      clear y0 y1 y2 y3 y4 y5 y6 y7 y8 y9
      replace HX := hide (HX.out.below hb6)
      replace KX := hide (boxKeep hb6 hlX KX.out)
      replace hlX := Nat.lt_of_lt_of_le hlX hb6.size
      replace HY := hide (HY.out.below hb6)
      replace KY := hide (boxKeep hb6 hlY KY.out)
      replace hlY := Nat.lt_of_lt_of_le hlY hb6.size
      replace HB := hide (bthen HB.out hb6)
      clear hb6
      go_upto_region 7 with fail
      obtain ⟨w1, rfl⟩ : ∃ w1, w1 = w6 := ⟨_, rfl⟩
      go_cut [19, 20] from 64 to 72 (fun _ e wx => e = .int .i64 8 ∧ Hid (Below w1.heap.size w1 wx))
      case first =>
        obtain ⟨⟨x0, x1, x2, x3, x4, x5, x6, x7, x8, x9⟩, _⟩ := box10 KX.out
        go_region_with (first
          | (go_at_call 34; refine (HG.out _).mono ?_; rintro e w3 ⟨rfl, hb3⟩; have hB3 : Below w1.heap.size w1 w3 := (by first | exact ((Below.refl _ _).drew).trans hb3 | exact ((Below.refl _ _).drew.alloc (Nat.le_refl _) _).trans (hb3.mono (by simp))); have hs3 := Nat.lt_of_lt_of_le hlX hB3.size; obtain ⟨⟨x0, x1, x2, x3, x4, x5, x6, x7, x8, x9⟩, _⟩ := box10 (boxKeep hB3 hlX KX.out); (first | (have KZ3 : Hid (w3.heap[w1.heap.size]? = some (.cells #[.int .i64 0, .slice none 0 0, .slice none 0 0, .slice none 0 0, .bool false, .int .i64 0, .bool false, .int .i64 0, .bool false, .int .i64 0] 40 (0, 0))) := one1 (w := w1.drew) (o := .cells #[.int .i64 0, .slice none 0 0, .slice none 0 0, .slice none 0 0, .bool false, .int .i64 0, .bool false, .int .i64 0, .bool false, .int .i64 0] 40) hb3) | skip))
          | (go_at_call 36; refine (HCF1.out _ (HX.out.below (by first | exact hB3 | exact hB3.alloc hB3.size _))).mono ?_; rintro e w4 ⟨v2, rfl, h2, hf2, hb4⟩; have hB4 : Below w1.heap.size w1 w4 := (by first | exact hB3.trans (hb4.mono hB3.size) | exact (hB3.alloc hB3.size _).trans (hb4.mono (by simp; have := hB3.size; omega))); have hz3 := hB3.size; have hz4 := hb4.size; have HI4 := hide h2; have HR4 := hide hf2; clear hf2; obtain ⟨g0, g1, g2, g3, g4, g5, rfl, _, _, _, _, _, _⟩ := h2; (first | (have KZ4 : Hid (w4.heap[w3.heap.size]? = some (.cells #[.int .i64 0, .slice none 0 0, .slice none 0 0, .slice none 0 0, .bool false, .int .i64 0, .bool false, .int .i64 0, .bool false, .int .i64 0] 40 (0, 0))) := one1 (w := w3) (o := .cells #[.int .i64 0, .slice none 0 0, .slice none 0 0, .slice none 0 0, .bool false, .int .i64 0, .bool false, .int .i64 0, .bool false, .int .i64 0] 40) hb4; obtain ⟨⟨z0, z1, z2, z3, z4, z5, z6, z7, z8, z9⟩, zf⟩ := box10 KZ4.out) | (have KZ4 : Hid (w4.heap[w1.heap.size]? = some (.cells #[.int .i64 0, .slice none 0 0, .slice none 0 0, .slice none 0 0, .bool false, .int .i64 0, .bool false, .int .i64 0, .bool false, .int .i64 0] 40 (0, 0))) := boxKeep hb4 (Array.getElem?_eq_some_iff.1 KZ3.out).1 KZ3.out; obtain ⟨⟨z0, z1, z2, z3, z4, z5, z6, z7, z8, z9⟩, zf⟩ := box10 KZ4.out) | skip)))
        all_goals
          go_wp2_with fail
          go_meet
          refine ⟨rfl, hide ?_⟩
          first
            | (with_reducible refine Below.alloc ?_ ?_ _; exact hB4; exact hB4.size)
            | (with_reducible refine Below.set10 ?_ ?_ _ _ _ _ _ _ _ _ _ _; exact hB4; omega)
      case rest =>
        obtain ⟨rfl, hb7⟩ := hcut
        obtain ⟨w7, rfl⟩ : ∃ w7, w7 = wc := ⟨_, rfl⟩
        replace HX := hide (HX.out.below hb7.out)
        replace KX := hide (boxKeep hb7.out hlX KX.out)
        replace hlX := Nat.lt_of_lt_of_le hlX hb7.out.size
        replace HY := hide (HY.out.below hb7.out)
        replace KY := hide (boxKeep hb7.out hlY KY.out)
        replace hlY := Nat.lt_of_lt_of_le hlY hb7.out.size
        replace HB := hide (bthen HB.out hb7.out)
        clear hb7 HCF1
        obtain ⟨⟨x0, x1, x2, x3, x4, x5, x6, x7, x8, x9⟩, _⟩ := box10 KX.out
        go_wp2_with fail
        refine (HCZ.out _ _ HX.out).mono ?_
        rintro e w8 ⟨v8, rfl, h8, hb8⟩
        have HZ := hide h8
        obtain ⟨e0, e1, e2, e3, e4, e5, rfl, _, _, _, _, _, _⟩ := h8
        clear x0 x1 x2 x3 x4 x5 x6 x7 x8 x9
        replace HX := hide (HX.out.below hb8)
        replace KX := hide (boxKeep hb8 hlX KX.out)
        replace hlX := Nat.lt_of_lt_of_le hlX hb8.size
        replace HY := hide (HY.out.below hb8)
        replace KY := hide (boxKeep hb8 hlY KY.out)
        replace hlY := Nat.lt_of_lt_of_le hlY hb8.size
        replace HB := hide (bthen HB.out hb8)
        clear hb8 HCZ
        go_wp2_with fail
        refine (tGet_any e0 e1 Z.info b _ (HZ.out.seg.1.below (below1 _ _)) HZ.out.seg.2.1).mono ?_
        rintro e w9 ⟨rfl, hb9⟩
        rw [HtZ.out]
        have KZ := hide (one1 hb9)
        have hlZ : w8.heap.size < w9.heap.size := by have := hb9.size; simp at this; omega
        have hS := bthen (below1 _ _) hb9
        replace HX := hide (HX.out.below hS)
        replace KX := hide (boxKeep hS hlX KX.out)
        replace hlX := Nat.lt_of_lt_of_le hlX hS.size
        replace HY := hide (HY.out.below hS)
        replace KY := hide (boxKeep hS hlY KY.out)
        replace hlY := Nat.lt_of_lt_of_le hlY hS.size
        replace HZ := hide (HZ.out.below hS)
        replace HB := hide (bthen HB.out hS)
        clear hb9 hS
        have HAX : Hid (∀ W v, IsTx W v X → Calls Try.prog 24 #[v] W fun e w' => e = .returned (.int .i64 (askedN X)) ∧ Below W.heap.size W w') := fun W v hW => tAsked_any v X W hW
        have HAY : Hid (∀ W v, IsTx W v Y → Calls Try.prog 24 #[v] W fun e w' => e = .returned (.int .i64 (askedN X)) ∧ Below W.heap.size W w') := fun W v hW => by have := tAsked_any v Y W hW; rw [HaY.out] at this; exact this
        have HAZ : Hid (∀ W v, IsTx W v Z → Calls Try.prog 24 #[v] W fun e w' => e = .returned (.int .i64 (askedN X)) ∧ Below W.heap.size W w') := fun W v hW => by have := tAsked_any v Z W hW; rw [HaZ.out] at this; exact this
        clear HaY HaZ
        generalize askedN X = q at *
        go_wp2
        have HALL : Hid (∀ w', Below w9.heap.size w9 w' → Hid (Below w9.heap.size w9 w') ∧ w'.cell? ⟨BX, 0, none⟩ = some (.int .i64 X.seq) ∧ w'.cell? ⟨BX, 1, none⟩ = some (.slice c0 X.info.length c1) ∧ w'.cell? ⟨BX, 2, none⟩ = some (.slice c2 X.data.length c3) ∧ w'.cell? ⟨BX, 3, none⟩ = some (.slice c4 X.rev.length c5) ∧ w'.cell? ⟨BX, 4, none⟩ = some (.bool X.h0.on) ∧ w'.cell? ⟨BX, 5, none⟩ = some (.int .i64 X.h0.left) ∧ w'.cell? ⟨BX, 6, none⟩ = some (.bool X.h1.on) ∧ w'.cell? ⟨BX, 7, none⟩ = some (.int .i64 X.h1.left) ∧ w'.cell? ⟨BX, 8, none⟩ = some (.bool X.h2.on) ∧ w'.cell? ⟨BX, 9, none⟩ = some (.int .i64 X.h2.left) ∧ w'.cell? ⟨BY, 0, none⟩ = some (.int .i64 Y.seq) ∧ w'.cell? ⟨BY, 1, none⟩ = some (.slice d0 Y.info.length d1) ∧ w'.cell? ⟨BY, 2, none⟩ = some (.slice d2 Y.data.length d3) ∧ w'.cell? ⟨BY, 3, none⟩ = some (.slice d4 Y.rev.length d5) ∧ w'.cell? ⟨BY, 4, none⟩ = some (.bool Y.h0.on) ∧ w'.cell? ⟨BY, 5, none⟩ = some (.int .i64 Y.h0.left) ∧ w'.cell? ⟨BY, 6, none⟩ = some (.bool Y.h1.on) ∧ w'.cell? ⟨BY, 7, none⟩ = some (.int .i64 Y.h1.left) ∧ w'.cell? ⟨BY, 8, none⟩ = some (.bool Y.h2.on) ∧ w'.cell? ⟨BY, 9, none⟩ = some (.int .i64 Y.h2.left) ∧ w'.cell? ⟨w8.heap.size, 0, none⟩ = some (.int .i64 Z.seq) ∧ w'.cell? ⟨w8.heap.size, 1, none⟩ = some (.slice e0 Z.info.length e1) ∧ w'.cell? ⟨w8.heap.size, 2, none⟩ = some (.slice e2 Z.data.length e3) ∧ w'.cell? ⟨w8.heap.size, 3, none⟩ = some (.slice e4 Z.rev.length e5) ∧ w'.cell? ⟨w8.heap.size, 4, none⟩ = some (.bool Z.h0.on) ∧ w'.cell? ⟨w8.heap.size, 5, none⟩ = some (.int .i64 Z.h0.left) ∧ w'.cell? ⟨w8.heap.size, 6, none⟩ = some (.bool Z.h1.on) ∧ w'.cell? ⟨w8.heap.size, 7, none⟩ = some (.int .i64 Z.h1.left) ∧ w'.cell? ⟨w8.heap.size, 8, none⟩ = some (.bool Z.h2.on) ∧ w'.cell? ⟨w8.heap.size, 9, none⟩ = some (.int .i64 Z.h2.left)) := by
          intro w' hb
          obtain ⟨⟨x0, x1, x2, x3, x4, x5, x6, x7, x8, x9⟩, _⟩ := box10 (boxKeep hb hlX KX.out)
          obtain ⟨⟨y0, y1, y2, y3, y4, y5, y6, y7, y8, y9⟩, _⟩ := box10 (boxKeep hb hlY KY.out)
          obtain ⟨⟨z0, z1, z2, z3, z4, z5, z6, z7, z8, z9⟩, _⟩ := box10 (boxKeep hb hlZ KZ.out)
          exact ⟨hb, x0, x1, x2, x3, x4, x5, x6, x7, x8, x9, y0, y1, y2, y3, y4, y5, y6, y7, y8, y9, z0, z1, z2, z3, z4, z5, z6, z7, z8, z9⟩
        go_region_held3 (fun w' => Hid (Below w9.heap.size w9 w') ∧ w'.cell? ⟨BX, 0, none⟩ = some (.int .i64 X.seq) ∧ w'.cell? ⟨BX, 1, none⟩ = some (.slice c0 X.info.length c1) ∧ w'.cell? ⟨BX, 2, none⟩ = some (.slice c2 X.data.length c3) ∧ w'.cell? ⟨BX, 3, none⟩ = some (.slice c4 X.rev.length c5) ∧ w'.cell? ⟨BX, 4, none⟩ = some (.bool X.h0.on) ∧ w'.cell? ⟨BX, 5, none⟩ = some (.int .i64 X.h0.left) ∧ w'.cell? ⟨BX, 6, none⟩ = some (.bool X.h1.on) ∧ w'.cell? ⟨BX, 7, none⟩ = some (.int .i64 X.h1.left) ∧ w'.cell? ⟨BX, 8, none⟩ = some (.bool X.h2.on) ∧ w'.cell? ⟨BX, 9, none⟩ = some (.int .i64 X.h2.left) ∧ w'.cell? ⟨BY, 0, none⟩ = some (.int .i64 Y.seq) ∧ w'.cell? ⟨BY, 1, none⟩ = some (.slice d0 Y.info.length d1) ∧ w'.cell? ⟨BY, 2, none⟩ = some (.slice d2 Y.data.length d3) ∧ w'.cell? ⟨BY, 3, none⟩ = some (.slice d4 Y.rev.length d5) ∧ w'.cell? ⟨BY, 4, none⟩ = some (.bool Y.h0.on) ∧ w'.cell? ⟨BY, 5, none⟩ = some (.int .i64 Y.h0.left) ∧ w'.cell? ⟨BY, 6, none⟩ = some (.bool Y.h1.on) ∧ w'.cell? ⟨BY, 7, none⟩ = some (.int .i64 Y.h1.left) ∧ w'.cell? ⟨BY, 8, none⟩ = some (.bool Y.h2.on) ∧ w'.cell? ⟨BY, 9, none⟩ = some (.int .i64 Y.h2.left) ∧ w'.cell? ⟨w8.heap.size, 0, none⟩ = some (.int .i64 Z.seq) ∧ w'.cell? ⟨w8.heap.size, 1, none⟩ = some (.slice e0 Z.info.length e1) ∧ w'.cell? ⟨w8.heap.size, 2, none⟩ = some (.slice e2 Z.data.length e3) ∧ w'.cell? ⟨w8.heap.size, 3, none⟩ = some (.slice e4 Z.rev.length e5) ∧ w'.cell? ⟨w8.heap.size, 4, none⟩ = some (.bool Z.h0.on) ∧ w'.cell? ⟨w8.heap.size, 5, none⟩ = some (.int .i64 Z.h0.left) ∧ w'.cell? ⟨w8.heap.size, 6, none⟩ = some (.bool Z.h1.on) ∧ w'.cell? ⟨w8.heap.size, 7, none⟩ = some (.int .i64 Z.h1.left) ∧ w'.cell? ⟨w8.heap.size, 8, none⟩ = some (.bool Z.h2.on) ∧ w'.cell? ⟨w8.heap.size, 9, none⟩ = some (.int .i64 Z.h2.left))
          (first | exact HALL.out _ ((Below.refl _ _).drew) | (refine HALL.out _ ?_; assumption))
          (first
            | (go_at_call_of 34 (s); (have hnow := (‹Hid (Below w9.heap.size w9 _) ∧ _›).1); have HNOW := hide hnow.out; refine (HF.out _).mono ?_; clear hnow; rintro e w10 ⟨rfl, hb10⟩; have hbN := bthen HNOW.out hb10; clear hb10 HNOW)
            | (go_at_call_of 34 (u); (have hnow := (‹Hid (Below w9.heap.size w9 _) ∧ _›).1); have HNOW := hide hnow.out; refine (HG.out _).mono ?_; clear hnow; rintro e w10 ⟨rfl, hb10⟩; have hbN := bthen HNOW.out hb10; clear hb10 HNOW)
            | (go_at_call_of 24 (Y); (have hnow := (‹Hid (Below w9.heap.size w9 _) ∧ _›).1); have HNOW := hide hnow.out; refine (HAY.out _ _ (HY.out.below hnow.out)).mono ?_; clear hnow; rintro e w10 ⟨rfl, hb10⟩; have hbN := bthen HNOW.out hb10; clear hb10 HNOW)
            | (go_at_call_of 24 (X); (have hnow := (‹Hid (Below w9.heap.size w9 _) ∧ _›).1); have HNOW := hide hnow.out; refine (HAX.out _ _ (HX.out.below hnow.out)).mono ?_; clear hnow; rintro e w10 ⟨rfl, hb10⟩; have hbN := bthen HNOW.out hb10; clear hb10 HNOW)
            | (go_at_call_of 24 (Z); (have hnow := (‹Hid (Below w9.heap.size w9 _) ∧ _›).1); have HNOW := hide hnow.out; refine (HAZ.out _ _ (HZ.out.below hnow.out)).mono ?_; clear hnow; rintro e w10 ⟨rfl, hb10⟩; have hbN := bthen HNOW.out hb10; clear hb10 HNOW))
        go_wp2
        go_ret
        refine ⟨rfl, bthen HB.out ?_⟩
        assumption

end Go.Proofs.Ytjnpndfpajjihab
