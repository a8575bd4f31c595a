/-
  The walk of wastebookkeep's own follow, at one kind of order.
  The walk of wastebookkeep's own follow.
-/
import Derived.Test.YtjnpndfpajjihabTFollowP
import Derived.Test.YtjnpndfpajjihabTFollow0
import Derived.Test.YtjnpndfpajjihabTFollow1
import Derived.Test.YtjnpndfpajjihabTFollow2
import Derived.Test.YtjnpndfpajjihabTFollow3
namespace Go.Proofs.Ytjnpndfpajjihab
open Go.RowKit

set_option maxHeartbeats 4000000 in
set_option maxRecDepth 100000 in
theorem follow_4 (v : Value) (t : Tx) (k h b n free : Int) (s : ByteArray) (w : World) (hT : IsTx w v t) (r1 : t.info.length * 24 ≤ 140737488355328) (r2 : t.data.length * 24 ≤ 140737488355328) (hs : s.size ≤ maxLen)
    (wk : -9223372036854775808 ≤ k ∧ k ≤ 9223372036854775807) (wh : -9223372036854775808 ≤ h ∧ h ≤ 9223372036854775807) (wb : -9223372036854775808 ≤ b ∧ b ≤ 9223372036854775807) (hk : k % 5 = 4) :
    Calls Try.prog 30 #[v, .agg #[.int .i64 k, .int .i64 h, .int .i64 b, .int .i64 n, .string s], .int .i64 free] w fun e w' => ∃ v2, e = .returned (.tuple #[v2, .int .i64 (stopE t (h % 3))]) ∧ IsTx w' v2 (stopT t (h % 3)) ∧ (v2 = v ∨ RowsFrom w.heap.size v2 (stopT t (h % 3))) ∧ Below w.heap.size w w' := by
  have HT := hide hT
  obtain ⟨a0, a1, a2, a3, a4, a5, rfl, _, _, _, _, _, _⟩ := hT
  have HPk : Hid (∀ W, Calls Try.prog 11 #[.int .i64 k, .int .i64 5] W fun e w' => e = .returned (.int .i64 4) ∧ W = w') := fun W => by have := pick_any k 5 W (by omega) (by omega) wk.1 wk.2; rw [hk] at this; exact this
  have HPh : Hid (∀ W, Calls Try.prog 11 #[.int .i64 h, .int .i64 3] W fun e w' => e = .returned (.int .i64 (h % 3)) ∧ W = w') := fun W => pick_any h 3 W (by omega) (by omega) wh.1 wh.2
  have HPb : Hid (∀ W, Calls Try.prog 11 #[.int .i64 b, .int .i64 12] W fun e w' => e = .returned (.int .i64 (b % 12)) ∧ W = w') := fun W => pick_any b 12 W (by omega) (by omega) wb.1 wb.2
  have HF : Hid (∀ W, Calls Try.prog 34 #[.string s] W fun e w' => e = .returned (.string (fitT s)) ∧ Below W.heap.size W w') := fun W => fit_any s W hs
  clear hk wk wh wb hs
  generalize h % 3 = hh at *
  generalize b % 12 = bb at *
  generalize fitT s = S at *
  have HC : Hid (∀ W, IsTx W (.agg #[.int .i64 t.seq, .slice a0 t.info.length a1, .slice a2 t.data.length a3, .slice a4 t.rev.length a5, .bool t.h0.on, .int .i64 t.h0.left, .bool t.h1.on, .int .i64 t.h1.left, .bool t.h2.on, .int .i64 t.h2.left]) t → Calls Try.prog 19 #[.agg #[.int .i64 t.seq, .slice a0 t.info.length a1, .slice a2 t.data.length a3, .slice a4 t.rev.length a5, .bool t.h0.on, .int .i64 t.h0.left, .bool t.h1.on, .int .i64 t.h1.left, .bool t.h2.on, .int .i64 t.h2.left], .int .i64 hh] W fun e w' => ∃ v2, e = .returned (.tuple #[v2, .int .i64 (stopE t hh)]) ∧ IsTx w' v2 (stopT t hh) ∧ (v2 = .agg #[.int .i64 t.seq, .slice a0 t.info.length a1, .slice a2 t.data.length a3, .slice a4 t.rev.length a5, .bool t.h0.on, .int .i64 t.h0.left, .bool t.h1.on, .int .i64 t.h1.left, .bool t.h2.on, .int .i64 t.h2.left] ∨ RowsFrom W.heap.size v2 (stopT t hh)) ∧ Below W.heap.size W w') :=
    fun W hW => (tStop_all _ t hh W hW r1 r2).mono fun _ _ ⟨v2, h1, h2, h3, h4⟩ => ⟨v2, h1, h2, h4, h3⟩
  generalize stopE t hh = ee at *
  generalize stopT t hh = Y at *
  go_enter Try.func30, Try.ntmps30
  go_upto_region 1 with fail
  obtain ⟨w1, hw1⟩ : ∃ w1, w1 = ((w.alloc (Obj.cells #[.int .i64 t.seq, .slice a0 t.info.length a1, .slice a2 t.data.length a3, .slice a4 t.rev.length a5, .bool t.h0.on, .int .i64 t.h0.left, .bool t.h1.on, .int .i64 t.h1.left, .bool t.h2.on, .int .i64 t.h2.left] 40)).alloc (Obj.cells #[.int .i64 k, .int .i64 h, .int .i64 b, .int .i64 n, .string s] 52)).alloc (Obj.cells #[.int .i64 0, .slice none 0 0, .slice none 0 0, .slice none 0 0, .bool false, .int .i64 0, .bool false, .int .i64 0, .bool false, .int .i64 0] 40) := ⟨_, rfl⟩
  have K0 : Hid (w1.heap[w.heap.size]? = some (Obj.cells #[.int .i64 t.seq, .slice a0 t.info.length a1, .slice a2 t.data.length a3, .slice a4 t.rev.length a5, .bool t.h0.on, .int .i64 t.h0.left, .bool t.h1.on, .int .i64 t.h1.left, .bool t.h2.on, .int .i64 t.h2.left] 40 (0, 0)) ∧ w1.heap[w.heap.size + 1]? = some (Obj.cells #[.int .i64 k, .int .i64 h, .int .i64 b, .int .i64 n, .string s] 52 (0, 0)) ∧ w1.heap[w.heap.size + 1 + 1]? = some (.cells #[.int .i64 0, .slice none 0 0, .slice none 0 0, .slice none 0 0, .bool false, .int .i64 0, .bool false, .int .i64 0, .bool false, .int .i64 0] 40 (0, 0)) ∧ w.heap.size + 1 + 1 < w1.heap.size) := by rw [hw1]; exact three1 (Below.refl _ _)
  have hs0 : w.heap.size + 1 + 1 < w1.heap.size := K0.out.2.2.2
  have HB1 : Hid (Below w.heap.size w w1) := by rw [hw1]; exact bthen (bthen (below1 _ _) (below1 _ _)) (below1 _ _)
  rw [← hw1]
  clear hw1
  go_cut [8, 9] from 10 to 15 (fun p q wx => p = .int .i64 hh ∧ q = .int .i64 bb ∧ Hid (Below w1.heap.size w1 wx))
  case first =>
    obtain ⟨⟨y0, y1, y2, y3, y4⟩, _⟩ := boxO K0.out.2.1
    go_region_with (first
      | (go_at_call_of 11 (h); refine (HPh.out _).mono ?_; rintro e w3 ⟨rfl, rfl⟩)
      | (go_at_call_of 11 (b); refine (HPb.out _).mono ?_; rintro e w3 ⟨rfl, rfl⟩))
    all_goals
      go_wp2_with fail
      go_meet
      refine ⟨rfl, rfl, hide ?_⟩
      exact (Below.refl _ _).drew
  case rest =>
    obtain ⟨rfl, rfl, hbc⟩ := hcut
    obtain ⟨w2, rfl⟩ : ∃ w2, w2 = wc := ⟨_, rfl⟩
    have K1 := hide (boxKeep hbc.out (by omega) K0.out.1)
    have K2 := hide (boxKeep hbc.out (by omega) K0.out.2.1)
    have K3 := hide (boxKeep hbc.out (by omega) K0.out.2.2.1)
    have HB2 := hide (HB1.out.trans (hbc.out.mono (by omega)))
    have hs2 := Nat.lt_of_lt_of_le hs0 hbc.out.size
    have hs2' : w.heap.size < w2.heap.size := by omega
    have hs2'' : w.heap.size + 1 < w2.heap.size := by omega
    clear hbc K0 HB1 HPh HPb
    obtain ⟨⟨y0, y1, y2, y3, y4⟩, yf⟩ := boxO K2.out
    obtain ⟨⟨x0, x1, x2, x3, x4, x5, x6, x7, x8, x9⟩, _⟩ := box10 K1.out
    go_wp2_with (first
      | (go_at_call 11; refine (HPk.out _).mono ?_; rintro e w3 ⟨rfl, rfl⟩))
    refine (HC.out _ (HT.out.below HB2.out)).mono ?_
    rintro e w4 ⟨v2, rfl, h2, hf2, hb4⟩
    have hz4 := hb4.size
    have HI4 := hide h2
    have HR4 := hide hf2
    have K34 := hide (boxKeep hb4 (by omega) K3.out)
    have HB4 := hide (HB2.out.trans (hb4.mono (by omega)))
    clear hf2 hb4 x0 x1 x2 x3 x4 x5 x6 x7 x8 x9
    obtain ⟨g0, g1, g2, g3, g4, g5, rfl, _, _, _, _, _, _⟩ := h2
    obtain ⟨⟨z0, z1, z2, z3, z4, z5, z6, z7, z8, z9⟩, zf⟩ := box10 K34.out
    go_wp2_with fail
    refine bodyPost_ret (v := .tuple #[.agg #[.int .i64 Y.seq, .slice g0 Y.info.length g1, .slice g2 Y.data.length g3, .slice g4 Y.rev.length g5, .bool Y.h0.on, .int .i64 Y.h0.left, .bool Y.h1.on, .int .i64 Y.h1.left, .bool Y.h2.on, .int .i64 Y.h2.left], .int .i64 ee]) (by simp [results, Try.results30, go_sem, z0, z1, z2, z3, z4, z5, z6, z7, z8, z9]) rfl ⟨_, rfl, ?_, ?_, ?_⟩
    · exact IsTx.put10 (B := w.heap.size + 1 + 1) HI4.out HR4.out HT.out (by omega) (by omega)
    · rcases HR4.out with e | e
      · exact .inl e
      · exact .inr (e.mono (by omega))
    · exact Below.set10 (B := w.heap.size + 1 + 1) HB4.out (by omega) _ _ _ _ _ _ _ _ _ _


theorem follow_all (v : Value) (t : Tx) (k h b n free : Int) (s : ByteArray) (w : World) (hT : IsTx w v t) (r1 : t.info.length * 24 ≤ 140737488355328) (r2 : t.data.length * 24 ≤ 140737488355328) (hs : s.size ≤ maxLen)
    (wk : -9223372036854775808 ≤ k ∧ k ≤ 9223372036854775807) (wh : -9223372036854775808 ≤ h ∧ h ≤ 9223372036854775807) (wb : -9223372036854775808 ≤ b ∧ b ≤ 9223372036854775807) :
    Calls Try.prog 30 #[v, .agg #[.int .i64 k, .int .i64 h, .int .i64 b, .int .i64 n, .string s], .int .i64 free] w fun e w' => ∃ v2, e = .returned (.tuple #[v2, .int .i64 (followE t (k % 5) (h % 3) (b % 12) n free (fitT s))]) ∧ IsTx w' v2 (followT t (k % 5) (h % 3) (b % 12) n free (fitT s)) ∧ (v2 = v ∨ RowsFrom w.heap.size v2 (followT t (k % 5) (h % 3) (b % 12) n free (fitT s))) ∧ Below w.heap.size w w' := by
  have h1 := Int.emod_lt_of_pos k (show (0 : Int) < 5 by omega)
  have h2 := Int.emod_nonneg k (show (5 : Int) ≠ 0 by omega)
  obtain hk | hk | hk | hk | hk : k % 5 = 0 ∨ k % 5 = 1 ∨ k % 5 = 2 ∨ k % 5 = 3 ∨ k % 5 = 4 := by omega
  · have e1 : followE t (k % 5) (h % 3) (b % 12) n free (fitT s) = beginE t (h % 3) n free := by rw [followE, hk, if_pos rfl]
    have e2 : followT t (k % 5) (h % 3) (b % 12) n free (fitT s) = beginT t (h % 3) n free := by rw [followT, hk, if_pos rfl]
    rw [e1, e2]
    exact follow_0 v t k h b n free s w hT r1 r2 hs wk wh wb hk
  · have e1 : followE t (k % 5) (h % 3) (b % 12) n free (fitT s) = changeE t (h % 3) (b % 12) (fitT s) := by rw [followE, hk, if_neg (by decide), if_pos rfl]
    have e2 : followT t (k % 5) (h % 3) (b % 12) n free (fitT s) = changeT t (h % 3) (b % 12) (fitT s) := by rw [followT, hk, if_neg (by decide), if_pos rfl]
    rw [e1, e2]
    exact follow_1 v t k h b n free s w hT r1 r2 hs wk wh wb hk
  · have e1 : followE t (k % 5) (h % 3) (b % 12) n free (fitT s) = fillE t (h % 3) (b % 12) (fitT s) := by rw [followE, hk, if_neg (by decide), if_neg (by decide), if_pos rfl]
    have e2 : followT t (k % 5) (h % 3) (b % 12) n free (fitT s) = fillT t (h % 3) (b % 12) (fitT s) := by rw [followT, hk, if_neg (by decide), if_neg (by decide), if_pos rfl]
    rw [e1, e2]
    exact follow_2 v t k h b n free s w hT r1 r2 hs wk wh wb hk
  · have e1 : followE t (k % 5) (h % 3) (b % 12) n free (fitT s) = revokeE t (h % 3) (b % 12) := by rw [followE, hk, if_neg (by decide), if_neg (by decide), if_neg (by decide), if_pos rfl]
    have e2 : followT t (k % 5) (h % 3) (b % 12) n free (fitT s) = revokeT t (h % 3) (b % 12) := by rw [followT, hk, if_neg (by decide), if_neg (by decide), if_neg (by decide), if_pos rfl]
    rw [e1, e2]
    exact follow_3 v t k h b n free s w hT r1 r2 hs wk wh wb hk
  · have e1 : followE t (k % 5) (h % 3) (b % 12) n free (fitT s) = stopE t (h % 3) := by rw [followE, hk, if_neg (by decide), if_neg (by decide), if_neg (by decide), if_neg (by decide)]
    have e2 : followT t (k % 5) (h % 3) (b % 12) n free (fitT s) = stopT t (h % 3) := by rw [followT, hk, if_neg (by decide), if_neg (by decide), if_neg (by decide), if_neg (by decide)]
    rw [e1, e2]
    exact follow_4 v t k h b n free s w hT r1 r2 hs wk wh wb hk

end Go.Proofs.Ytjnpndfpajjihab
