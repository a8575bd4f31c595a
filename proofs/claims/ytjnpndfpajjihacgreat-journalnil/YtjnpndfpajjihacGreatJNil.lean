/-
  A journal that is nil: the walks of its methods, and of the statement JournalNil.
-/
import Derived.Test.YtjnpndfpajjihacGreatTSame
import Derived.Test.YtjnpndfpajjihacGreatRefSame1
namespace Go.Proofs.YtjnpndfpajjihacGreat
open Go.RowKit

theorem jbox3 {w : World} {B : Nat} {v0 v1 v2 : Value} {t : TypeId} (h : w.heap[B]? = some (.cells #[v0, v1, v2] t (0, 0))) :
    (w.cell? ⟨B, 0, none⟩ = some v0 ∧ w.cell? ⟨B, 1, none⟩ = some v1 ∧ w.cell? ⟨B, 2, none⟩ = some v2) ∧ ∀ k, w.frozen? ⟨B, k, none⟩ = false := by
  refine ⟨⟨?_, ?_, ?_⟩, fun k => frozen_of_row w _ _ _ _ h⟩ <;> (rw [cell_of_row w _ _ _ _ _ h]; rfl)
set_option maxRecDepth 100000 in
theorem jcode_any (x : Int) (w : World) :
    Calls Tryz.prog 43 #[.int .i64 x] w fun e w' => e = .returned (.agg #[.int .i64 x, .int .i64 0, .string ⟨#[]⟩]) ∧ Below w.heap.size w w' := by
  go_enter Tryz.func43, Tryz.ntmps43
  go_wp2
  refine bodyPost_ret (v := .agg #[.int .i64 x, .int .i64 0, .string ⟨#[]⟩]) (by simp [results, Tryz.results43, go_sem]) rfl ⟨rfl, ?_⟩
  repeat refine Below.setCell ?_ (by simp) _
  exact below1 _ _
set_option maxRecDepth 100000 in
theorem jRing_nil (w : World) :
    Calls Tryz.prog 14 #[.pointer none] w fun e w' => e = .returned (.tuple #[.agg #[.int .i64 0, .int .i64 0], .int .i64 0, .bool false]) ∧ Below w.heap.size w w' := by
  go_enter Tryz.func14, Tryz.ntmps14
  go_wp2
  refine bodyPost_ret (v := .tuple #[.agg #[.int .i64 0, .int .i64 0], .int .i64 0, .bool false]) (by simp [results, Tryz.results14, go_sem]) rfl ⟨rfl, ?_⟩
  repeat refine Below.setCell ?_ (by simp) _
  exact below1 _ _
set_option maxRecDepth 100000 in
theorem jDisk_nil (w : World) :
    Calls Tryz.prog 19 #[.pointer none] w fun e w' => e = .returned (.agg #[.slice none 0 0, .slice none 0 0]) ∧ Below w.heap.size w w' := by
  go_enter Tryz.func19, Tryz.ntmps19
  go_wp2
  refine bodyPost_ret (v := .agg #[.slice none 0 0, .slice none 0 0]) (by simp [results, Tryz.results19, go_sem]) rfl ⟨rfl, ?_⟩
  repeat refine Below.setCell ?_ (by simp) _
  exact below1 _ _
set_option maxRecDepth 100000 in
theorem jRunning_nil (w : World) :
    Calls Tryz.prog 17 #[.pointer none] w fun e w' => e = .returned (.agg #[.int .i64 0, .slice none 0 0, .slice none 0 0, .slice none 0 0, .bool false, .int .i64 0, .bool false, .int .i64 0, .bool false, .int .i64 0]) ∧ Below w.heap.size w w' := by
  go_enter Tryz.func17, Tryz.ntmps17
  go_wp2
  refine bodyPost_ret (v := .agg #[.int .i64 0, .slice none 0 0, .slice none 0 0, .slice none 0 0, .bool false, .int .i64 0, .bool false, .int .i64 0, .bool false, .int .i64 0]) (by simp [results, Tryz.results17, go_sem]) rfl ⟨rfl, ?_⟩
  repeat refine Below.setCell ?_ (by simp) _
  exact below1 _ _
set_option maxRecDepth 100000 in
theorem jDo_nil (k h b n : Int) (s : ByteArray) (w : World) :
    Calls Tryz.prog 15 #[.pointer none, .agg #[.int .i64 k, .int .i64 h, .int .i64 b, .int .i64 n, .string s]] w fun e w' => e = .returned (.agg #[.int .i64 4, .int .i64 0, .string ⟨#[]⟩]) ∧ Below w.heap.size w w' := by
  go_enter Tryz.func15, Tryz.ntmps15
  go_wp2_with fail
  refine (jcode_any 4 _).mono ?_
  rintro e w1 ⟨rfl, hb1⟩
  have KB := hide (two2 hb1)
  have HB := hide (bthen (bthen (below1 _ _) (below1 _ _)) hb1)
  have hs1 : w.heap.size + 1 < w1.heap.size := by have := hb1.size; simp at this; omega
  clear hb1
  obtain ⟨⟨z0, z1, z2⟩, zf⟩ := jbox3 KB.out
  go_wp2
  refine bodyPost_ret (v := .agg #[.int .i64 4, .int .i64 0, .string ⟨#[]⟩]) (by simp [results, Tryz.results15, go_sem, z0, z1, z2]) rfl ⟨rfl, ?_⟩
  repeat refine Below.setCell ?_ (by simp) _
  exact HB.out

def txNil : Tx := ⟨0, [], [], [], ⟨false, 0⟩, ⟨false, 0⟩, ⟨false, 0⟩⟩
theorem isTx_nil (w : World) : IsTx w (.agg #[.int .i64 0, .slice none 0 0, .slice none 0 0, .slice none 0 0, .bool false, .int .i64 0, .bool false, .int .i64 0, .bool false, .int .i64 0]) txNil :=
  ⟨none, 0, none, 0, none, 0, rfl, .inl rfl, .inl rfl, .inl rfl, Nat.zero_le _, Nat.zero_le _, Nat.zero_le _⟩
theorem isDk_nil (w : World) : IsDk w (.agg #[.slice none 0 0, .slice none 0 0]) ⟨[], []⟩ :=
  ⟨none, 0, none, 0, rfl, .inl rfl, .inl rfl, Nat.zero_le _, Nat.zero_le _⟩

set_option maxHeartbeats 2000000 in
set_option maxRecDepth 100000 in
theorem jNil_walk (k h b n : Int) (s : ByteArray) (w : World) :
    Calls Tryz.prog 3 #[.agg #[.int .i64 k, .int .i64 h, .int .i64 b, .int .i64 n, .string s]] w fun e w' => e = .returned (.bool true) ∧ Below w.heap.size w w' := by
  go_enter Tryz.func3, Tryz.ntmps3
  go_wp2_with fail
  refine (jRing_nil _).mono ?_
  rintro e w1 ⟨rfl, hb1⟩
  have K0 := hide (one1 hb1)
  have HB1 := hide (bthen (below1 _ _) hb1)
  have hs1 : w.heap.size < w1.heap.size := by have := hb1.size; simp at this; omega
  clear hb1
  obtain ⟨⟨x0, x1, x2, x3, x4⟩, _⟩ := box5 K0.out
  go_wp2_with fail
  refine (jDo_nil k h b n s _).mono ?_
  rintro e w2 ⟨rfl, hb2⟩
  obtain ⟨⟨y0, y1⟩, yf⟩ := box2 (one1 hb2)
  have HB2 := hide (bthen (bthen HB1.out (below1 _ _)) hb2)
  clear hb2 x0 x1 x2 x3 x4 K0
  go_wp2_with fail
  refine (jRunning_nil _).mono ?_
  rintro e w3 ⟨rfl, hb3⟩
  have HB3 := hide (bthen HB2.out hb3)
  clear hb3 HB1 HB2
  go_wp2_with fail
  refine (sameTxn_any _ _ txNil _ (isTx_nil _) (isTx_nil _)).mono ?_
  rintro e w4 ⟨rfl, hb4⟩
  have HB4 := hide (bthen HB3.out hb4)
  clear hb4 HB3
  go_wp2_with fail
  refine (jDisk_nil _).mono ?_
  rintro e w5 ⟨rfl, hb5⟩
  have HB5 := hide (bthen HB4.out hb5)
  clear hb5 HB4
  go_wp2_with fail
  refine (sameRef_any _ _ ⟨[], []⟩ _ (isDk_nil _) (isDk_nil _)).mono ?_
  rintro e w6 ⟨rfl, hb6⟩
  have HB6 := hide (bthen HB5.out hb6)
  clear hb6 HB5
  go_wp2
  go_ret
  exact ⟨rfl, HB6.out⟩

end Go.Proofs.YtjnpndfpajjihacGreat
