/-
  The walk of the document's own CopyTxn.
-/
import Derived.Test.YtjnpndfpajjihabGreatTCopy0
import Derived.Test.YtjnpndfpajjihabGreatTRows
namespace Go.Proofs.YtjnpndfpajjihabGreat
open Go.RowKit

set_option maxHeartbeats 4000000 in
set_option maxRecDepth 100000 in
theorem copyTxn_any (v : Value) (t : Tx) (w : World) (h : IsTx w v t) (r1 : t.info.length * 24 ≤ 140737488355328) (r2 : t.data.length * 24 ≤ 140737488355328) (r3 : t.rev.length * 8 ≤ 140737488355328) :
    Calls Tryz.prog 7 #[v] w fun e w' => ∃ v2, e = .returned v2 ∧ IsTxN w' w.heap.size v2 t ∧ Below w.heap.size w w' := by
  obtain ⟨a, c, a', c', b, d, rfl, hM, hD, hR, n1, n2, n3⟩ := h
  have HM := hide hM
  have HD := hide hD
  have HR := hide hR
  clear hM hD hR
  go_enter Tryz.func7, Tryz.ntmps7
  go_wp2
  go_region_law (first
    | (refine step_copyC rfl _ (.tmp 4) rfl (by simp [Act.eval, Act.put]) a c t.info (by simp [Act.eval, Act.put]) (HM.out.below (bthen (below1 _ _) (below1 _ _)).drew) n1 r1 ?_; intro a2 c2 w2 HS2 hb2; have hs2 : w.heap.size + 1 < w2.heap.size := (by have := hb2.size; simp at this; omega); have hs2' : w.heap.size < w2.heap.size := (by omega); have hk2 := (bthen ((Below.refl _ _).drew) hb2); obtain ⟨⟨x0, x1, x2, x3, x4, x5, x6, x7, x8, x9⟩, ef⟩ := box10 (two1 hk2))
    | (refine step_copyC rfl _ (.tmp 7) rfl (by simp [Act.eval, Act.put]) a' c' t.data (by simp [Act.eval, Act.put]) (HD.out.below (bthen (bthen (below1 _ _) (below1 _ _)).drew hb2)) n2 r2 ?_; intro a3 c3 w3 HS3 hb3; have hs3 : w.heap.size + 1 < w3.heap.size := (by have := hb3.size; omega); have hs3' : w.heap.size < w3.heap.size := (by omega); have hk3 := bthen hk2 hb3; obtain ⟨⟨z0, z1, z2, z3, z4, z5, z6, z7, z8, z9⟩, df⟩ := box10 (two1 hk3))
    | (refine step_copyI rfl _ (.tmp 10) rfl (by simp [Act.eval]) b d t.rev (by simp [Act.eval, Act.put]) (HR.out.below (bthen (bthen (bthen (below1 _ _) (below1 _ _)).drew hb2) hb3)) n3 r3 ?_; intro a4 c4 w4 HS4 hb4; have hs4 : w.heap.size + 1 < w4.heap.size := (by have := hb4.size; omega); have hs4' : w.heap.size < w4.heap.size := (by omega); have hk4 := bthen hk3 hb4; obtain ⟨⟨u0, u1, u2, u3, u4, u5, u6, u7, u8, u9⟩, gf⟩ := box10 (two1 hk4)))
  all_goals
    obtain ⟨⟨y0, y1, y2, y3, y4, y5, y6, y7, y8, y9⟩, ff⟩ := box10 (two2 hk4)
    have HK := hide hk4
    have N2 : Hid (∀ b off, a2 = some ⟨b, off, none⟩ → w.heap.size + 2 ≤ b) := fun b off e => by have := HS2.out.2 b off e; simp at this; omega
    have N3 : Hid (∀ b off, a3 = some ⟨b, off, none⟩ → w.heap.size + 2 ≤ b) := fun b off e => by have := HS3.out.2 b off e; omega
    have N4 : Hid (∀ b off, a4 = some ⟨b, off, none⟩ → w.heap.size + 2 ≤ b) := fun b off e => by have := HS4.out.2 b off e; omega
    have T2 := hide (HS2.out.1.below (bthen hb3 hb4))
    have T3 := hide (HS3.out.1.below hb4)
    have T4 := hide HS4.out.1
    clear hb2 hb3 hb4 hk2 hk3 hk4 HS2 HS3 HS4 x0 x1 x2 x3 x4 x5 x6 x7 x8 x9 z0 z1 z2 z3 z4 z5 z6 z7 z8 z9 ef df
    go_wp2
    refine bodyPost_ret (v := .agg #[.int .i64 t.seq, .slice a2 t.info.length c2, .slice a3 t.data.length c3, .slice a4 t.rev.length c4, .bool t.h0.on, .int .i64 t.h0.left, .bool t.h1.on, .int .i64 t.h1.left, .bool t.h2.on, .int .i64 t.h2.left]) (by simp [results, Tryz.results7, go_sem, y0, y1, y2, y3, y4, y5, y6, y7, y8, y9]) rfl ⟨_, rfl, ⟨a2, c2, a3, c3, a4, c4, rfl, ⟨?_, ?_, ?_, n1, n2, n3⟩, fun b off e => (by have := N2.out b off e; omega), fun b off e => (by have := N3.out b off e; omega), fun b off e => (by have := N4.out b off e; omega)⟩, ?_⟩
    · repeat refine SegW.setNe ?_ (fun b off e => by have := N2.out b off e; simp; omega) _
      exact T2.out
    · repeat refine SegW.setNe ?_ (fun b off e => by have := N3.out b off e; simp; omega) _
      exact T3.out
    · repeat refine SegI.setNe ?_ (fun b off e => by have := N4.out b off e; simp; omega) _
      exact T4.out
    · have hB : Below w.heap.size w w4 := bthen (bthen (below1 _ _) (below1 _ _)) HK.out
      repeat refine Below.setCell ?_ (by simp) _
      exact hB

end Go.Proofs.YtjnpndfpajjihabGreat
