/-
  The walk of the statements' own mark, that copies a mark.
-/
import Derived.Test.YtjnpndfpajjihaaMKeep
namespace Go.Proofs.Ytjnpndfpajjihaa
open Go.RowKit

set_option maxHeartbeats 2000000 in
set_option maxRecDepth 100000 in
theorem mark_any (v : Value) (m : Mk) (w : World) (h : IsMk w v m) (h16 : m.tags.length * 16 ≤ 140737488355328) (h8 : m.blocks.length * 8 ≤ 140737488355328) :
    Calls Try.prog 35 #[v] w fun e w' => ∃ v2, e = .returned v2 ∧ IsMk w' v2 m ∧ Below w.heap.size w w' := by
  obtain ⟨a, c, a', c', rfl, hS, hW, hn, hm⟩ := h
  have HS := hide hS
  have HW := hide hW
  clear hS hW
  go_enter Try.func35, Try.ntmps35
  go_wp2
  go_region_law (first | (refine step_copyT rfl _ (.tmp 4) rfl (by simp [Act.eval, Act.put]) a c m.tags (by simp [Act.eval, Act.put]) (HS.out.below (bthen (below1 _ _) (below1 _ _)).drew) hn h16 ?_; intro a2 c2 w2 HS2 hb2; have hs2 : w.heap.size + 1 < w2.heap.size := (by have := hb2.size; simp at this; omega); have hs2' : w.heap.size < w2.heap.size := (by omega); have hk2 := (bthen ((Below.refl _ _).drew) hb2); obtain ⟨⟨x0, x1, x2, x3, x4⟩, e0, e1, e2, e3, e4⟩ := box5 (keep1 hk2)) | (refine step_copyI rfl _ (.tmp 7) rfl (by simp [Act.eval]) a' c' m.blocks (by simp [Act.eval, Act.put]) (HW.out.below (bthen (bthen (below1 _ _) (below1 _ _)).drew hb2)) hm h8 ?_; intro a3 c3 w3 HW3 hb3; have hs3 : w.heap.size + 1 < w3.heap.size := (by have := hb3.size; omega); have hs3' : w.heap.size < w3.heap.size := (by omega); obtain ⟨⟨z0, z1, z2, z3, z4⟩, d0, d1, d2, d3, d4⟩ := box5 (keep1 (bthen hk2 hb3))))
  all_goals
    have HK := hide (bthen hk2 hb3)
    obtain ⟨⟨y0, y1, y2, y3, y4⟩, f0, f1, f2, f3, f4⟩ := box5 (keep2 HK.out)
    have HS3 := hide (HS2.out.1.below hb3)
    have HA2 := hide HS2.out.2
    clear hb2 HS2 hb3 hk2 x0 x1 x2 x3 x4 e0 e1 e2 e3 e4
    have n2 : ∀ b off, a2 = some ⟨b, off, none⟩ → w.heap.size + 2 ≤ b := fun b off e => by have := HA2.out b off e; simp at this; omega
    have n3 : ∀ b off, a3 = some ⟨b, off, none⟩ → w.heap.size + 2 ≤ b := fun b off e => by have := HW3.out.2 b off e; omega
    have N2 := hide n2
    have N3 := hide n3
    clear n2 n3 HA2
    go_wp2
    refine bodyPost_ret (v := .agg #[.int .i64 m.kind, .int .i64 m.seq, .int .i64 m.pos, .slice a2 m.tags.length c2, .slice a3 m.blocks.length c3]) (by simp [results, Try.results35, go_sem, y0, y1, y2, y3, y4]) rfl ⟨_, rfl, ⟨a2, c2, a3, c3, rfl, ?_, ?_, hn, hm⟩, ?_⟩
    · repeat refine SegT.setNe ?_ (fun b off e => by have := N2.out b off e; simp; omega) _
      exact HS3.out
    · repeat refine SegI.setNe ?_ (fun b off e => by have := N3.out b off e; simp; omega) _
      exact HW3.out.1
    · have hB : Below w.heap.size w w3 := bthen (bthen (below1 _ _) (below1 _ _)) HK.out
      repeat refine Below.setCell ?_ (by simp) _
      exact hB

end Go.Proofs.Ytjnpndfpajjihaa
