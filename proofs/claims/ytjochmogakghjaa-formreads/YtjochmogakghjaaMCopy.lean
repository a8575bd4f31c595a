/-
  The walk of the statements' own mark, that copies a mark.
-/
import Derived.Test.YtjochmogakghjaaMRows
namespace Go.Proofs.Ytjochmogakghjaa
open Go.RowKit

/-- A block of five cells: what stands in each, and that none is frozen. -/
theorem box5 {w : World} {B : Nat} {v0 v1 v2 v3 v4 : Value} {t : TypeId} (h : w.heap[B]? = some (.cells #[v0, v1, v2, v3, v4] t (0, 0))) :
    (w.cell? ⟨B, 0, none⟩ = some v0 ∧ w.cell? ⟨B, 1, none⟩ = some v1 ∧ w.cell? ⟨B, 2, none⟩ = some v2 ∧ w.cell? ⟨B, 3, none⟩ = some v3 ∧ w.cell? ⟨B, 4, none⟩ = some v4) ∧
    (w.frozen? ⟨B, 0, none⟩ = false ∧ w.frozen? ⟨B, 1, none⟩ = false ∧ w.frozen? ⟨B, 2, none⟩ = false ∧ w.frozen? ⟨B, 3, none⟩ = false ∧ w.frozen? ⟨B, 4, none⟩ = false) := by
  refine ⟨⟨?_, ?_, ?_, ?_, ?_⟩, frozen_of_row w _ _ _ _ h, frozen_of_row w _ _ _ _ h, frozen_of_row w _ _ _ _ h, frozen_of_row w _ _ _ _ h, frozen_of_row w _ _ _ _ h⟩ <;> (rw [cell_of_row w _ _ _ _ _ h]; rfl)

/-- Blocks made first and second stay under what makes memory alone. -/
theorem keep1 {w w' : World} {o o2 : Obj} (hb : Below ((w.alloc o).alloc o2).heap.size ((w.alloc o).alloc o2) w') : w'.heap[w.heap.size]? = some o :=
  (hb.block _ (by simp; omega)).trans ((Below.heap_alloc _ _ _ (by simp)).trans (heap_alloc_new w o))
theorem keep2 {w w' : World} {o o2 : Obj} (hb : Below ((w.alloc o).alloc o2).heap.size ((w.alloc o).alloc o2) w') : w'.heap[w.heap.size + 1]? = some o2 := by
  have := heap_alloc_new (w.alloc o) o2
  simp at this
  exact (hb.block _ (by simp)).trans (by simpa using this)

set_option maxHeartbeats 2000000 in
set_option maxRecDepth 100000 in
theorem mark_any (v : Value) (m : Mk) (w : World) (h : IsMk w v m) (h16 : m.tags.length * 16 ≤ 140737488355328) (h8 : m.blocks.length * 8 ≤ 140737488355328) :
    Calls Try.prog 33 #[v] w fun e w' => ∃ v2, e = .returned v2 ∧ IsMk w' v2 m ∧ Below w.heap.size w w' := by
  obtain ⟨a, c, a', c', rfl, hS, hW, hn, hm⟩ := h
  have HS := hide hS
  have HW := hide hW
  clear hS hW
  go_enter Try.func33, Try.ntmps33
  go_wp2
  go_region_law (first | (refine step_copyT rfl _ (.tmp 4) rfl (by simp [Act.eval, Act.put]) a c m.tags (by simp [Act.eval, Act.put]) (HS.out.below (bthen (below1 _ _) (below1 _ _)).drew) hn h16 ?_; intro a2 c2 w2 HS2 hb2; have hs2 : w.heap.size + 1 < w2.heap.size := (by have := hb2.size; simp at this; omega); have hs2' : w.heap.size < w2.heap.size := (by omega); have hk2 := (bthen ((Below.refl _ _).drew) hb2); obtain ⟨⟨x0, x1, x2, x3, x4⟩, e0, e1, e2, e3, e4⟩ := box5 (keep1 hk2)) | (refine step_copyI rfl _ (.tmp 7) rfl (by simp [Act.eval]) a' c' m.blocks (by simp [Act.eval, Act.put]) (HW.out.below (bthen (bthen (below1 _ _) (below1 _ _)).drew hb2)) hm h8 ?_; intro a3 c3 w3 HW3 hb3; have hs3 : w.heap.size + 1 < w3.heap.size := (by have := hb3.size; omega); have hs3' : w.heap.size < w3.heap.size := (by omega); obtain ⟨⟨z0, z1, z2, z3, z4⟩, d0, d1, d2, d3, d4⟩ := box5 (keep1 (bthen hk2 hb3))))
  all_goals
    have HK := hide (bthen hk2 hb3)
    obtain ⟨⟨y0, y1, y2, y3, y4⟩, f0, f1, f2, f3, f4⟩ := box5 (keep2 HK.out)
    have HS3 := hide (HS2.out.1.below hb3)
    have HA2 := hide HS2.out.2
    clear hb2 HS2 hb3 hk2 x0 x1 x2 x3 x4 e0 e1 e2 e3 e4
    have n2 : ∀ b off, a2 = some ⟨b, off, none⟩ → w.heap.size + 2 ≤ b := fun b off e => by have := HA2.out b off e; simp at this; omega
    have n3 : ∀ b off, a3 = some ⟨b, off, none⟩ → w.heap.size + 2 ≤ b := fun b off e => by have := HW3.out.2 b off e; omega
    have N2 := hide n2
    have N3 := hide n3
    clear n2 n3 HA2
    go_wp2
    refine bodyPost_ret (v := .agg #[.int .i64 m.kind, .int .i64 m.seq, .int .i64 m.pos, .slice a2 m.tags.length c2, .slice a3 m.blocks.length c3]) (by simp [results, Try.results33, go_sem, y0, y1, y2, y3, y4]) rfl ⟨_, rfl, ⟨a2, c2, a3, c3, rfl, ?_, ?_, hn, hm⟩, ?_⟩
    · repeat refine SegT.setNe ?_ (fun b off e => by have := N2.out b off e; simp; omega) _
      exact HS3.out
    · repeat refine SegI.setNe ?_ (fun b off e => by have := N3.out b off e; simp; omega) _
      exact HW3.out.1
    · have hB : Below w.heap.size w w3 := bthen (bthen (below1 _ _) (below1 _ _)) HK.out
      repeat refine Below.setCell ?_ (by simp) _
      exact hB

end Go.Proofs.Ytjochmogakghjaa
