/-
  The document's own GoodMark, whole.
-/
import Derived.Test.YtjnpndfpajjihaaMGood2
namespace Go.Proofs.Ytjnpndfpajjihaa
open Go.RowKit

set_option maxHeartbeats 400000 in
/-- wastebookref.GoodMark: what is wrong with a mark. -/
theorem goodMark_any (v : Value) (m : Mk) (w : World) (h : IsMk w v m) (h8 : m.tags.length * 8 ≤ 140737488355328) :
    Calls Try.prog 38 #[v] w fun e w' => e = .returned (.int .i64 (goodM m)) ∧ Below w.heap.size w w' := by
  obtain ⟨a, c, a', c', rfl, hT, hI, hn, hn'⟩ := h
  by_cases h1 : m.kind < 1 ∨ 4 < m.kind
  · rw [goodM, if_pos h1]
    exact goodMark_kind _ _ _ _ _ _ _ _ _ w h1
  · by_cases h2 : m.seq < 1 ∨ 2147483647 < m.seq ∨ m.pos < 0 ∨ 23 < m.pos
    · rw [goodM, if_neg h1, if_pos h2]
      exact goodMark_range _ _ _ _ _ _ _ _ _ w (by omega) (by omega) h2
    · by_cases h3 : (m.kind ≠ 1 ∧ m.pos ≠ 0) ∨ (m.kind ≠ 2 ∧ m.tags ≠ []) ∨ (m.kind ≠ 3 ∧ m.blocks ≠ [])
      · rw [goodM, if_neg h1, if_neg h2, if_pos h3]
        refine goodMark_form _ _ _ _ _ _ _ _ _ w (by omega) (by omega) (by omega) (by omega) (by omega) (by omega) hn hn' ?_
        rcases h3 with h | ⟨h, h'⟩ | ⟨h, h'⟩
        · exact .inl h
        · exact .inr (.inl ⟨h, fun e => h' (List.eq_nil_of_length_eq_zero e)⟩)
        · exact .inr (.inr ⟨h, fun e => h' (List.eq_nil_of_length_eq_zero e)⟩)
      · have hg : goodM m = if (m.kind = 2 ∧ (m.tags.length < 1 ∨ 10 < m.tags.length)) ∨ (m.kind = 3 ∧ (m.blocks.length < 1 ∨ 20 < m.blocks.length)) ∨ rises (m.tags.map (·.1)) = false ∨ rises m.blocks = false then 2 else 0 := by
          rw [goodM, if_neg h1, if_neg h2, if_neg h3]
        have hk : m.kind = 1 ∨ m.kind = 2 ∨ m.kind = 3 ∨ m.kind = 4 := by omega
        have f1 : m.kind ≠ 1 → m.pos = 0 := fun e => by
          by_cases x : m.pos = 0
          · exact x
          · exact absurd (.inl ⟨e, x⟩) h3
        have f2 : m.kind ≠ 2 → m.tags = [] := fun e => by
          by_cases x : m.tags = []
          · exact x
          · exact absurd (.inr (.inl ⟨e, x⟩)) h3
        have f3 : m.kind ≠ 3 → m.blocks = [] := fun e => by
          by_cases x : m.blocks = []
          · exact x
          · exact absurd (.inr (.inr ⟨e, x⟩)) h3
        have hq1 : 1 ≤ m.seq := by omega
        have hq2 : m.seq ≤ 2147483647 := by omega
        have hp1 : 0 ≤ m.pos := by omega
        have hp2 : m.pos ≤ 23 := by omega
        clear h1 h2 h3
        obtain ⟨kind, seq, pos, tags, blocks⟩ := m
        dsimp only at *
        rw [hg]
        rcases hk with rfl | rfl | rfl | rfl
        · obtain rfl := f2 (by decide)
          obtain rfl := f3 (by decide)
          rw [if_neg (by simp [rises, risesFrom])]
          exact goodMark_plain 1 seq pos a c a' c' w (.inl rfl) hq1 hq2 hp1 hp2
        · obtain rfl := f1 (by decide)
          obtain rfl := f3 (by decide)
          rw [show (if ((2 : Int) = 2 ∧ (tags.length < 1 ∨ 10 < tags.length)) ∨ ((2 : Int) = 3 ∧ (([] : List Int).length < 1 ∨ 20 < ([] : List Int).length)) ∨ rises (tags.map (·.1)) = false ∨ rises [] = false then (2 : Int) else 0) = tagsE tags from by simp [tagsE, rises, risesFrom]]
          exact goodMark_tags seq a c a' c' tags w hT hn h8 hq1 hq2
        · obtain rfl := f1 (by decide)
          obtain rfl := f2 (by decide)
          rw [show (if ((3 : Int) = 2 ∧ (([] : List (Int × Bool)).length < 1 ∨ 10 < ([] : List (Int × Bool)).length)) ∨ ((3 : Int) = 3 ∧ (blocks.length < 1 ∨ 20 < blocks.length)) ∨ rises (([] : List (Int × Bool)).map (·.1)) = false ∨ rises blocks = false then (2 : Int) else 0) = if (blocks.length < 1 ∨ 20 < blocks.length) ∨ rises blocks = false then 2 else 0 from by simp [rises, risesFrom]]
          exact goodMark_list seq a c a' c' blocks w hI hn' hq1 hq2
        · obtain rfl := f1 (by decide)
          obtain rfl := f2 (by decide)
          obtain rfl := f3 (by decide)
          rw [if_neg (by simp [rises, risesFrom])]
          exact goodMark_plain 4 seq 0 a c a' c' w (.inr ⟨rfl, rfl⟩) hq1 hq2 hp1 hp2

end Go.Proofs.Ytjnpndfpajjihaa
