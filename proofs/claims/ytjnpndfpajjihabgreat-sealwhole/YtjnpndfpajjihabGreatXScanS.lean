/-
  The walk of package scan's readSuper.
-/
import Derived.Test.YtjnpndfpajjihabGreatXScanT
namespace Go.Proofs.YtjnpndfpajjihabGreat
open Go.RowKit

theorem stored5b {w : World} {B : Nat} {z0 z1 z2 z3 z4 : Value} {t : TypeId} (h : w.heap[B]? = some (.cells #[z0, z1, z2, z3, z4] t (0, 0))) (v0 v1 v2 v3 v4 : Value) :
    (((((w.setCell ⟨B, 0, none⟩ v0).setCell ⟨B, 1, none⟩ v1).setCell ⟨B, 2, none⟩ v2).setCell ⟨B, 3, none⟩ v3).setCell ⟨B, 4, none⟩ v4).heap[B]? = some (.cells #[v0, v1, v2, v3, v4] t (0, 0)) := by
  have h0 := heap_setCell_same w B 0 _ _ v0 h
  have h1 := heap_setCell_same _ B 1 _ _ v1 h0
  have h2 := heap_setCell_same _ B 2 _ _ v2 h1
  have h3 := heap_setCell_same _ B 3 _ _ v3 h2
  exact heap_setCell_same _ B 4 _ _ v4 h3
theorem stored5a {w : World} {B : Nat} {z0 z1 z2 z3 z4 : Value} {t : TypeId} (h : w.heap[B]? = some (.cells #[z0, z1, z2, z3, z4] t (0, 0))) (v0 v1 v2 v3 v4 : Value) (o : Obj) :
    ((((((w.setCell ⟨B, 0, none⟩ v0).setCell ⟨B, 1, none⟩ v1).setCell ⟨B, 2, none⟩ v2).setCell ⟨B, 3, none⟩ v3).setCell ⟨B, 4, none⟩ v4).alloc o).heap[B]? = some (.cells #[v0, v1, v2, v3, v4] t (0, 0)) := by
  have h4 := stored5b h v0 v1 v2 v3 v4
  exact boxKeep (below1 _ o) (Array.getElem?_eq_some_iff.1 h4).1 h4
/-- What readSuper answers. -/
def SupPost (w w' : World) (d : Dk) (e : Ending) : Prop :=
  ∃ (k q p : Int) (a2 : Option Addr) (n2 c2 : Nat) (a3 : Option Addr) (n3 c3 : Nat), e = .returned (.tuple #[.agg #[.int .i64 k, .int .i64 q, .int .i64 p, .slice a2 n2 c2, .slice a3 n3 c3], .int .i64 (scanE d)]) ∧ True ∧ (scanE d = 0 → q = (superM d).seq ∧ p = (superM d).pos) ∧ Below w.heap.size w w'

set_option maxHeartbeats 4000000 in
set_option maxRecDepth 100000 in
theorem readSuper_any (a : Option Addr) (c : Nat) (a' : Option Addr) (c' : Nat) (d : Dk) (w : World) (hD : IsDk w (.agg #[.slice a d.safe.length c, .slice a' d.wr.length c']) d) :
    Calls Tryz.prog 80 #[.agg #[.slice a d.safe.length c, .slice a' d.wr.length c']] w fun e w' => SupPost w w' d e := by
  have HD := hide hD
  clear hD
  go_enter Tryz.func80, Tryz.ntmps80
  go_wp2_with fail
  refine (read_any _ d 0 _ (HD.out.below (bthen (below1 _ _) (below1 _ _)))).mono ?_
  rintro e w1 ⟨rfl, hb1⟩
  have KB1 := hide (two2 hb1)
  have hs1 : w.heap.size + 1 < w1.heap.size := by have := hb1.size; simp at this; omega
  have HB1 := hide (bthen (bthen (below1 _ _) (below1 _ _)) hb1)
  clear hb1 HD
  by_cases hE : readE d 0 = 0
  · rw [hE]
    have HE := hide hE
    clear hE
    go_wp2_with fail
    refine (stampDecode_any (readT d 0) _).mono ?_
    rintro e w2 ⟨v2, rfl, hN, hb2⟩
    obtain ⟨a2, c2, a3, c3, rfl, _, _, _, _⟩ := hN
    obtain ⟨M, hM⟩ : ∃ M, M = stampDec (readT d 0) := ⟨_, rfl⟩
    rw [← hM]
    obtain ⟨mk, er⟩ := M
    have HSE : Hid (scanE d = if er ≠ 0 ∨ mk.kind ≠ 1 then 1 else 0) := by rw [Hid, scanE, superM, ← hM, HE.out]; simp
    have HSU : Hid (superM d = mk) := by rw [Hid, superM, ← hM]
    clear hM
    have KB2 := hide (boxKeep hb2 hs1 KB1.out)
    have hs2 : w.heap.size + 1 < w2.heap.size := Nat.lt_of_lt_of_le hs1 hb2.size
    have HB2 := hide (bthen HB1.out hb2)
    clear hb2 KB1 HB1
    dsimp only
    by_cases he : er = 0
    · subst he
      by_cases hk : mk.kind = 1
      · have HS0 : Hid (scanE d = 0) := by rw [Hid, HSE.out, if_neg (by simp [hk])]
        clear HSE
        obtain ⟨⟨z0, z1, z2, z3, z4⟩, zf0, zf1, zf2, zf3, zf4⟩ := box5 KB2.out
        go_wp2
        obtain ⟨W, hW⟩ : ∃ W, W = ((((((w2.setCell ⟨w.heap.size + 1, 0, none⟩ (.int .i64 1)).setCell ⟨w.heap.size + 1, 1, none⟩ (.int .i64 mk.seq)).setCell ⟨w.heap.size + 1, 2, none⟩ (.int .i64 mk.pos)).setCell ⟨w.heap.size + 1, 3, none⟩ (.slice a2 mk.tags.length c2)).setCell ⟨w.heap.size + 1, 4, none⟩ (.slice a3 mk.blocks.length c3)).alloc (.cells #[.int .i64 1, .int .i64 mk.seq, .int .i64 mk.pos, .slice a2 mk.tags.length c2, .slice a3 mk.blocks.length c3] 103)) := ⟨_, rfl⟩
        have hbx := stored5a KB2.out (.int .i64 1) (.int .i64 mk.seq) (.int .i64 mk.pos) (.slice a2 mk.tags.length c2) (.slice a3 mk.blocks.length c3) (.cells #[.int .i64 1, .int .i64 mk.seq, .int .i64 mk.pos, .slice a2 mk.tags.length c2, .slice a3 mk.blocks.length c3] 103)
        rw [← hW] at hbx
        obtain ⟨⟨y0, y1, y2, y3, y4⟩, _⟩ := box5 hbx
        have HW := hide hW
        rw [← hW]
        clear hW hbx z0 z1 z2 z3 z4 zf0 zf1 zf2 zf3 zf4
        refine bodyPost_ret (v := .tuple #[.agg #[.int .i64 1, .int .i64 mk.seq, .int .i64 mk.pos, .slice a2 mk.tags.length c2, .slice a3 mk.blocks.length c3], .int .i64 0]) (by simp [results, Tryz.results80, go_sem, y0, y1, y2, y3, y4]) rfl ?_
        rw [SupPost, HS0.out]
        refine ⟨_, _, _, _, _, _, _, _, _, rfl, ?_, ?_, ?_⟩
        · exact trivial
        · intro h0
          exact ⟨by rw [HSU.out], by rw [HSU.out]⟩
        · rw [HW.out]
          exact ((((((HB2.out.setCell (p := ⟨w.heap.size + 1, 0, none⟩) (by simp) _).setCell (p := ⟨w.heap.size + 1, 1, none⟩) (by simp) _).setCell (p := ⟨w.heap.size + 1, 2, none⟩) (by simp) _).setCell (p := ⟨w.heap.size + 1, 3, none⟩) (by simp) _).setCell (p := ⟨w.heap.size + 1, 4, none⟩) (by simp) _).alloc (by simp [World.setCell]; omega) _)
      · have HS1 : Hid (scanE d = 1) := by rw [Hid, HSE.out, if_pos (.inr hk)]
        have hk' : (mk.kind != 1) = true := by simpa using hk
        clear HSE
        obtain ⟨⟨z0, z1, z2, z3, z4⟩, zf0, zf1, zf2, zf3, zf4⟩ := box5 KB2.out
        go_wp2
        obtain ⟨W, hW⟩ : ∃ W, W = ((((((w2.setCell ⟨w.heap.size + 1, 0, none⟩ (.int .i64 0)).setCell ⟨w.heap.size + 1, 1, none⟩ (.int .i64 0)).setCell ⟨w.heap.size + 1, 2, none⟩ (.int .i64 0)).setCell ⟨w.heap.size + 1, 3, none⟩ (.slice none 0 0)).setCell ⟨w.heap.size + 1, 4, none⟩ (.slice none 0 0)).alloc (.cells #[.int .i64 mk.kind, .int .i64 mk.seq, .int .i64 mk.pos, .slice a2 mk.tags.length c2, .slice a3 mk.blocks.length c3] 103)) := ⟨_, rfl⟩
        have hbx := stored5a KB2.out (.int .i64 0) (.int .i64 0) (.int .i64 0) (.slice none 0 0) (.slice none 0 0) (.cells #[.int .i64 mk.kind, .int .i64 mk.seq, .int .i64 mk.pos, .slice a2 mk.tags.length c2, .slice a3 mk.blocks.length c3] 103)
        rw [← hW] at hbx
        obtain ⟨⟨y0, y1, y2, y3, y4⟩, _⟩ := box5 hbx
        have HW := hide hW
        rw [← hW]
        clear hW hbx z0 z1 z2 z3 z4 zf0 zf1 zf2 zf3 zf4
        refine bodyPost_ret (v := .tuple #[.agg #[.int .i64 0, .int .i64 0, .int .i64 0, .slice none 0 0, .slice none 0 0], .int .i64 (1)]) (by simp [results, Tryz.results80, go_sem, y0, y1, y2, y3, y4]) rfl ?_
        rw [SupPost, HS1.out]
        refine ⟨_, _, _, _, _, _, _, _, _, rfl, ?_, ?_, ?_⟩
        · exact trivial
        · intro h0
          cases h0
        · rw [HW.out]
          exact ((((((HB2.out.setCell (p := ⟨w.heap.size + 1, 0, none⟩) (by simp) _).setCell (p := ⟨w.heap.size + 1, 1, none⟩) (by simp) _).setCell (p := ⟨w.heap.size + 1, 2, none⟩) (by simp) _).setCell (p := ⟨w.heap.size + 1, 3, none⟩) (by simp) _).setCell (p := ⟨w.heap.size + 1, 4, none⟩) (by simp) _).alloc (by simp [World.setCell]; omega) _)
    · have HS1 : Hid (scanE d = 1) := by rw [Hid, HSE.out, if_pos (.inl he)]
      have he' : (er != 0) = true := by simpa using he
      clear HSE
      obtain ⟨⟨z0, z1, z2, z3, z4⟩, zf0, zf1, zf2, zf3, zf4⟩ := box5 KB2.out
      go_wp2
      obtain ⟨W, hW⟩ : ∃ W, W = ((((((w2.setCell ⟨w.heap.size + 1, 0, none⟩ (.int .i64 0)).setCell ⟨w.heap.size + 1, 1, none⟩ (.int .i64 0)).setCell ⟨w.heap.size + 1, 2, none⟩ (.int .i64 0)).setCell ⟨w.heap.size + 1, 3, none⟩ (.slice none 0 0)).setCell ⟨w.heap.size + 1, 4, none⟩ (.slice none 0 0)).alloc (.cells #[.int .i64 mk.kind, .int .i64 mk.seq, .int .i64 mk.pos, .slice a2 mk.tags.length c2, .slice a3 mk.blocks.length c3] 103)) := ⟨_, rfl⟩
      have hbx := stored5a KB2.out (.int .i64 0) (.int .i64 0) (.int .i64 0) (.slice none 0 0) (.slice none 0 0) (.cells #[.int .i64 mk.kind, .int .i64 mk.seq, .int .i64 mk.pos, .slice a2 mk.tags.length c2, .slice a3 mk.blocks.length c3] 103)
      rw [← hW] at hbx
      obtain ⟨⟨y0, y1, y2, y3, y4⟩, _⟩ := box5 hbx
      have HW := hide hW
      rw [← hW]
      clear hW hbx z0 z1 z2 z3 z4 zf0 zf1 zf2 zf3 zf4
      refine bodyPost_ret (v := .tuple #[.agg #[.int .i64 0, .int .i64 0, .int .i64 0, .slice none 0 0, .slice none 0 0], .int .i64 (1)]) (by simp [results, Tryz.results80, go_sem, y0, y1, y2, y3, y4]) rfl ?_
      rw [SupPost, HS1.out]
      refine ⟨_, _, _, _, _, _, _, _, _, rfl, ?_, ?_, ?_⟩
      · exact trivial
      · intro h0
        cases h0
      · rw [HW.out]
        exact ((((((HB2.out.setCell (p := ⟨w.heap.size + 1, 0, none⟩) (by simp) _).setCell (p := ⟨w.heap.size + 1, 1, none⟩) (by simp) _).setCell (p := ⟨w.heap.size + 1, 2, none⟩) (by simp) _).setCell (p := ⟨w.heap.size + 1, 3, none⟩) (by simp) _).setCell (p := ⟨w.heap.size + 1, 4, none⟩) (by simp) _).alloc (by simp [World.setCell]; omega) _)
  · have HS1 : Hid (scanE d = readE d 0) := by rw [Hid, scanE, if_pos hE]
    have hE' : (readE d 0 != 0) = true := by simpa using hE
    have HE := hide hE
    generalize readE d 0 = E at *
    clear hE
    obtain ⟨⟨z0, z1, z2, z3, z4⟩, zf0, zf1, zf2, zf3, zf4⟩ := box5 KB1.out
    go_wp2
    obtain ⟨W, hW⟩ : ∃ W, W = (((((w1.setCell ⟨w.heap.size + 1, 0, none⟩ (.int .i64 0)).setCell ⟨w.heap.size + 1, 1, none⟩ (.int .i64 0)).setCell ⟨w.heap.size + 1, 2, none⟩ (.int .i64 0)).setCell ⟨w.heap.size + 1, 3, none⟩ (.slice none 0 0)).setCell ⟨w.heap.size + 1, 4, none⟩ (.slice none 0 0)) := ⟨_, rfl⟩
    have hbx := stored5b KB1.out (.int .i64 0) (.int .i64 0) (.int .i64 0) (.slice none 0 0) (.slice none 0 0)
    rw [← hW] at hbx
    obtain ⟨⟨y0, y1, y2, y3, y4⟩, _⟩ := box5 hbx
    have HW := hide hW
    rw [← hW]
    clear hW hbx z0 z1 z2 z3 z4 zf0 zf1 zf2 zf3 zf4
    refine bodyPost_ret (v := .tuple #[.agg #[.int .i64 0, .int .i64 0, .int .i64 0, .slice none 0 0, .slice none 0 0], .int .i64 (E)]) (by simp [results, Tryz.results80, go_sem, y0, y1, y2, y3, y4]) rfl ?_
    rw [SupPost, HS1.out]
    refine ⟨_, _, _, _, _, _, _, _, _, rfl, ?_, ?_, ?_⟩
    · exact trivial
    · intro h0
      exact absurd h0 HE.out
    · rw [HW.out]
      exact (((((HB1.out.setCell (p := ⟨w.heap.size + 1, 0, none⟩) (by simp) _).setCell (p := ⟨w.heap.size + 1, 1, none⟩) (by simp) _).setCell (p := ⟨w.heap.size + 1, 2, none⟩) (by simp) _).setCell (p := ⟨w.heap.size + 1, 3, none⟩) (by simp) _).setCell (p := ⟨w.heap.size + 1, 4, none⟩) (by simp) _)

end Go.Proofs.YtjnpndfpajjihabGreat
