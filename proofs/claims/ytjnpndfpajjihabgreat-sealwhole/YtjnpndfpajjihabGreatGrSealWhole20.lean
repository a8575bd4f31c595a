/-
  The walk of package scan's readSuper.
  The walk of package scan's Scan.
  What Scan and the document's ScanLog find, as one.
-/
import Derived.Test.YtjnpndfpajjihabGreatXScanT
namespace Go.Proofs.YtjnpndfpajjihabGreat
open Go.RowKit

theorem stored5b {w : World} {B : Nat} {z0 z1 z2 z3 z4 : Value} {t : TypeId} (h : w.heap[B]? = some (.cells #[z0, z1, z2, z3, z4] t (0, 0))) (v0 v1 v2 v3 v4 : Value) :
    (((((w.setCell ⟨B, 0, none⟩ v0).setCell ⟨B, 1, none⟩ v1).setCell ⟨B, 2, none⟩ v2).setCell ⟨B, 3, none⟩ v3).setCell ⟨B, 4, none⟩ v4).heap[B]? = some (.cells #[v0, v1, v2, v3, v4] t (0, 0)) := by
  have h0 := heap_setCell_same w B 0 _ _ v0 h
  have h1 := heap_setCell_same _ B 1 _ _ v1 h0
  have h2 := heap_setCell_same _ B 2 _ _ v2 h1
  have h3 := heap_setCell_same _ B 3 _ _ v3 h2
  exact heap_setCell_same _ B 4 _ _ v4 h3
theorem stored5a {w : World} {B : Nat} {z0 z1 z2 z3 z4 : Value} {t : TypeId} (h : w.heap[B]? = some (.cells #[z0, z1, z2, z3, z4] t (0, 0))) (v0 v1 v2 v3 v4 : Value) (o : Obj) :
    ((((((w.setCell ⟨B, 0, none⟩ v0).setCell ⟨B, 1, none⟩ v1).setCell ⟨B, 2, none⟩ v2).setCell ⟨B, 3, none⟩ v3).setCell ⟨B, 4, none⟩ v4).alloc o).heap[B]? = some (.cells #[v0, v1, v2, v3, v4] t (0, 0)) := by
  have h4 := stored5b h v0 v1 v2 v3 v4
  exact boxKeep (below1 _ o) (Array.getElem?_eq_some_iff.1 h4).1 h4
/-- What readSuper answers. -/
def SupPost (w w' : World) (d : Dk) (e : Ending) : Prop :=
  ∃ (k q p : Int) (a2 : Option Addr) (n2 c2 : Nat) (a3 : Option Addr) (n3 c3 : Nat), e = .returned (.tuple #[.agg #[.int .i64 k, .int .i64 q, .int .i64 p, .slice a2 n2 c2, .slice a3 n3 c3], .int .i64 (scanE d)]) ∧ True ∧ (scanE d = 0 → q = (superM d).seq ∧ p = (superM d).pos) ∧ Below w.heap.size w w'

set_option maxHeartbeats 4000000 in
set_option maxRecDepth 100000 in
theorem readSuper_any (a : Option Addr) (c : Nat) (a' : Option Addr) (c' : Nat) (d : Dk) (w : World) (hD : IsDk w (.agg #[.slice a d.safe.length c, .slice a' d.wr.length c']) d) :
    Calls Tryz.prog 80 #[.agg #[.slice a d.safe.length c, .slice a' d.wr.length c']] w fun e w' => SupPost w w' d e := by
  have HD := hide hD
  clear hD
  go_enter Tryz.func80, Tryz.ntmps80
  go_wp2_with fail
  refine (read_any _ d 0 _ (HD.out.below (bthen (below1 _ _) (below1 _ _)))).mono ?_
  rintro e w1 ⟨rfl, hb1⟩
  have KB1 := hide (two2 hb1)
  have hs1 : w.heap.size + 1 < w1.heap.size := by have := hb1.size; simp at this; omega
  have HB1 := hide (bthen (bthen (below1 _ _) (below1 _ _)) hb1)
  clear hb1 HD
  by_cases hE : readE d 0 = 0
  · rw [hE]
    have HE := hide hE
    clear hE
    go_wp2_with fail
    refine (stampDecode_any (readT d 0) _).mono ?_
    rintro e w2 ⟨v2, rfl, hN, hb2⟩
    obtain ⟨a2, c2, a3, c3, rfl, _, _, _, _⟩ := hN
    obtain ⟨M, hM⟩ : ∃ M, M = stampDec (readT d 0) := ⟨_, rfl⟩
    rw [← hM]
    obtain ⟨mk, er⟩ := M
    have HSE : Hid (scanE d = if er ≠ 0 ∨ mk.kind ≠ 1 then 1 else 0) := by rw [Hid, scanE, superM, ← hM, HE.out]; simp
    have HSU : Hid (superM d = mk) := by rw [Hid, superM, ← hM]
    clear hM
    have KB2 := hide (boxKeep hb2 hs1 KB1.out)
    have hs2 : w.heap.size + 1 < w2.heap.size := Nat.lt_of_lt_of_le hs1 hb2.size
    have HB2 := hide (bthen HB1.out hb2)
    clear hb2 KB1 HB1
    dsimp only
    by_cases he : er = 0
    · subst he
      by_cases hk : mk.kind = 1
      · have HS0 : Hid (scanE d = 0) := by rw [Hid, HSE.out, if_neg (by simp [hk])]
        clear HSE
        obtain ⟨⟨z0, z1, z2, z3, z4⟩, zf0, zf1, zf2, zf3, zf4⟩ := box5 KB2.out
        go_wp2
        obtain ⟨W, hW⟩ : ∃ W, W = ((((((w2.setCell ⟨w.heap.size + 1, 0, none⟩ (.int .i64 1)).setCell ⟨w.heap.size + 1, 1, none⟩ (.int .i64 mk.seq)).setCell ⟨w.heap.size + 1, 2, none⟩ (.int .i64 mk.pos)).setCell ⟨w.heap.size + 1, 3, none⟩ (.slice a2 mk.tags.length c2)).setCell ⟨w.heap.size + 1, 4, none⟩ (.slice a3 mk.blocks.length c3)).alloc (.cells #[.int .i64 1, .int .i64 mk.seq, .int .i64 mk.pos, .slice a2 mk.tags.length c2, .slice a3 mk.blocks.length c3] 103)) := ⟨_, rfl⟩
        have hbx := stored5a KB2.out (.int .i64 1) (.int .i64 mk.seq) (.int .i64 mk.pos) (.slice a2 mk.tags.length c2) (.slice a3 mk.blocks.length c3) (.cells #[.int .i64 1, .int .i64 mk.seq, .int .i64 mk.pos, .slice a2 mk.tags.length c2, .slice a3 mk.blocks.length c3] 103)
        rw [← hW] at hbx
        obtain ⟨⟨y0, y1, y2, y3, y4⟩, _⟩ := box5 hbx
        have HW := hide hW
        rw [← hW]
        clear hW hbx z0 z1 z2 z3 z4 zf0 zf1 zf2 zf3 zf4
        refine bodyPost_ret (v := .tuple #[.agg #[.int .i64 1, .int .i64 mk.seq, .int .i64 mk.pos, .slice a2 mk.tags.length c2, .slice a3 mk.blocks.length c3], .int .i64 0]) (by simp [results, Tryz.results80, go_sem, y0, y1, y2, y3, y4]) rfl ?_
        rw [SupPost, HS0.out]
        refine ⟨_, _, _, _, _, _, _, _, _, rfl, ?_, ?_, ?_⟩
        · exact trivial
        · intro h0
          exact ⟨by rw [HSU.out], by rw [HSU.out]⟩
        · rw [HW.out]
          exact ((((((HB2.out.setCell (p := ⟨w.heap.size + 1, 0, none⟩) (by simp) _).setCell (p := ⟨w.heap.size + 1, 1, none⟩) (by simp) _).setCell (p := ⟨w.heap.size + 1, 2, none⟩) (by simp) _).setCell (p := ⟨w.heap.size + 1, 3, none⟩) (by simp) _).setCell (p := ⟨w.heap.size + 1, 4, none⟩) (by simp) _).alloc (by simp [World.setCell]; omega) _)
      · have HS1 : Hid (scanE d = 1) := by rw [Hid, HSE.out, if_pos (.inr hk)]
        have hk' : (mk.kind != 1) = true := by simpa using hk
        clear HSE
        obtain ⟨⟨z0, z1, z2, z3, z4⟩, zf0, zf1, zf2, zf3, zf4⟩ := box5 KB2.out
        go_wp2
        obtain ⟨W, hW⟩ : ∃ W, W = ((((((w2.setCell ⟨w.heap.size + 1, 0, none⟩ (.int .i64 0)).setCell ⟨w.heap.size + 1, 1, none⟩ (.int .i64 0)).setCell ⟨w.heap.size + 1, 2, none⟩ (.int .i64 0)).setCell ⟨w.heap.size + 1, 3, none⟩ (.slice none 0 0)).setCell ⟨w.heap.size + 1, 4, none⟩ (.slice none 0 0)).alloc (.cells #[.int .i64 mk.kind, .int .i64 mk.seq, .int .i64 mk.pos, .slice a2 mk.tags.length c2, .slice a3 mk.blocks.length c3] 103)) := ⟨_, rfl⟩
        have hbx := stored5a KB2.out (.int .i64 0) (.int .i64 0) (.int .i64 0) (.slice none 0 0) (.slice none 0 0) (.cells #[.int .i64 mk.kind, .int .i64 mk.seq, .int .i64 mk.pos, .slice a2 mk.tags.length c2, .slice a3 mk.blocks.length c3] 103)
        rw [← hW] at hbx
        obtain ⟨⟨y0, y1, y2, y3, y4⟩, _⟩ := box5 hbx
        have HW := hide hW
        rw [← hW]
        clear hW hbx z0 z1 z2 z3 z4 zf0 zf1 zf2 zf3 zf4
        refine bodyPost_ret (v := .tuple #[.agg #[.int .i64 0, .int .i64 0, .int .i64 0, .slice none 0 0, .slice none 0 0], .int .i64 (1)]) (by simp [results, Tryz.results80, go_sem, y0, y1, y2, y3, y4]) rfl ?_
        rw [SupPost, HS1.out]
        refine ⟨_, _, _, _, _, _, _, _, _, rfl, ?_, ?_, ?_⟩
        · exact trivial
        · intro h0
          cases h0
        · rw [HW.out]
          exact ((((((HB2.out.setCell (p := ⟨w.heap.size + 1, 0, none⟩) (by simp) _).setCell (p := ⟨w.heap.size + 1, 1, none⟩) (by simp) _).setCell (p := ⟨w.heap.size + 1, 2, none⟩) (by simp) _).setCell (p := ⟨w.heap.size + 1, 3, none⟩) (by simp) _).setCell (p := ⟨w.heap.size + 1, 4, none⟩) (by simp) _).alloc (by simp [World.setCell]; omega) _)
    · have HS1 : Hid (scanE d = 1) := by rw [Hid, HSE.out, if_pos (.inl he)]
      have he' : (er != 0) = true := by simpa using he
      clear HSE
      obtain ⟨⟨z0, z1, z2, z3, z4⟩, zf0, zf1, zf2, zf3, zf4⟩ := box5 KB2.out
      go_wp2
      obtain ⟨W, hW⟩ : ∃ W, W = ((((((w2.setCell ⟨w.heap.size + 1, 0, none⟩ (.int .i64 0)).setCell ⟨w.heap.size + 1, 1, none⟩ (.int .i64 0)).setCell ⟨w.heap.size + 1, 2, none⟩ (.int .i64 0)).setCell ⟨w.heap.size + 1, 3, none⟩ (.slice none 0 0)).setCell ⟨w.heap.size + 1, 4, none⟩ (.slice none 0 0)).alloc (.cells #[.int .i64 mk.kind, .int .i64 mk.seq, .int .i64 mk.pos, .slice a2 mk.tags.length c2, .slice a3 mk.blocks.length c3] 103)) := ⟨_, rfl⟩
      have hbx := stored5a KB2.out (.int .i64 0) (.int .i64 0) (.int .i64 0) (.slice none 0 0) (.slice none 0 0) (.cells #[.int .i64 mk.kind, .int .i64 mk.seq, .int .i64 mk.pos, .slice a2 mk.tags.length c2, .slice a3 mk.blocks.length c3] 103)
      rw [← hW] at hbx
      obtain ⟨⟨y0, y1, y2, y3, y4⟩, _⟩ := box5 hbx
      have HW := hide hW
      rw [← hW]
      clear hW hbx z0 z1 z2 z3 z4 zf0 zf1 zf2 zf3 zf4
      refine bodyPost_ret (v := .tuple #[.agg #[.int .i64 0, .int .i64 0, .int .i64 0, .slice none 0 0, .slice none 0 0], .int .i64 (1)]) (by simp [results, Tryz.results80, go_sem, y0, y1, y2, y3, y4]) rfl ?_
      rw [SupPost, HS1.out]
      refine ⟨_, _, _, _, _, _, _, _, _, rfl, ?_, ?_, ?_⟩
      · exact trivial
      · intro h0
        cases h0
      · rw [HW.out]
        exact ((((((HB2.out.setCell (p := ⟨w.heap.size + 1, 0, none⟩) (by simp) _).setCell (p := ⟨w.heap.size + 1, 1, none⟩) (by simp) _).setCell (p := ⟨w.heap.size + 1, 2, none⟩) (by simp) _).setCell (p := ⟨w.heap.size + 1, 3, none⟩) (by simp) _).setCell (p := ⟨w.heap.size + 1, 4, none⟩) (by simp) _).alloc (by simp [World.setCell]; omega) _)
  · have HS1 : Hid (scanE d = readE d 0) := by rw [Hid, scanE, if_pos hE]
    have hE' : (readE d 0 != 0) = true := by simpa using hE
    have HE := hide hE
    generalize readE d 0 = E at *
    clear hE
    obtain ⟨⟨z0, z1, z2, z3, z4⟩, zf0, zf1, zf2, zf3, zf4⟩ := box5 KB1.out
    go_wp2
    obtain ⟨W, hW⟩ : ∃ W, W = (((((w1.setCell ⟨w.heap.size + 1, 0, none⟩ (.int .i64 0)).setCell ⟨w.heap.size + 1, 1, none⟩ (.int .i64 0)).setCell ⟨w.heap.size + 1, 2, none⟩ (.int .i64 0)).setCell ⟨w.heap.size + 1, 3, none⟩ (.slice none 0 0)).setCell ⟨w.heap.size + 1, 4, none⟩ (.slice none 0 0)) := ⟨_, rfl⟩
    have hbx := stored5b KB1.out (.int .i64 0) (.int .i64 0) (.int .i64 0) (.slice none 0 0) (.slice none 0 0)
    rw [← hW] at hbx
    obtain ⟨⟨y0, y1, y2, y3, y4⟩, _⟩ := box5 hbx
    have HW := hide hW
    rw [← hW]
    clear hW hbx z0 z1 z2 z3 z4 zf0 zf1 zf2 zf3 zf4
    refine bodyPost_ret (v := .tuple #[.agg #[.int .i64 0, .int .i64 0, .int .i64 0, .slice none 0 0, .slice none 0 0], .int .i64 (E)]) (by simp [results, Tryz.results80, go_sem, y0, y1, y2, y3, y4]) rfl ?_
    rw [SupPost, HS1.out]
    refine ⟨_, _, _, _, _, _, _, _, _, rfl, ?_, ?_, ?_⟩
    · exact trivial
    · intro h0
      exact absurd h0 HE.out
    · rw [HW.out]
      exact (((((HB1.out.setCell (p := ⟨w.heap.size + 1, 0, none⟩) (by simp) _).setCell (p := ⟨w.heap.size + 1, 1, none⟩) (by simp) _).setCell (p := ⟨w.heap.size + 1, 2, none⟩) (by simp) _).setCell (p := ⟨w.heap.size + 1, 3, none⟩) (by simp) _).setCell (p := ⟨w.heap.size + 1, 4, none⟩) (by simp) _)

end Go.Proofs.YtjnpndfpajjihabGreat

namespace Go.Proofs.YtjnpndfpajjihabGreat
open Go.RowKit

theorem box3 {w : World} {B : Nat} {v0 v1 v2 : Value} {t : TypeId} (h : w.heap[B]? = some (.cells #[v0, v1, v2] t (0, 0))) :
    (w.cell? ⟨B, 0, none⟩ = some v0 ∧ w.cell? ⟨B, 1, none⟩ = some v1 ∧ w.cell? ⟨B, 2, none⟩ = some v2) ∧ ∀ k, w.frozen? ⟨B, k, none⟩ = false := by
  refine ⟨⟨?_, ?_, ?_⟩, fun k => frozen_of_row w _ _ _ _ h⟩ <;> (rw [cell_of_row w _ _ _ _ _ h]; rfl)
theorem stored3 {w : World} {B : Nat} {z0 z1 z2 : Value} {t : TypeId} (h : w.heap[B]? = some (.cells #[z0, z1, z2] t (0, 0))) (v0 v1 v2 : Value) :
    (((w.setCell ⟨B, 0, none⟩ v0).setCell ⟨B, 1, none⟩ v1).setCell ⟨B, 2, none⟩ v2).heap[B]? = some (.cells #[v0, v1, v2] t (0, 0)) := by
  have h0 := heap_setCell_same w B 0 _ _ v0 h
  have h1 := heap_setCell_same _ B 1 _ _ v1 h0
  exact heap_setCell_same _ B 2 _ _ v2 h1
theorem stored3a {w : World} {B : Nat} {z0 z1 z2 : Value} {t : TypeId} (h : w.heap[B]? = some (.cells #[z0, z1, z2] t (0, 0))) (v0 v1 v2 : Value) (o : Obj) :
    ((((w.setCell ⟨B, 0, none⟩ v0).setCell ⟨B, 1, none⟩ v1).setCell ⟨B, 2, none⟩ v2).alloc o).heap[B]? = some (.cells #[v0, v1, v2] t (0, 0)) := by
  have h4 := stored3 h v0 v1 v2
  exact boxKeep (below1 _ o) (Array.getElem?_eq_some_iff.1 h4).1 h4
theorem owns_set3 {w : World} {base : Nat} {e : TypeId} {size : Nat} {v : Value} {n : Nat} {xs : List Value} {B : Nat} {v0 v1 v2 : Value} (h : w.ownsRow base e size v n xs) (hb : ∀ k, v.ownBlock = some k → k ≠ B) : (((w.setCell ⟨B, 0, none⟩ v0).setCell ⟨B, 1, none⟩ v1).setCell ⟨B, 2, none⟩ v2).ownsRow base e size v n xs :=
  owns_setNe (owns_setNe (owns_setNe h (p := ⟨B, 0, none⟩) hb v0) (p := ⟨B, 1, none⟩) hb v1) (p := ⟨B, 2, none⟩) hb v2
theorem OwnR.ne {w : World} {base : Nat} {x : RX} (h : OwnR w base x) {B : Nat} (hB : B < base) : (∀ k, x.m.ownBlock = some k → k ≠ B) ∧ (∀ k, x.d.ownBlock = some k → k ≠ B) ∧ ∀ k, x.r.ownBlock = some k → k ≠ B :=
  ⟨fun k hk => by have := (h.1.lt k hk).1; omega, fun k hk => by have := (h.2.1.lt k hk).1; omega, fun k hk => by have := (h.2.2.lt k hk).1; omega⟩
theorem OwnR.set3 {w : World} {base B : Nat} {x : RX} {v0 v1 v2 : Value} (h : OwnR w base x) (hB : B < base) : OwnR (((w.setCell ⟨B, 0, none⟩ v0).setCell ⟨B, 1, none⟩ v1).setCell ⟨B, 2, none⟩ v2) base x :=
  ⟨owns_set3 h.1 (h.ne hB).1, owns_set3 h.2.1 (h.ne hB).2.1, owns_set3 h.2.2 (h.ne hB).2.2⟩
theorem OwnR.base {w : World} {b b' : Nat} {x : RX} (h : OwnR w b x) (hb : b' ≤ b) : OwnR w b' x := ⟨owns_base h.1 hb, owns_base h.2.1 hb, owns_base h.2.2 hb⟩
theorem OwnR.but {R base : Nat} {w w' : World} {x : RX} (h : OwnR w base x) (hb : But R w.heap.size w w') (hR : R < base) : OwnR w' base x := ⟨owns_but h.1 hb hR, owns_but h.2.1 hb hR, owns_but h.2.2 hb hR⟩
/-- How many blocks a reader has left. -/
def leftAt (w : World) (R : Nat) : Nat := match w.cell? ⟨R, 3, none⟩ with | some (.int _ n) => n.toNat | _ => 0
theorem Rd.left {w : World} {R : Nat} {a : Option Addr} {c : Nat} {a' : Option Addr} {c' : Nat} {d : Dk} {p0 i : Nat} (h : Rd w R a c a' c' d p0 i) : leftAt w R = 24 - i := by
  rw [leftAt, (box4 h).1.2.2.2]; simp
/-- What Scan answers. -/
def ScPost (w w' : World) (d : Dk) (e : Ending) : Prop :=
  ∃ v, e = .returned (.tuple #[v, .int .i64 (scanE d)]) ∧ Below w.heap.size w w' ∧ (scanE d ≠ 0 → v = .agg #[.slice none 0 0, .int .i64 0, .int .i64 0]) ∧
    (scanE d = 0 → ∃ (q : List RX) (va : Option Addr) (vc : Nat), v = .agg #[.slice va q.length vc, .int .i64 ((superM d).seq + (q.length : Int)), .int .i64 ((((superM d).pos.toNat + (scanL d).2) % 24 : Nat) : Int)] ∧ q.map (·.t) = (scanL d).1 ∧ w'.ownsRow w.heap.size 28 10 (.slice va q.length vc) q.length (cellsX q) ∧ ∀ x ∈ q, OwnR w' w.heap.size x)

set_option maxHeartbeats 8000000 in
set_option maxRecDepth 100000 in
theorem scan_any (a : Option Addr) (c : Nat) (a' : Option Addr) (c' : Nat) (d : Dk) (w : World) (hD : IsDk w (.agg #[.slice a d.safe.length c, .slice a' d.wr.length c']) d) :
    Calls Tryz.prog 28 #[.agg #[.slice a d.safe.length c, .slice a' d.wr.length c']] w fun e w' => ScPost w w' d e := by
  have HD := hide hD
  clear hD
  go_enter Tryz.func28, Tryz.ntmps28
  go_wp2_with fail
  refine (readSuper_any a c a' c' d _ (HD.out.below (bthen (below1 _ _) (below1 _ _)))).mono ?_
  rintro e w1 ⟨k, q0, p, a2, n2, c2, a3, n3, c3, rfl, _, hsu, hb1⟩
  have K0 := hide (two1 hb1)
  have KB := hide (two2 hb1)
  have hs1 : w.heap.size + 1 < w1.heap.size := by have := hb1.size; simp at this; omega
  have hs1' : w.heap.size < w1.heap.size := by omega
  have HB1 := hide (bthen (bthen (below1 _ _) (below1 _ _)) hb1)
  clear hb1
  by_cases hE : scanE d = 0
  · obtain ⟨rfl, rfl⟩ := hsu hE
    rw [hE]
    have HS0 := hide hE
    -- the disk is good, the super block too
    have hgd : goodB d = true ∧ (1 ≤ (superM d).seq ∧ (superM d).seq ≤ 2147483647) ∧ 0 ≤ (superM d).pos ∧ (superM d).pos ≤ 23 := by
      have h := hE
      unfold scanE at h
      split at h
      · rename_i h1; exact absurd h h1
      · rename_i h1
        split at h
        · cases h
        · rename_i h2
          have h3 : (stampDec (readT d 0)).2 = 0 := by
            by_cases hx : (stampDec (readT d 0)).2 = 0
            · exact hx
            · exact absurd (.inl hx) h2
          have h4 := dec_good h3
          have h5 : readE d 0 = 0 := by
            by_cases hx : readE d 0 = 0
            · exact hx
            · exact absurd hx h1
          refine ⟨?_, ?_⟩
          · unfold readE at h5
            split at h5
            · rename_i hx; exact (Bool.and_eq_true_iff.1 hx).1
            · cases h5
          · unfold goodM at h4
            split at h4
            · cases h4
            · split at h4
              · cases h4
              · rename_i hx
                show (1 ≤ (stampDec (readT d 0)).1.seq ∧ _) ∧ _
                unfold superM
                omega
    obtain ⟨hg, ⟨hq0, hq1⟩, hp0, hp1⟩ := hgd
    have HL : Hid (scanL d = scanP (logOf d (superM d).pos) 0 (superM d).seq []) := rfl
    obtain ⟨p0, hp⟩ : ∃ p0 : Nat, (superM d).pos = (p0 : Int) := ⟨(superM d).pos.toNat, by omega⟩
    have HPOS : Hid ((superM d).pos.toNat = p0) := by rw [Hid, hp]; rfl
    rw [hp] at HL ⊢
    have hp24 : p0 < 24 := by omega
    have HP0 := hide hp
    generalize hsq0 : (superM d).seq = q0 at *
    have HSQ := hide hsq0
    clear hE hsu hp hp0 hp1 hsq0
    obtain ⟨⟨x0, x1⟩, xf⟩ := box2 K0.out
    go_wp2
    clear x0 x1 xf
    obtain ⟨W0, hW0⟩ : ∃ W0, W0 = ((w1.alloc (.cells #[.int .i64 k, .int .i64 q0, .int .i64 (p0 : Int), .slice a2 n2 c2, .slice a3 n3 c3] 103)).alloc (.cells #[.slice none 0 0, .int .i64 q0, .int .i64 (p0 : Int)] 62)).alloc (.cells #[.slice a d.safe.length c, .slice a' d.wr.length c', .int .i64 (p0 : Int), .int .i64 24] 126) := ⟨_, rfl⟩
    have hb0 : Below w1.heap.size w1 W0 := by rw [hW0]; exact bthen (bthen (below1 _ _) (below1 _ _)) (below1 _ _)
    have hthree : W0.heap[w1.heap.size + 1]? = some (.cells #[.slice none 0 0, .int .i64 q0, .int .i64 (p0 : Int)] 62 (0, 0)) ∧ W0.heap[w1.heap.size + 1 + 1]? = some (.cells #[.slice a d.safe.length c, .slice a' d.wr.length c', .int .i64 (p0 : Int), .int .i64 24] 126 (0, 0)) ∧ w1.heap.size + 1 + 1 < W0.heap.size := by
      rw [hW0]
      obtain ⟨_, K2, K3, hs⟩ := three1 (Below.refl _ _)
      exact ⟨K2, K3, hs⟩
    rw [← hW0]
    clear hW0
    have KF0 := hide hthree.1
    have hm0 : (p0 + 0) % 24 = p0 := by omega
    have HR0 : Hid (Rd W0 (w1.heap.size + 1 + 1) a c a' c' d p0 0) := by rw [Hid, Rd, hm0]; exact hthree.2.1
    have hsW := hthree.2.2
    have KB0 := hide (boxKeep hb0 hs1 KB.out)
    have HB0 := hide (bthen HB1.out hb0)
    have HLP : Hid (scanP (logOf d p0) 0 (q0 + (([] : List RX).length : Int)) (([] : List RX).map (·.t)) = scanL d) := by rw [Hid, HL.out]; simp
    clear hthree hb0 KB HB1 K0 HL
    go_loopw [9] (fun _ wr => ∃ (pos : Nat) (sq : Int) (q : List RX) (va : Option Addr) (vc : Nat), pos ≤ 24 ∧ sq = q0 + (q.length : Int) ∧ q.length ≤ pos ∧ Hid (scanP (logOf d p0) pos sq (q.map (·.t)) = scanL d) ∧ Hid (Rd wr (w1.heap.size + 1 + 1) a c a' c' d p0 pos) ∧ Hid (Below w.heap.size w wr) ∧ w1.heap.size + 1 + 1 < wr.heap.size ∧ Hid (wr.heap[w.heap.size + 1]? = some (.cells #[.slice none 0 0, .int .i64 0, .int .i64 0] 62 (0, 0))) ∧
        Hid (wr.heap[w1.heap.size + 1]? = some (.cells #[.slice va q.length vc, .int .i64 sq, .int .i64 (((p0 + pos) % 24 : Nat) : Int)] 62 (0, 0))) ∧ Hid (wr.ownsRow (w1.heap.size + 3) 28 10 (.slice va q.length vc) q.length (cellsX q)) ∧ Hid (∀ x ∈ q, OwnR wr (w1.heap.size + 3) x))
      (fun _ wr => leftAt wr (w1.heap.size + 1 + 1))
    case atStart => exact ⟨0, q0 + (([] : List RX).length : Int), [], none, 0, Nat.zero_le _, rfl, Nat.zero_le _, HLP, HR0, HB0, hsW, KB0, by rw [hm0]; simpa using KF0, World.ownsRow_nil _ _ _ _, fun x hx => (by cases hx)⟩
    case round =>
      clear KF0 HR0 hsW KB0 HB0 HLP
      obtain ⟨pos, sq, q, va, vc, hpos, hsq, hql, HLP, HRr, HB, hsz, KB, KF, HO, HX⟩ := hrel
      rw [HRr.out.left]
      have HQS := hide hsq
      clear hsq
      have hRR : w.heap.size ≤ w1.heap.size + 1 + 1 := by omega
      by_cases hlt : sq < 2147483647
      · obtain ⟨⟨x0, x1, x2⟩, xf⟩ := box3 KF.out
        go_wp2_with fail
        refine (rtrans_any (w1.heap.size + 1 + 1) a c a' c' d p0 pos sq wr w HRr.out hpos HD.out hg HB.out hRR).mono ?_
        rintro e w2 ⟨v, b, rfl, hBut, hT⟩
        have hs2 := hBut.size
        have KB3 : Hid (w2.heap[w.heap.size + 1]? = _) := (hBut.block _ (by omega) (by omega)).trans KB.out
        have KF3 : Hid (w2.heap[w1.heap.size + 1]? = _) := (hBut.block _ (by omega) (by omega)).trans KF.out
        have HB2 : Hid (Below w.heap.size w w2) := hBut.below HB.out HB.out.size hRR
        have HO3 := hide (owns_but HO.out hBut (by omega))
        have HX3 : Hid (∀ x ∈ q, OwnR w2 (w1.heap.size + 3) x) := fun x hx => (HX.out x hx).but hBut (by omega)
        clear x0 x1 x2 xf KB KF HB HO HX HRr
        cases hrun : runT (logOf d p0) sq pos (txOf sq) with
        | none =>
          rw [TPost, hrun] at hT
          obtain ⟨rfl, rfl⟩ := hT
          have HEND : Hid (scanL d = (q.map (·.t), pos)) := by rw [Hid, ← HLP.out, scanP, dif_pos hlt, hrun]
          clear hrun HLP hBut
          have hz2 : w.heap.size + 1 < w2.heap.size := by omega
          have hz3 : w1.heap.size + 1 < w2.heap.size := by omega
          obtain ⟨m3, hm3⟩ : ∃ m3 : Nat, m3 = (p0 + pos) % 24 := ⟨_, rfl⟩
          rw [← hm3] at KF3
          have HM3 := hide hm3
          clear hm3
          obtain ⟨⟨z0, z1, z2⟩, zf⟩ := box3 KB3.out
          obtain ⟨⟨x0, x1, x2⟩, xf⟩ := box3 KF3.out
          go_wp2
          clear x0 x1 x2 xf
          obtain ⟨W, hW⟩ : ∃ W, W = ((((w2.setCell ⟨w.heap.size + 1, 0, none⟩ (.slice va q.length vc)).setCell ⟨w.heap.size + 1, 1, none⟩ (.int .i64 sq)).setCell ⟨w.heap.size + 1, 2, none⟩ (.int .i64 (m3 : Int))).alloc (.cells #[.int .i64 0, .slice none 0 0, .slice none 0 0, .slice none 0 0, .bool false, .int .i64 0, .bool false, .int .i64 0, .bool false, .int .i64 0] 28)) := ⟨_, rfl⟩
          have hbx := stored3a KB3.out (.slice va q.length vc) (.int .i64 sq) (.int .i64 (m3 : Int)) (.cells #[.int .i64 0, .slice none 0 0, .slice none 0 0, .slice none 0 0, .bool false, .int .i64 0, .bool false, .int .i64 0, .bool false, .int .i64 0] 28)
          rw [← hW] at hbx
          obtain ⟨⟨y0, y1, y2⟩, _⟩ := box3 hbx
          have HW := hide hW
          rw [← hW]
          clear hW hbx z0 z1 z2 zf
          refine bodyPost_ret (v := .tuple #[.agg #[.slice va q.length vc, .int .i64 sq, .int .i64 (m3 : Int)], .int .i64 0]) (by simp [results, Tryz.results28, go_sem, y0, y1, y2]) rfl ?_
          rw [ScPost, HS0.out]
          refine ⟨_, rfl, ?_, fun h => absurd rfl h, fun _ => ⟨q, va, vc, ?_, ?_, ?_, ?_⟩⟩
          · rw [HW.out]
            exact (((HB2.out.setCell (p := ⟨w.heap.size + 1, 0, none⟩) (by simp) _).setCell (p := ⟨w.heap.size + 1, 1, none⟩) (by simp) _).setCell (p := ⟨w.heap.size + 1, 2, none⟩) (by simp) _).alloc (by simp [World.setCell]; omega) _
          · rw [HPOS.out, HEND.out, HSQ.out, ← HQS.out, HM3.out]
          · rw [HEND.out]
          · rw [HW.out]
            refine owns_base (owns_keep (owns_set3 HO3.out ?_) (below1 _ _)) (show w.heap.size ≤ w1.heap.size + 3 by omega)
            intro k hk
            have := (HO3.out.lt k hk).1
            omega
          · intro x hx
            rw [HW.out]
            exact OwnR.base (OwnR.below (OwnR.set3 (HX3.out x hx) (by omega)) (below1 _ _)) (by omega)
        | some nt =>
          obtain ⟨n, t⟩ := nt
          rw [TPost, hrun] at hT
          obtain ⟨rfl, hR2, tm, tr, rfl, hOt, ht⟩ := hT
          have hn := runT_bound (logOf d p0) sq 24 pos (txOf sq) n t (by rw [logOf_length]; omega) hrun
          rw [logOf_length] at hn
          have HLP2 : Hid (scanP (logOf d p0) n (sq + 1) (q.map (·.t) ++ [t]) = scanL d) := by rw [Hid, ← HLP.out, scanP.eq_def (logOf d p0) pos, dif_pos hlt, hrun]
          have HOT : Hid (OwnR w2 (w1.heap.size + 3) ⟨tm, .slice none 0 0, tr, t⟩) := hOt.base (by omega)
          obtain ⟨ti, tv, ht2⟩ : ∃ ti tv, t = txW sq ti tv := ⟨_, _, ht⟩
          subst ht2
          obtain ⟨ma, mc, _, _, ra, rc, e1, _, e3, _⟩ := HOT.out.tx
          simp only at e1 e3
          subst e1 e3
          have HR2 := hide hR2
          clear hrun HLP hBut hOt ht hR2
          have hz2 : w.heap.size + 1 < w2.heap.size := by omega
          have hz3 : w1.heap.size + 1 < w2.heap.size := by omega
          have hql2 : q.length ≤ 24 := by omega
          obtain ⟨⟨x0, x1, x2⟩, xf⟩ := box3 KF3.out
          go_wp2_with (at_builtin; refine wpList_appX rfl _ _ rfl (w1.heap.size + 3) _ q rfl (owns_keep HO3.out (bthen (below1 _ _) (below1 _ _))) (w2.heap.size + 1) ⟨.slice ma (txW sq ti tv).info.length mc, .slice none 0 0, .slice ra (txW sq ti tv).rev.length rc, txW sq ti tv⟩ rfl (news10 (by simp [go_sem, txW]) (by simp [go_sem, txW]) (by simp [go_sem, txW]) (by simp [go_sem, txW]) (by simp [go_sem, txW]) (by simp [go_sem, txW]) (by simp [go_sem, txW]) (by simp [go_sem, txW]) (by simp [go_sem, txW]) (by simp [go_sem, txW])) HOT.out.one (by omega) (by simp; omega) ?_)
          intro v3 w3 hO4 hg4
          obtain ⟨qn, hqn⟩ : ∃ qn, qn = q ++ [(⟨.slice ma (txW sq ti tv).info.length mc, .slice none 0 0, .slice ra (txW sq ti tv).rev.length rc, txW sq ti tv⟩ : RX)] := ⟨_, rfl⟩
          have hqnl : qn.length = q.length + 1 := by rw [hqn]; simp
          have hO5 := owns_n hO4 (show _ = qn.length by simp [hqn])
          rw [← hqn] at hO5
          have hB2 : Below w2.heap.size w2 _ := bthen (below1 w2 (.cells #[.int .i64 sq, .slice ma ti.length mc, .slice none 0 0, .slice ra tv.length rc, .bool false, .int .i64 0, .bool false, .int .i64 0, .bool false, .int .i64 0] 28 (0, 0))) (below1 _ (.cells #[.int .i64 sq, .slice ma ti.length mc, .slice none 0 0, .slice ra tv.length rc, .bool false, .int .i64 0, .bool false, .int .i64 0, .bool false, .int .i64 0] 28 (0, 0)))
          have hob : ∀ k, (Value.slice va q.length vc).ownBlock = some k → w1.heap.size + 3 ≤ k := fun k hk => (HO3.out.lt k hk).1
          have hs3 : w2.heap.size + 2 ≤ w3.heap.size := by have := hg4.size; simpa using this
          have HX4 : Hid (∀ x ∈ qn, OwnR w3 (w1.heap.size + 3) x) := by
            intro x hx
            rw [hqn] at hx
            have hx2 : OwnR w2 (w1.heap.size + 3) x := by
              rcases List.mem_append.1 hx with h | h
              · exact HX3.out x h
              · rw [List.mem_singleton.1 h]; exact HOT.out
            exact (hx2.below hB2).grown (owns_keep HO3.out hB2) hg4
          have HLP4 : Hid (scanP (logOf d p0) n (sq + 1) (qn.map (·.t)) = scanL d) := by rw [Hid, hqn, List.map_append]; exact HLP2.out
          have HQ4 : Hid (sq + 1 = q0 + (qn.length : Int)) := by rw [Hid, hqnl, HQS.out]; omega
          have KB4 : Hid (w3.heap[w.heap.size + 1]? = _) := (hg4.block _ (by simp; omega) (fun e => by have := hob _ e.symm; omega)).trans (boxKeep hB2 hz2 KB3.out)
          have KF4 : Hid (w3.heap[w1.heap.size + 1]? = _) := (hg4.block _ (by simp; omega) (fun e => by have := hob _ e.symm; omega)).trans (boxKeep hB2 hz3 KF3.out)
          have HR4 : Hid (Rd w3 (w1.heap.size + 1 + 1) a c a' c' d p0 n) := (HR2.out.below hB2).grown hg4 (fun k hk => by have := hob k hk; omega)
          have HB4 : Hid (Below w.heap.size w w3) := (bthen HB2.out hB2).grown hg4 (bthen HB2.out hB2).size (fun k hk => by have := hob k hk; omega)
          have HO5 := hide hO5
          obtain ⟨va3, vc3, hv3⟩ : ∃ va3 vc3, v3 = .slice va3 qn.length vc3 := by
            rcases hO5.2 with ⟨e, h0⟩ | ⟨g, cap, cur, e, _⟩
            · exact absurd h0 (by omega)
            · exact ⟨_, _, e⟩
          subst hv3
          obtain ⟨m3, hm3⟩ : ∃ m3 : Nat, m3 = (p0 + n) % 24 := ⟨_, rfl⟩
          have HM3 := hide hm3
          have hR5 := HR4.out
          rw [Rd, ← hm3] at hR5
          obtain ⟨⟨r0, r1, r2, r3⟩, rf⟩ := box4 hR5
          have hsw : IntKind.i64.wrap (sq + 1) = sq + 1 := by rw [IntKind.wrap_i64]; have := HQS.out; omega
          clear x0 x1 x2 xf hqn hO4 hO5 hB2 hob hg4 HX3 HOT HLP2 KB3 KF3 HR2 HB2 HO3 hm3 hR5 hqnl
          obtain ⟨⟨x0, x1, x2⟩, xf⟩ := box3 KF4.out
          have hz4 : w1.heap.size + 1 < w3.heap.size := by omega
          have hz5 : w1.heap.size + 1 + 1 < w3.heap.size := by omega
          have hqn24 : qn.length ≤ n := by have h1 := HQ4.out; have h2 := HQS.out; omega
          go_wp2
          clear x0 x1 x2 xf r0 r1 r2 r3 rf
          refine ⟨⟨_, _, _, _, _, _, _, _, _, _, _, _, _, _, _, _, _, _, _, _, _, _, _, _, _, _, _, _, _, ?rel, rfl⟩, ?measure⟩
          case rel => exact ⟨n, sq + 1, qn, va3, vc3, hn.2, HQ4.out, hqn24, HLP4, ((HR4.out.setNe (p := ⟨w1.heap.size + 1, 0, none⟩) (by simp) _).setNe (p := ⟨w1.heap.size + 1, 1, none⟩) (by simp) _).setNe (p := ⟨w1.heap.size + 1, 2, none⟩) (by simp) _, ((HB4.out.setCell (p := ⟨w1.heap.size + 1, 0, none⟩) (by simp; omega) _).setCell (p := ⟨w1.heap.size + 1, 1, none⟩) (by simp; omega) _).setCell (p := ⟨w1.heap.size + 1, 2, none⟩) (by simp; omega) _, by simp [World.setCell]; omega, (box_setNe (p := ⟨w1.heap.size + 1, 2, none⟩) (by simp; omega) _).trans ((box_setNe (p := ⟨w1.heap.size + 1, 1, none⟩) (by simp; omega) _).trans ((box_setNe (p := ⟨w1.heap.size + 1, 0, none⟩) (by simp; omega) _).trans KB4.out)), by rw [← HM3.out]; exact stored3 KF4.out _ _ _, owns_set3 HO5.out (fun k hk => by have := (HO5.out.lt k hk).1; omega), fun x hx => (HX4.out x hx).set3 (by omega)⟩
          case measure =>
            rw [(((HR4.out.setNe (p := ⟨w1.heap.size + 1, 0, none⟩) (by simp) _).setNe (p := ⟨w1.heap.size + 1, 1, none⟩) (by simp) _).setNe (p := ⟨w1.heap.size + 1, 2, none⟩) (by simp) _).left]
            omega
      · have HEND : Hid (scanL d = (q.map (·.t), pos)) := by rw [Hid, ← HLP.out, scanP, dif_neg hlt]
        have KB3 := KB
        have KF3 := KF
        have HO3 := HO
        have HX3 := HX
        clear KB KF HO HX HLP
        have hz2 : w.heap.size + 1 < wr.heap.size := by omega
        have hz3 : w1.heap.size + 1 < wr.heap.size := by omega
        obtain ⟨m3, hm3⟩ : ∃ m3 : Nat, m3 = (p0 + pos) % 24 := ⟨_, rfl⟩
        rw [← hm3] at KF3
        have HM3 := hide hm3
        clear hm3
        obtain ⟨⟨z0, z1, z2⟩, zf⟩ := box3 KB3.out
        obtain ⟨⟨x0, x1, x2⟩, xf⟩ := box3 KF3.out
        go_wp2
        clear x0 x1 x2 xf
        obtain ⟨W, hW⟩ : ∃ W, W = (((wr.setCell ⟨w.heap.size + 1, 0, none⟩ (.slice va q.length vc)).setCell ⟨w.heap.size + 1, 1, none⟩ (.int .i64 sq)).setCell ⟨w.heap.size + 1, 2, none⟩ (.int .i64 (m3 : Int))) := ⟨_, rfl⟩
        have hbx := stored3 KB3.out (.slice va q.length vc) (.int .i64 sq) (.int .i64 (m3 : Int))
        rw [← hW] at hbx
        obtain ⟨⟨y0, y1, y2⟩, _⟩ := box3 hbx
        have HW := hide hW
        rw [← hW]
        clear hW hbx z0 z1 z2 zf
        refine bodyPost_ret (v := .tuple #[.agg #[.slice va q.length vc, .int .i64 sq, .int .i64 (m3 : Int)], .int .i64 0]) (by simp [results, Tryz.results28, go_sem, y0, y1, y2]) rfl ?_
        rw [ScPost, HS0.out]
        refine ⟨_, rfl, ?_, fun h => absurd rfl h, fun _ => ⟨q, va, vc, ?_, ?_, ?_, ?_⟩⟩
        · rw [HW.out]
          exact ((HB.out.setCell (p := ⟨w.heap.size + 1, 0, none⟩) (by simp) _).setCell (p := ⟨w.heap.size + 1, 1, none⟩) (by simp) _).setCell (p := ⟨w.heap.size + 1, 2, none⟩) (by simp) _
        · rw [HPOS.out, HEND.out, HSQ.out, ← HQS.out, HM3.out]
        · rw [HEND.out]
        · rw [HW.out]
          refine owns_base (owns_set3 HO3.out ?_) (show w.heap.size ≤ w1.heap.size + 3 by omega)
          intro k hk
          have := (HO3.out.lt k hk).1
          omega
        · intro x hx
          rw [HW.out]
          exact OwnR.base (OwnR.set3 (HX3.out x hx) (by omega)) (by omega)
  · have hE' : (scanE d != 0) = true := by simpa using hE
    have HE := hide hE
    clear hsu hE
    generalize hEE : scanE d = E at *
    have HEE := hide hEE
    clear hEE
    obtain ⟨⟨z0, z1, z2⟩, zf⟩ := box3 KB.out
    go_wp2
    obtain ⟨W, hW⟩ : ∃ W, W = ((((w1.setCell ⟨w.heap.size + 1, 0, none⟩ (.slice none 0 0)).setCell ⟨w.heap.size + 1, 1, none⟩ (.int .i64 0)).setCell ⟨w.heap.size + 1, 2, none⟩ (.int .i64 0)).alloc (.cells #[.int .i64 k, .int .i64 q0, .int .i64 p, .slice a2 n2 c2, .slice a3 n3 c3] 103)) := ⟨_, rfl⟩
    have hbx := stored3a KB.out (.slice none 0 0) (.int .i64 0) (.int .i64 0) (.cells #[.int .i64 k, .int .i64 q0, .int .i64 p, .slice a2 n2 c2, .slice a3 n3 c3] 103)
    rw [← hW] at hbx
    obtain ⟨⟨y0, y1, y2⟩, _⟩ := box3 hbx
    have HW := hide hW
    rw [← hW]
    clear hW hbx z0 z1 z2 zf
    refine bodyPost_ret (v := .tuple #[.agg #[.slice none 0 0, .int .i64 0, .int .i64 0], .int .i64 E]) (by simp [results, Tryz.results28, go_sem, y0, y1, y2]) rfl ?_
    rw [ScPost, HEE.out]
    refine ⟨_, rfl, ?_, fun _ => rfl, fun h => absurd h HE.out⟩
    rw [HW.out]
    exact (((HB1.out.setCell (p := ⟨w.heap.size + 1, 0, none⟩) (by simp) _).setCell (p := ⟨w.heap.size + 1, 1, none⟩) (by simp) _).setCell (p := ⟨w.heap.size + 1, 2, none⟩) (by simp) _).alloc (by simp [World.setCell]; omega) _

end Go.Proofs.YtjnpndfpajjihabGreat

namespace Go.Proofs.YtjnpndfpajjihabGreat
open Go.RowKit

theorem scanP_len (log : List ByteArray) : ∀ (f pos : Nat) (seq : Int) (acc : List Tx), log.length - pos ≤ f → (scanP log pos seq acc).1.length ≤ acc.length + f := by
  intro f
  induction f with
  | zero =>
    intro pos seq acc hf
    rw [scanP]
    split
    · rw [runT, dif_neg (by omega)]
      exact Nat.le_refl _
    · exact Nat.le_refl _
  | succ f ih =>
    intro pos seq acc hf
    rw [scanP]
    split
    · split
      · exact Nat.le_add_right _ _
      · rename_i n t hr
        have hb := runT_bound log seq _ pos _ n t (Nat.le_refl _) hr
        have := ih n (seq + 1) (acc ++ [t]) (by omega)
        rw [List.length_append, List.length_singleton] at this
        omega
    · exact Nat.le_add_right _ _

/-- What is found, as plain data. -/
def fndL (d : Dk) : List Tx := if scanE d = 0 then (scanL d).1 else []
def fndN (d : Dk) : Int := if scanE d = 0 then (superM d).seq + ((scanL d).1.length : Int) else 0
def fndP (d : Dk) : Int := if scanE d = 0 then ((((superM d).pos.toNat + (scanL d).2) % 24 : Nat) : Int) else 0
theorem fndL_len (d : Dk) : (fndL d).length ≤ 24 := by
  unfold fndL
  split
  · have := scanP_len (logOf d (superM d).pos) 24 0 (superM d).seq [] (by rw [logOf_length]; omega)
    simpa [scanL] using this
  · exact Nat.zero_le _
theorem ScPost.found {w w' : World} {d : Dk} {e : Ending} (h : ScPost w w' d e) : ∃ va vc, e = .returned (.tuple #[.agg #[.slice va (fndL d).length vc, .int .i64 (fndN d), .int .i64 (fndP d)], .int .i64 (scanE d)]) ∧ SegTx w' va (fndL d) ∧ Below w.heap.size w w' := by
  obtain ⟨v, rfl, hb, h1, h2⟩ := h
  by_cases hE : scanE d = 0
  · obtain ⟨q, va, vc, rfl, hq, hO, hX⟩ := h2 hE
    obtain ⟨a, c, hv, hS, _⟩ := SegTx.of_owns hO hX
    simp only [Value.slice.injEq] at hv
    obtain ⟨rfl, _, rfl⟩ := hv
    have hl : fndL d = q.map (·.t) := by rw [fndL, if_pos hE, hq]
    have hlen : q.length = (scanL d).1.length := by rw [← hq, List.length_map]
    refine ⟨va, vc, ?_, by rw [hl]; exact hS, hb⟩
    rw [hl, fndN, fndP, if_pos hE, if_pos hE, List.length_map, hlen]
  · rw [h1 hE]
    refine ⟨none, 0, ?_, .inl (by rw [fndL, if_neg hE]), hb⟩
    rw [fndL, fndN, fndP, if_neg hE, if_neg hE, if_neg hE]
    rfl
theorem scan_n (a : Option Addr) (n c : Nat) (a' : Option Addr) (n' c' : Nat) (d : Dk) (w : World) (h1 : n = d.safe.length) (h2 : n' = d.wr.length) (hD : IsDk w (.agg #[.slice a n c, .slice a' n' c']) d) :
    Calls Tryz.prog 28 #[.agg #[.slice a n c, .slice a' n' c']] w fun e w' => ScPost w w' d e := by
  subst h1 h2
  exact scan_any a c a' c' d w hD

end Go.Proofs.YtjnpndfpajjihabGreat
