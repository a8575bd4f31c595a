/-
  The walks of package scan's reader: mark.
-/
import Derived.Test.YtjnpndfpajjihabGreatGrSealWhole15
namespace Go.Proofs.YtjnpndfpajjihabGreat
open Go.RowKit

theorem block_text (d : Dk) (p0 i : Nat) (h : i < 24) : readT d (1 + (((p0 + i) % 24 : Nat) : Int)) = (logOf d p0).getD i ByteArray.empty := by
  rw [logOf_at d p0 i h]
  congr 2
theorem Rd.lt {w : World} {R : Nat} {a : Option Addr} {c : Nat} {a' : Option Addr} {c' : Nat} {d : Dk} {p0 i : Nat} (h : Rd w R a c a' c' d p0 i) : R < w.heap.size := (Array.getElem?_eq_some_iff.1 h).1
theorem Rd.below {w w' : World} {R : Nat} {a : Option Addr} {c : Nat} {a' : Option Addr} {c' : Nat} {d : Dk} {p0 i : Nat} (h : Rd w R a c a' c' d p0 i) (hb : Below w.heap.size w w') : Rd w' R a c a' c' d p0 i := boxKeep hb h.lt h
theorem Rd.setNe {w : World} {R : Nat} {a : Option Addr} {c : Nat} {a' : Option Addr} {c' : Nat} {d : Dk} {p0 i : Nat} (h : Rd w R a c a' c' d p0 i) {p : Addr} (hn : R ≠ p.block) (u : Value) : Rd (w.setCell p u) R a c a' c' d p0 i := by
  rw [Rd, World.setCell]
  simp only [Array.getElem?_modify]
  rw [if_neg (fun x => hn x.symm)]
  exact h
theorem But.setNew {R base : Nat} {w w' : World} (h : But R base w w') {p : Addr} (hp : base ≤ p.block) (u : Value) : But R base w (w'.setCell p u) := by
  refine ⟨h.os, h.tape, h.output, by simpa [World.setCell] using h.size, fun k hk hn => ?_⟩
  rw [World.setCell]
  simp only [Array.getElem?_modify]
  rw [if_neg (by omega)]
  exact h.block k hk hn
theorem But.low {R base base2 : Nat} {w w' : World} (h : But R base w w') (hb : base2 ≤ base) : But R base2 w w' := ⟨h.os, h.tape, h.output, h.size, fun k hk hn => h.block k (by omega) hn⟩

theorem stored5 {w : World} {B : Nat} {z0 z1 z2 z3 z4 : Value} {t : TypeId} (h : w.heap[B]? = some (.cells #[z0, z1, z2, z3, z4] t (0, 0))) (v0 v1 v2 v3 v4 : Value) (o : Obj) :
    ((((((w.setCell ⟨B, 0, none⟩ v0).setCell ⟨B, 1, none⟩ v1).setCell ⟨B, 2, none⟩ v2).setCell ⟨B, 3, none⟩ v3).setCell ⟨B, 4, none⟩ v4).alloc o).drew.heap[B]? = some (.cells #[v0, v1, v2, v3, v4] t (0, 0)) := by
  have h0 := heap_setCell_same w B 0 _ _ v0 h
  have h1 := heap_setCell_same _ B 1 _ _ v1 h0
  have h2 := heap_setCell_same _ B 2 _ _ v2 h1
  have h3 := heap_setCell_same _ B 3 _ _ v3 h2
  have h4 := heap_setCell_same _ B 4 _ _ v4 h3
  exact (boxKeep (bthen (below1 _ o) ((Below.refl _ _).drew)) (Array.getElem?_eq_some_iff.1 h4).1 h4)

set_option maxHeartbeats 2000000 in
set_option maxRecDepth 100000 in
theorem rmark_end (R : Nat) (a : Option Addr) (c : Nat) (a' : Option Addr) (c' : Nat) (d : Dk) (p0 : Nat) (seq : Int) (w : World) (hR : Rd w R a c a' c' d p0 24) :
    Calls Tryz.prog 120 #[.pointer (some ⟨R, 0, none⟩), .int .i64 seq] w fun e w' => e = .returned (.tuple #[.agg #[.int .i64 0, .int .i64 0, .int .i64 0, .slice none 0 0, .slice none 0 0], .bool false]) ∧ Below w.heap.size w w' := by
  have HR := hide hR
  clear hR
  go_enter Tryz.func120, Tryz.ntmps120
  go_wp2_with fail
  refine (block_end R a c a' c' d p0 _ (HR.out.below (below1 _ _))).mono ?_
  rintro e w1 ⟨rfl, rfl⟩
  go_wp2
  refine bodyPost_ret (v := .tuple #[.agg #[.int .i64 0, .int .i64 0, .int .i64 0, .slice none 0 0, .slice none 0 0], .bool false]) (by simp [results, Tryz.results120, go_sem]) rfl ⟨rfl, ?_⟩
  repeat refine Below.setCell ?_ (by simp) _
  exact below1 _ _

set_option maxHeartbeats 4000000 in
set_option maxRecDepth 100000 in
theorem rmark_next (R : Nat) (a : Option Addr) (c : Nat) (a' : Option Addr) (c' : Nat) (d : Dk) (p0 i : Nat) (seq : Int) (w w0 : World) (hR : Rd w R a c a' c' d p0 i) (hi : i < 24) (hD : IsDk w0 (.agg #[.slice a d.safe.length c, .slice a' d.wr.length c']) d) (hg : goodB d = true) (hb : Below w0.heap.size w0 w) :
    Calls Tryz.prog 120 #[.pointer (some ⟨R, 0, none⟩), .int .i64 seq] w fun e w' => ∃ v, e = .returned (.tuple #[v, .bool (decide ((stampDec ((logOf d p0).getD i ByteArray.empty)).2 = 0) && decide ((stampDec ((logOf d p0).getD i ByteArray.empty)).1.seq = seq))]) ∧ IsMkN w' w.heap.size v (stampDec ((logOf d p0).getD i ByteArray.empty)).1 ∧ Rd w' R a c a' c' d p0 (i + 1) ∧ But R w.heap.size w w' := by
  have HR := hide hR
  have hRl := hR.lt
  have HD := hide hD
  have HBW := hide hb
  clear hR hD hb
  go_enter Tryz.func120, Tryz.ntmps120
  go_wp2_with fail
  refine (block_next R a c a' c' d p0 i _ w0 (HR.out.below (below1 _ _)) hi HD.out hg (bthen HBW.out (below1 _ _))).mono ?_
  rintro e w1 ⟨rfl, hR1, hb1⟩
  rw [block_text d p0 i hi]
  obtain ⟨s, hse⟩ : ∃ s, s = (logOf d p0).getD i ByteArray.empty := ⟨_, rfl⟩
  rw [← hse]
  have HSE := hide hse
  clear hse
  have HR1 := hide hR1
  have HB1 := hide hb1
  have hs1 : w.heap.size + 1 ≤ w1.heap.size := by have := hb1.size; simpa using this
  have hs1' : w.heap.size < w1.heap.size := by omega
  have K4 : Hid (w1.heap[w.heap.size]? = some (.cells #[.int .i64 0, .int .i64 0, .int .i64 0, .slice none 0 0, .slice none 0 0] 103 (0, 0))) := (hb1.block _ (by simp) (by omega)).trans (heap_alloc_new w _)
  clear hR1 hb1 HR HD HBW
  go_wp2_with fail
  refine (stampDecode_new s _).mono ?_
  rintro e w2 ⟨v2, rfl, hN, hb2⟩
  obtain ⟨a2, c2, a3, c3, rfl, hT, hI, n1, n2, t1, t2⟩ := hN
  obtain ⟨m, hm⟩ : ∃ m, m = stampDec s := ⟨_, rfl⟩
  rw [← hm] at hT hI n1 n2 ⊢
  have HT := hide hT
  have HI := hide hI
  have HA : Hid ((∀ b off, a2 = some ⟨b, off, none⟩ → w.heap.size + 1 ≤ b) ∧ ∀ b off, a3 = some ⟨b, off, none⟩ → w.heap.size + 1 ≤ b) := ⟨fun b off e => Nat.le_trans hs1 (t1 b off e), fun b off e => Nat.le_trans hs1 (t2 b off e)⟩
  have HR2 := hide (HR1.out.below hb2)
  have K2 := hide (boxKeep hb2 hs1' K4.out)
  have HB2 : Hid (But R w.heap.size w w2) := (((But.of_below (below1 _ _)).trans HB1.out (by simp)).trans (But.of_below hb2) (by omega))
  have hs2 : w.heap.size < w2.heap.size := by have := hb2.size; omega
  have N12 := hide (And.intro n1 n2)
  have HZ := hide hm
  clear hT hI n1 n2 t1 t2 hb2 HR1 HB1 K4 hm
  obtain ⟨⟨y0, y1, y2, y3, y4⟩, f0, f1, f2, f3, f4⟩ := box5 K2.out
  obtain ⟨mk, er⟩ := m
  by_cases he : er = 0
  · subst he
    by_cases hq : mk.seq = seq
    · have hq' : (mk.seq == seq) = true := by simpa using hq
      go_wp2
      go_region
      all_goals
        obtain ⟨W, hW⟩ : ∃ W, W = ((((((w2.setCell ⟨w.heap.size, 0, none⟩ (.int .i64 mk.kind)).setCell ⟨w.heap.size, 1, none⟩ (.int .i64 seq)).setCell ⟨w.heap.size, 2, none⟩ (.int .i64 mk.pos)).setCell ⟨w.heap.size, 3, none⟩ (.slice a2 mk.tags.length c2)).setCell ⟨w.heap.size, 4, none⟩ (.slice a3 mk.blocks.length c3)).alloc (.cells #[.int .i64 mk.kind, .int .i64 seq, .int .i64 mk.pos, .slice a2 mk.tags.length c2, .slice a3 mk.blocks.length c3] 103)).drew := ⟨_, rfl⟩
        have hbx := stored5 K2.out (.int .i64 mk.kind) (.int .i64 seq) (.int .i64 mk.pos) (.slice a2 mk.tags.length c2) (.slice a3 mk.blocks.length c3) (.cells #[.int .i64 mk.kind, .int .i64 seq, .int .i64 mk.pos, .slice a2 mk.tags.length c2, .slice a3 mk.blocks.length c3] 103)
        rw [← hW] at hbx
        obtain ⟨⟨z0, z1, z2, z3, z4⟩, _⟩ := box5 hbx
        have HW := hide hW
        rw [← hW]
        clear hW hbx y0 y1 y2 y3 y4 f0 f1 f2 f3 f4
        go_wp2
        refine bodyPost_ret (v := .tuple #[.agg #[.int .i64 mk.kind, .int .i64 seq, .int .i64 mk.pos, .slice a2 mk.tags.length c2, .slice a3 mk.blocks.length c3], .bool true]) (by simp [results, Tryz.results120, go_sem, z0, z1, z2, z3, z4]) rfl ⟨.agg #[.int .i64 mk.kind, .int .i64 seq, .int .i64 mk.pos, .slice a2 mk.tags.length c2, .slice a3 mk.blocks.length c3], by rw [← HSE.out, ← HZ.out]; simp [hq], ?_, ?_, ?_⟩
        · rw [← HSE.out, ← HZ.out]
          refine ⟨a2, c2, a3, c3, by rw [hq], ?_, ?_, N12.out.1, N12.out.2, fun b off e => (by have := HA.out.1 b off e; omega), fun b off e => (by have := HA.out.2 b off e; omega)⟩
          · rw [HW.out]
            refine SegT.below ?_ (bthen (below1 _ _) ((Below.refl _ _).drew))
            repeat refine SegT.setNe ?_ (fun b off e => by have := HA.out.1 b off e; simp; omega) _
            exact HT.out
          · rw [HW.out]
            refine SegI.below ?_ (bthen (below1 _ _) ((Below.refl _ _).drew))
            repeat refine SegI.setNe ?_ (fun b off e => by have := HA.out.2 b off e; simp; omega) _
            exact HI.out
        · rw [HW.out]
          refine Rd.below ?_ (bthen (below1 _ _) ((Below.refl _ _).drew))
          repeat refine Rd.setNe ?_ (show R ≠ w.heap.size by omega) _
          exact HR2.out
        · rw [HW.out]
          refine But.trans ?_ (But.of_below (bthen (below1 _ _) ((Below.refl _ _).drew))) (by simp [World.setCell]; omega)
          exact (((((HB2.out.setNew (p := ⟨w.heap.size, 0, none⟩) (Nat.le_refl _) _).setNew (p := ⟨w.heap.size, 1, none⟩) (Nat.le_refl _) _).setNew (p := ⟨w.heap.size, 2, none⟩) (Nat.le_refl _) _).setNew (p := ⟨w.heap.size, 3, none⟩) (Nat.le_refl _) _).setNew (p := ⟨w.heap.size, 4, none⟩) (Nat.le_refl _) _)
    · have hq' : (mk.seq == seq) = false := by simpa using hq
      go_wp2
      go_region
      all_goals
        obtain ⟨W, hW⟩ : ∃ W, W = ((((((w2.setCell ⟨w.heap.size, 0, none⟩ (.int .i64 mk.kind)).setCell ⟨w.heap.size, 1, none⟩ (.int .i64 mk.seq)).setCell ⟨w.heap.size, 2, none⟩ (.int .i64 mk.pos)).setCell ⟨w.heap.size, 3, none⟩ (.slice a2 mk.tags.length c2)).setCell ⟨w.heap.size, 4, none⟩ (.slice a3 mk.blocks.length c3)).alloc (.cells #[.int .i64 mk.kind, .int .i64 mk.seq, .int .i64 mk.pos, .slice a2 mk.tags.length c2, .slice a3 mk.blocks.length c3] 103)).drew := ⟨_, rfl⟩
        have hbx := stored5 K2.out (.int .i64 mk.kind) (.int .i64 mk.seq) (.int .i64 mk.pos) (.slice a2 mk.tags.length c2) (.slice a3 mk.blocks.length c3) (.cells #[.int .i64 mk.kind, .int .i64 mk.seq, .int .i64 mk.pos, .slice a2 mk.tags.length c2, .slice a3 mk.blocks.length c3] 103)
        rw [← hW] at hbx
        obtain ⟨⟨z0, z1, z2, z3, z4⟩, _⟩ := box5 hbx
        have HW := hide hW
        rw [← hW]
        clear hW hbx y0 y1 y2 y3 y4 f0 f1 f2 f3 f4
        go_wp2
        refine bodyPost_ret (v := .tuple #[.agg #[.int .i64 mk.kind, .int .i64 mk.seq, .int .i64 mk.pos, .slice a2 mk.tags.length c2, .slice a3 mk.blocks.length c3], .bool false]) (by simp [results, Tryz.results120, go_sem, z0, z1, z2, z3, z4]) rfl ⟨.agg #[.int .i64 mk.kind, .int .i64 mk.seq, .int .i64 mk.pos, .slice a2 mk.tags.length c2, .slice a3 mk.blocks.length c3], by rw [← HSE.out, ← HZ.out]; simp [hq], ?_, ?_, ?_⟩
        · rw [← HSE.out, ← HZ.out]
          refine ⟨a2, c2, a3, c3, rfl, ?_, ?_, N12.out.1, N12.out.2, fun b off e => (by have := HA.out.1 b off e; omega), fun b off e => (by have := HA.out.2 b off e; omega)⟩
          · rw [HW.out]
            refine SegT.below ?_ (bthen (below1 _ _) ((Below.refl _ _).drew))
            repeat refine SegT.setNe ?_ (fun b off e => by have := HA.out.1 b off e; simp; omega) _
            exact HT.out
          · rw [HW.out]
            refine SegI.below ?_ (bthen (below1 _ _) ((Below.refl _ _).drew))
            repeat refine SegI.setNe ?_ (fun b off e => by have := HA.out.2 b off e; simp; omega) _
            exact HI.out
        · rw [HW.out]
          refine Rd.below ?_ (bthen (below1 _ _) ((Below.refl _ _).drew))
          repeat refine Rd.setNe ?_ (show R ≠ w.heap.size by omega) _
          exact HR2.out
        · rw [HW.out]
          refine But.trans ?_ (But.of_below (bthen (below1 _ _) ((Below.refl _ _).drew))) (by simp [World.setCell]; omega)
          exact (((((HB2.out.setNew (p := ⟨w.heap.size, 0, none⟩) (Nat.le_refl _) _).setNew (p := ⟨w.heap.size, 1, none⟩) (Nat.le_refl _) _).setNew (p := ⟨w.heap.size, 2, none⟩) (Nat.le_refl _) _).setNew (p := ⟨w.heap.size, 3, none⟩) (Nat.le_refl _) _).setNew (p := ⟨w.heap.size, 4, none⟩) (Nat.le_refl _) _)
  · have he' : (er == 0) = false := by simpa using he
    go_wp2
    go_region
    all_goals
      obtain ⟨W, hW⟩ : ∃ W, W = ((((((w2.setCell ⟨w.heap.size, 0, none⟩ (.int .i64 mk.kind)).setCell ⟨w.heap.size, 1, none⟩ (.int .i64 mk.seq)).setCell ⟨w.heap.size, 2, none⟩ (.int .i64 mk.pos)).setCell ⟨w.heap.size, 3, none⟩ (.slice a2 mk.tags.length c2)).setCell ⟨w.heap.size, 4, none⟩ (.slice a3 mk.blocks.length c3)).alloc (.cells #[.int .i64 mk.kind, .int .i64 mk.seq, .int .i64 mk.pos, .slice a2 mk.tags.length c2, .slice a3 mk.blocks.length c3] 103)).drew := ⟨_, rfl⟩
      have hbx := stored5 K2.out (.int .i64 mk.kind) (.int .i64 mk.seq) (.int .i64 mk.pos) (.slice a2 mk.tags.length c2) (.slice a3 mk.blocks.length c3) (.cells #[.int .i64 mk.kind, .int .i64 mk.seq, .int .i64 mk.pos, .slice a2 mk.tags.length c2, .slice a3 mk.blocks.length c3] 103)
      rw [← hW] at hbx
      obtain ⟨⟨z0, z1, z2, z3, z4⟩, _⟩ := box5 hbx
      have HW := hide hW
      rw [← hW]
      clear hW hbx y0 y1 y2 y3 y4 f0 f1 f2 f3 f4
      go_wp2
      refine bodyPost_ret (v := .tuple #[.agg #[.int .i64 mk.kind, .int .i64 mk.seq, .int .i64 mk.pos, .slice a2 mk.tags.length c2, .slice a3 mk.blocks.length c3], .bool false]) (by simp [results, Tryz.results120, go_sem, z0, z1, z2, z3, z4]) rfl ⟨.agg #[.int .i64 mk.kind, .int .i64 mk.seq, .int .i64 mk.pos, .slice a2 mk.tags.length c2, .slice a3 mk.blocks.length c3], by rw [← HSE.out, ← HZ.out]; simp [he], ?_, ?_, ?_⟩
      · rw [← HSE.out, ← HZ.out]
        refine ⟨a2, c2, a3, c3, rfl, ?_, ?_, N12.out.1, N12.out.2, fun b off e => (by have := HA.out.1 b off e; omega), fun b off e => (by have := HA.out.2 b off e; omega)⟩
        · rw [HW.out]
          refine SegT.below ?_ (bthen (below1 _ _) ((Below.refl _ _).drew))
          repeat refine SegT.setNe ?_ (fun b off e => by have := HA.out.1 b off e; simp; omega) _
          exact HT.out
        · rw [HW.out]
          refine SegI.below ?_ (bthen (below1 _ _) ((Below.refl _ _).drew))
          repeat refine SegI.setNe ?_ (fun b off e => by have := HA.out.2 b off e; simp; omega) _
          exact HI.out
      · rw [HW.out]
        refine Rd.below ?_ (bthen (below1 _ _) ((Below.refl _ _).drew))
        repeat refine Rd.setNe ?_ (show R ≠ w.heap.size by omega) _
        exact HR2.out
      · rw [HW.out]
        refine But.trans ?_ (But.of_below (bthen (below1 _ _) ((Below.refl _ _).drew))) (by simp [World.setCell]; omega)
        exact (((((HB2.out.setNew (p := ⟨w.heap.size, 0, none⟩) (Nat.le_refl _) _).setNew (p := ⟨w.heap.size, 1, none⟩) (Nat.le_refl _) _).setNew (p := ⟨w.heap.size, 2, none⟩) (Nat.le_refl _) _).setNew (p := ⟨w.heap.size, 3, none⟩) (Nat.le_refl _) _).setNew (p := ⟨w.heap.size, 4, none⟩) (Nat.le_refl _) _)

end Go.Proofs.YtjnpndfpajjihabGreat
