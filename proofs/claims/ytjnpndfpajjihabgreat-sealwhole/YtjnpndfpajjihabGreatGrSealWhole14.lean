/-
  The walks of package scan's reader: mark.
  Marks and their bytes, as plain data: what stands at each place of a mark's block. Nothing of the program is proved here.
-/
import Derived.Test.YtjnpndfpajjihabGreatGrSealWhole13
import Derived.Test.YtjnpndfpajjihabGreatGrSealWhole12
namespace Go.Proofs.YtjnpndfpajjihabGreat
open Go.RowKit

theorem block_text (d : Dk) (p0 i : Nat) (h : i < 24) : readT d (1 + (((p0 + i) % 24 : Nat) : Int)) = (logOf d p0).getD i ByteArray.empty := by
  rw [logOf_at d p0 i h]
  congr 2
theorem Rd.lt {w : World} {R : Nat} {a : Option Addr} {c : Nat} {a' : Option Addr} {c' : Nat} {d : Dk} {p0 i : Nat} (h : Rd w R a c a' c' d p0 i) : R < w.heap.size := (Array.getElem?_eq_some_iff.1 h).1
theorem Rd.below {w w' : World} {R : Nat} {a : Option Addr} {c : Nat} {a' : Option Addr} {c' : Nat} {d : Dk} {p0 i : Nat} (h : Rd w R a c a' c' d p0 i) (hb : Below w.heap.size w w') : Rd w' R a c a' c' d p0 i := boxKeep hb h.lt h
theorem Rd.setNe {w : World} {R : Nat} {a : Option Addr} {c : Nat} {a' : Option Addr} {c' : Nat} {d : Dk} {p0 i : Nat} (h : Rd w R a c a' c' d p0 i) {p : Addr} (hn : R ≠ p.block) (u : Value) : Rd (w.setCell p u) R a c a' c' d p0 i := by
  rw [Rd, World.setCell]
  simp only [Array.getElem?_modify]
  rw [if_neg (fun x => hn x.symm)]
  exact h
theorem But.setNew {R base : Nat} {w w' : World} (h : But R base w w') {p : Addr} (hp : base ≤ p.block) (u : Value) : But R base w (w'.setCell p u) := by
  refine ⟨h.os, h.tape, h.output, by simpa [World.setCell] using h.size, fun k hk hn => ?_⟩
  rw [World.setCell]
  simp only [Array.getElem?_modify]
  rw [if_neg (by omega)]
  exact h.block k hk hn
theorem But.low {R base base2 : Nat} {w w' : World} (h : But R base w w') (hb : base2 ≤ base) : But R base2 w w' := ⟨h.os, h.tape, h.output, h.size, fun k hk hn => h.block k (by omega) hn⟩

theorem stored5 {w : World} {B : Nat} {z0 z1 z2 z3 z4 : Value} {t : TypeId} (h : w.heap[B]? = some (.cells #[z0, z1, z2, z3, z4] t (0, 0))) (v0 v1 v2 v3 v4 : Value) (o : Obj) :
    ((((((w.setCell ⟨B, 0, none⟩ v0).setCell ⟨B, 1, none⟩ v1).setCell ⟨B, 2, none⟩ v2).setCell ⟨B, 3, none⟩ v3).setCell ⟨B, 4, none⟩ v4).alloc o).drew.heap[B]? = some (.cells #[v0, v1, v2, v3, v4] t (0, 0)) := by
  have h0 := heap_setCell_same w B 0 _ _ v0 h
  have h1 := heap_setCell_same _ B 1 _ _ v1 h0
  have h2 := heap_setCell_same _ B 2 _ _ v2 h1
  have h3 := heap_setCell_same _ B 3 _ _ v3 h2
  have h4 := heap_setCell_same _ B 4 _ _ v4 h3
  exact (boxKeep (bthen (below1 _ o) ((Below.refl _ _).drew)) (Array.getElem?_eq_some_iff.1 h4).1 h4)

set_option maxHeartbeats 2000000 in
set_option maxRecDepth 100000 in
theorem rmark_end (R : Nat) (a : Option Addr) (c : Nat) (a' : Option Addr) (c' : Nat) (d : Dk) (p0 : Nat) (seq : Int) (w : World) (hR : Rd w R a c a' c' d p0 24) :
    Calls Tryz.prog 120 #[.pointer (some ⟨R, 0, none⟩), .int .i64 seq] w fun e w' => e = .returned (.tuple #[.agg #[.int .i64 0, .int .i64 0, .int .i64 0, .slice none 0 0, .slice none 0 0], .bool false]) ∧ Below w.heap.size w w' := by
  have HR := hide hR
  clear hR
  go_enter Tryz.func120, Tryz.ntmps120
  go_wp2_with fail
  refine (block_end R a c a' c' d p0 _ (HR.out.below (below1 _ _))).mono ?_
  rintro e w1 ⟨rfl, rfl⟩
  go_wp2
  refine bodyPost_ret (v := .tuple #[.agg #[.int .i64 0, .int .i64 0, .int .i64 0, .slice none 0 0, .slice none 0 0], .bool false]) (by simp [results, Tryz.results120, go_sem]) rfl ⟨rfl, ?_⟩
  repeat refine Below.setCell ?_ (by simp) _
  exact below1 _ _

set_option maxHeartbeats 4000000 in
set_option maxRecDepth 100000 in
theorem rmark_next (R : Nat) (a : Option Addr) (c : Nat) (a' : Option Addr) (c' : Nat) (d : Dk) (p0 i : Nat) (seq : Int) (w w0 : World) (hR : Rd w R a c a' c' d p0 i) (hi : i < 24) (hD : IsDk w0 (.agg #[.slice a d.safe.length c, .slice a' d.wr.length c']) d) (hg : goodB d = true) (hb : Below w0.heap.size w0 w) :
    Calls Tryz.prog 120 #[.pointer (some ⟨R, 0, none⟩), .int .i64 seq] w fun e w' => ∃ v, e = .returned (.tuple #[v, .bool (decide ((stampDec ((logOf d p0).getD i ByteArray.empty)).2 = 0) && decide ((stampDec ((logOf d p0).getD i ByteArray.empty)).1.seq = seq))]) ∧ IsMkN w' w.heap.size v (stampDec ((logOf d p0).getD i ByteArray.empty)).1 ∧ Rd w' R a c a' c' d p0 (i + 1) ∧ But R w.heap.size w w' := by
  have HR := hide hR
  have hRl := hR.lt
  have HD := hide hD
  have HBW := hide hb
  clear hR hD hb
  go_enter Tryz.func120, Tryz.ntmps120
  go_wp2_with fail
  refine (block_next R a c a' c' d p0 i _ w0 (HR.out.below (below1 _ _)) hi HD.out hg (bthen HBW.out (below1 _ _))).mono ?_
  rintro e w1 ⟨rfl, hR1, hb1⟩
  rw [block_text d p0 i hi]
  obtain ⟨s, hse⟩ : ∃ s, s = (logOf d p0).getD i ByteArray.empty := ⟨_, rfl⟩
  rw [← hse]
  have HSE := hide hse
  clear hse
  have HR1 := hide hR1
  have HB1 := hide hb1
  have hs1 : w.heap.size + 1 ≤ w1.heap.size := by have := hb1.size; simpa using this
  have hs1' : w.heap.size < w1.heap.size := by omega
  have K4 : Hid (w1.heap[w.heap.size]? = some (.cells #[.int .i64 0, .int .i64 0, .int .i64 0, .slice none 0 0, .slice none 0 0] 103 (0, 0))) := (hb1.block _ (by simp) (by omega)).trans (heap_alloc_new w _)
  clear hR1 hb1 HR HD HBW
  go_wp2_with fail
  refine (stampDecode_new s _).mono ?_
  rintro e w2 ⟨v2, rfl, hN, hb2⟩
  obtain ⟨a2, c2, a3, c3, rfl, hT, hI, n1, n2, t1, t2⟩ := hN
  obtain ⟨m, hm⟩ : ∃ m, m = stampDec s := ⟨_, rfl⟩
  rw [← hm] at hT hI n1 n2 ⊢
  have HT := hide hT
  have HI := hide hI
  have HA : Hid ((∀ b off, a2 = some ⟨b, off, none⟩ → w.heap.size + 1 ≤ b) ∧ ∀ b off, a3 = some ⟨b, off, none⟩ → w.heap.size + 1 ≤ b) := ⟨fun b off e => Nat.le_trans hs1 (t1 b off e), fun b off e => Nat.le_trans hs1 (t2 b off e)⟩
  have HR2 := hide (HR1.out.below hb2)
  have K2 := hide (boxKeep hb2 hs1' K4.out)
  have HB2 : Hid (But R w.heap.size w w2) := (((But.of_below (below1 _ _)).trans HB1.out (by simp)).trans (But.of_below hb2) (by omega))
  have hs2 : w.heap.size < w2.heap.size := by have := hb2.size; omega
  have N12 := hide (And.intro n1 n2)
  have HZ := hide hm
  clear hT hI n1 n2 t1 t2 hb2 HR1 HB1 K4 hm
  obtain ⟨⟨y0, y1, y2, y3, y4⟩, f0, f1, f2, f3, f4⟩ := box5 K2.out
  obtain ⟨mk, er⟩ := m
  by_cases he : er = 0
  · subst he
    by_cases hq : mk.seq = seq
    · have hq' : (mk.seq == seq) = true := by simpa using hq
      go_wp2
      go_region
      all_goals
        obtain ⟨W, hW⟩ : ∃ W, W = ((((((w2.setCell ⟨w.heap.size, 0, none⟩ (.int .i64 mk.kind)).setCell ⟨w.heap.size, 1, none⟩ (.int .i64 seq)).setCell ⟨w.heap.size, 2, none⟩ (.int .i64 mk.pos)).setCell ⟨w.heap.size, 3, none⟩ (.slice a2 mk.tags.length c2)).setCell ⟨w.heap.size, 4, none⟩ (.slice a3 mk.blocks.length c3)).alloc (.cells #[.int .i64 mk.kind, .int .i64 seq, .int .i64 mk.pos, .slice a2 mk.tags.length c2, .slice a3 mk.blocks.length c3] 103)).drew := ⟨_, rfl⟩
        have hbx := stored5 K2.out (.int .i64 mk.kind) (.int .i64 seq) (.int .i64 mk.pos) (.slice a2 mk.tags.length c2) (.slice a3 mk.blocks.length c3) (.cells #[.int .i64 mk.kind, .int .i64 seq, .int .i64 mk.pos, .slice a2 mk.tags.length c2, .slice a3 mk.blocks.length c3] 103)
        rw [← hW] at hbx
        obtain ⟨⟨z0, z1, z2, z3, z4⟩, _⟩ := box5 hbx
        have HW := hide hW
        rw [← hW]
        clear hW hbx y0 y1 y2 y3 y4 f0 f1 f2 f3 f4
        go_wp2
        refine bodyPost_ret (v := .tuple #[.agg #[.int .i64 mk.kind, .int .i64 seq, .int .i64 mk.pos, .slice a2 mk.tags.length c2, .slice a3 mk.blocks.length c3], .bool true]) (by simp [results, Tryz.results120, go_sem, z0, z1, z2, z3, z4]) rfl ⟨.agg #[.int .i64 mk.kind, .int .i64 seq, .int .i64 mk.pos, .slice a2 mk.tags.length c2, .slice a3 mk.blocks.length c3], by rw [← HSE.out, ← HZ.out]; simp [hq], ?_, ?_, ?_⟩
        · rw [← HSE.out, ← HZ.out]
          refine ⟨a2, c2, a3, c3, by rw [hq], ?_, ?_, N12.out.1, N12.out.2, fun b off e => (by have := HA.out.1 b off e; omega), fun b off e => (by have := HA.out.2 b off e; omega)⟩
          · rw [HW.out]
            refine SegT.below ?_ (bthen (below1 _ _) ((Below.refl _ _).drew))
            repeat refine SegT.setNe ?_ (fun b off e => by have := HA.out.1 b off e; simp; omega) _
            exact HT.out
          · rw [HW.out]
            refine SegI.below ?_ (bthen (below1 _ _) ((Below.refl _ _).drew))
            repeat refine SegI.setNe ?_ (fun b off e => by have := HA.out.2 b off e; simp; omega) _
            exact HI.out
        · rw [HW.out]
          refine Rd.below ?_ (bthen (below1 _ _) ((Below.refl _ _).drew))
          repeat refine Rd.setNe ?_ (show R ≠ w.heap.size by omega) _
          exact HR2.out
        · rw [HW.out]
          refine But.trans ?_ (But.of_below (bthen (below1 _ _) ((Below.refl _ _).drew))) (by simp [World.setCell]; omega)
          exact (((((HB2.out.setNew (p := ⟨w.heap.size, 0, none⟩) (Nat.le_refl _) _).setNew (p := ⟨w.heap.size, 1, none⟩) (Nat.le_refl _) _).setNew (p := ⟨w.heap.size, 2, none⟩) (Nat.le_refl _) _).setNew (p := ⟨w.heap.size, 3, none⟩) (Nat.le_refl _) _).setNew (p := ⟨w.heap.size, 4, none⟩) (Nat.le_refl _) _)
    · have hq' : (mk.seq == seq) = false := by simpa using hq
      go_wp2
      go_region
      all_goals
        obtain ⟨W, hW⟩ : ∃ W, W = ((((((w2.setCell ⟨w.heap.size, 0, none⟩ (.int .i64 mk.kind)).setCell ⟨w.heap.size, 1, none⟩ (.int .i64 mk.seq)).setCell ⟨w.heap.size, 2, none⟩ (.int .i64 mk.pos)).setCell ⟨w.heap.size, 3, none⟩ (.slice a2 mk.tags.length c2)).setCell ⟨w.heap.size, 4, none⟩ (.slice a3 mk.blocks.length c3)).alloc (.cells #[.int .i64 mk.kind, .int .i64 mk.seq, .int .i64 mk.pos, .slice a2 mk.tags.length c2, .slice a3 mk.blocks.length c3] 103)).drew := ⟨_, rfl⟩
        have hbx := stored5 K2.out (.int .i64 mk.kind) (.int .i64 mk.seq) (.int .i64 mk.pos) (.slice a2 mk.tags.length c2) (.slice a3 mk.blocks.length c3) (.cells #[.int .i64 mk.kind, .int .i64 mk.seq, .int .i64 mk.pos, .slice a2 mk.tags.length c2, .slice a3 mk.blocks.length c3] 103)
        rw [← hW] at hbx
        obtain ⟨⟨z0, z1, z2, z3, z4⟩, _⟩ := box5 hbx
        have HW := hide hW
        rw [← hW]
        clear hW hbx y0 y1 y2 y3 y4 f0 f1 f2 f3 f4
        go_wp2
        refine bodyPost_ret (v := .tuple #[.agg #[.int .i64 mk.kind, .int .i64 mk.seq, .int .i64 mk.pos, .slice a2 mk.tags.length c2, .slice a3 mk.blocks.length c3], .bool false]) (by simp [results, Tryz.results120, go_sem, z0, z1, z2, z3, z4]) rfl ⟨.agg #[.int .i64 mk.kind, .int .i64 mk.seq, .int .i64 mk.pos, .slice a2 mk.tags.length c2, .slice a3 mk.blocks.length c3], by rw [← HSE.out, ← HZ.out]; simp [hq], ?_, ?_, ?_⟩
        · rw [← HSE.out, ← HZ.out]
          refine ⟨a2, c2, a3, c3, rfl, ?_, ?_, N12.out.1, N12.out.2, fun b off e => (by have := HA.out.1 b off e; omega), fun b off e => (by have := HA.out.2 b off e; omega)⟩
          · rw [HW.out]
            refine SegT.below ?_ (bthen (below1 _ _) ((Below.refl _ _).drew))
            repeat refine SegT.setNe ?_ (fun b off e => by have := HA.out.1 b off e; simp; omega) _
            exact HT.out
          · rw [HW.out]
            refine SegI.below ?_ (bthen (below1 _ _) ((Below.refl _ _).drew))
            repeat refine SegI.setNe ?_ (fun b off e => by have := HA.out.2 b off e; simp; omega) _
            exact HI.out
        · rw [HW.out]
          refine Rd.below ?_ (bthen (below1 _ _) ((Below.refl _ _).drew))
          repeat refine Rd.setNe ?_ (show R ≠ w.heap.size by omega) _
          exact HR2.out
        · rw [HW.out]
          refine But.trans ?_ (But.of_below (bthen (below1 _ _) ((Below.refl _ _).drew))) (by simp [World.setCell]; omega)
          exact (((((HB2.out.setNew (p := ⟨w.heap.size, 0, none⟩) (Nat.le_refl _) _).setNew (p := ⟨w.heap.size, 1, none⟩) (Nat.le_refl _) _).setNew (p := ⟨w.heap.size, 2, none⟩) (Nat.le_refl _) _).setNew (p := ⟨w.heap.size, 3, none⟩) (Nat.le_refl _) _).setNew (p := ⟨w.heap.size, 4, none⟩) (Nat.le_refl _) _)
  · have he' : (er == 0) = false := by simpa using he
    go_wp2
    go_region
    all_goals
      obtain ⟨W, hW⟩ : ∃ W, W = ((((((w2.setCell ⟨w.heap.size, 0, none⟩ (.int .i64 mk.kind)).setCell ⟨w.heap.size, 1, none⟩ (.int .i64 mk.seq)).setCell ⟨w.heap.size, 2, none⟩ (.int .i64 mk.pos)).setCell ⟨w.heap.size, 3, none⟩ (.slice a2 mk.tags.length c2)).setCell ⟨w.heap.size, 4, none⟩ (.slice a3 mk.blocks.length c3)).alloc (.cells #[.int .i64 mk.kind, .int .i64 mk.seq, .int .i64 mk.pos, .slice a2 mk.tags.length c2, .slice a3 mk.blocks.length c3] 103)).drew := ⟨_, rfl⟩
      have hbx := stored5 K2.out (.int .i64 mk.kind) (.int .i64 mk.seq) (.int .i64 mk.pos) (.slice a2 mk.tags.length c2) (.slice a3 mk.blocks.length c3) (.cells #[.int .i64 mk.kind, .int .i64 mk.seq, .int .i64 mk.pos, .slice a2 mk.tags.length c2, .slice a3 mk.blocks.length c3] 103)
      rw [← hW] at hbx
      obtain ⟨⟨z0, z1, z2, z3, z4⟩, _⟩ := box5 hbx
      have HW := hide hW
      rw [← hW]
      clear hW hbx y0 y1 y2 y3 y4 f0 f1 f2 f3 f4
      go_wp2
      refine bodyPost_ret (v := .tuple #[.agg #[.int .i64 mk.kind, .int .i64 mk.seq, .int .i64 mk.pos, .slice a2 mk.tags.length c2, .slice a3 mk.blocks.length c3], .bool false]) (by simp [results, Tryz.results120, go_sem, z0, z1, z2, z3, z4]) rfl ⟨.agg #[.int .i64 mk.kind, .int .i64 mk.seq, .int .i64 mk.pos, .slice a2 mk.tags.length c2, .slice a3 mk.blocks.length c3], by rw [← HSE.out, ← HZ.out]; simp [he], ?_, ?_, ?_⟩
      · rw [← HSE.out, ← HZ.out]
        refine ⟨a2, c2, a3, c3, rfl, ?_, ?_, N12.out.1, N12.out.2, fun b off e => (by have := HA.out.1 b off e; omega), fun b off e => (by have := HA.out.2 b off e; omega)⟩
        · rw [HW.out]
          refine SegT.below ?_ (bthen (below1 _ _) ((Below.refl _ _).drew))
          repeat refine SegT.setNe ?_ (fun b off e => by have := HA.out.1 b off e; simp; omega) _
          exact HT.out
        · rw [HW.out]
          refine SegI.below ?_ (bthen (below1 _ _) ((Below.refl _ _).drew))
          repeat refine SegI.setNe ?_ (fun b off e => by have := HA.out.2 b off e; simp; omega) _
          exact HI.out
      · rw [HW.out]
        refine Rd.below ?_ (bthen (below1 _ _) ((Below.refl _ _).drew))
        repeat refine Rd.setNe ?_ (show R ≠ w.heap.size by omega) _
        exact HR2.out
      · rw [HW.out]
        refine But.trans ?_ (But.of_below (bthen (below1 _ _) ((Below.refl _ _).drew))) (by simp [World.setCell]; omega)
        exact (((((HB2.out.setNew (p := ⟨w.heap.size, 0, none⟩) (Nat.le_refl _) _).setNew (p := ⟨w.heap.size, 1, none⟩) (Nat.le_refl _) _).setNew (p := ⟨w.heap.size, 2, none⟩) (Nat.le_refl _) _).setNew (p := ⟨w.heap.size, 3, none⟩) (Nat.le_refl _) _).setNew (p := ⟨w.heap.size, 4, none⟩) (Nat.le_refl _) _)

end Go.Proofs.YtjnpndfpajjihabGreat

namespace Go.Proofs.YtjnpndfpajjihabGreat
open Go.RowKit

/-- The bytes of a text as a list. -/
def bl (s : ByteArray) : List UInt8 := s.data.toList
theorem bl_length (s : ByteArray) : (bl s).length = s.size := rfl
theorem bl_inj {s t : ByteArray} (h : bl s = bl t) : s = t := ByteArray.ext (Array.ext' h)
theorem bl_append (s t : ByteArray) : bl (s ++ t) = bl s ++ bl t := by simp [bl, ByteArray.data_append]
theorem at8_bl (s : ByteArray) (k : Nat) : at8 s k = (((bl s).getD k 0).toNat : Int) := by
  by_cases h : k < s.size
  · rw [← at8_of s k h, List.getD, List.getElem?_eq_getElem (show k < (bl s).length from h)]; rfl
  · have h' : ¬ k < s.data.size := h
    rw [List.getD, List.getElem?_eq_none (by rw [bl_length]; omega)]
    unfold at8
    show ((s.data[k]!).toNat : Int) = _
    rw [getElem!_neg s.data k h']
    rfl
theorem same_at8 {s t : ByteArray} (hz : s.size = t.size) (h : ∀ k, k < s.size → at8 s k = at8 t k) : s = t := by
  apply bl_inj
  apply List.ext_getElem (by rw [bl_length, bl_length]; exact hz)
  intro k h1 h2
  have := h k h1
  rw [at8_bl, at8_bl, List.getD, List.getD, List.getElem?_eq_getElem h1, List.getElem?_eq_getElem h2] at this
  exact UInt8.toNat_inj.1 (Int.ofNat_inj.1 (by simpa using this))

theorem magic_iff (s : ByteArray) (h : 4 ≤ s.size) : isMagic s = true ↔ at8 s 0 = 87 ∧ at8 s 1 = 66 ∧ at8 s 2 = 75 ∧ at8 s 3 = 49 := by
  have e : (s.extract 0 4).toList = (bl s).take 4 := by
    rw [ByteArray.toList_eq]; simp [bl, ByteArray.data_extract]
  rw [isMagic, if_pos h, e, beq_iff_eq, at8_bl, at8_bl, at8_bl, at8_bl]
  have hl : 4 ≤ (bl s).length := h
  match hb : bl s, hl with
  | a :: b :: c :: d :: r, _ =>
    simp only [List.take_succ_cons, List.take_zero, List.cons.injEq, and_true, List.getD_cons_zero, List.getD_cons_succ]
    constructor
    · rintro ⟨rfl, rfl, rfl, rfl⟩; exact ⟨rfl, rfl, rfl, rfl⟩
    · rintro ⟨h1, h2, h3, h4⟩
      exact ⟨UInt8.toNat_inj.1 (by show a.toNat = 87; omega), UInt8.toNat_inj.1 (by show b.toNat = 66; omega), UInt8.toNat_inj.1 (by show c.toNat = 75; omega), UInt8.toNat_inj.1 (by show d.toNat = 49; omega)⟩

/-- What stands ahead, and what stands behind it. -/
def headL (k q : Int) : List UInt8 := [87, 66, 75, 49, UInt8.ofNat k.toNat, UInt8.ofNat (q / 16777216).toNat, UInt8.ofNat (q / 65536 % 256).toNat, UInt8.ofNat (q / 256 % 256).toNat, UInt8.ofNat (q % 256).toNat]
def tagB : List (Int × Bool) → List UInt8
  | [] => []
  | x :: r => UInt8.ofNat x.1.toNat :: (if x.2 then 1 else 0) :: tagB r
def numB (l : List Int) : List UInt8 := l.map fun x => UInt8.ofNat x.toNat
def tailB (m : Mk) : List UInt8 :=
  if m.kind = 1 then [UInt8.ofNat m.pos.toNat] else if m.kind = 2 then UInt8.ofNat m.tags.length :: tagB m.tags else if m.kind = 3 then UInt8.ofNat m.blocks.length :: numB m.blocks else []

theorem bl_one (n : Nat) : bl (oneB n) = [UInt8.ofNat n] := rfl
theorem bl_head (k q : Int) : bl (headT k q) = headL k q := by
  rw [headT, bl_append, bl_append, bl_append, bl_append, bl_append, bl_one, bl_one, bl_one, bl_one, bl_one]; rfl
theorem bl_tags (s : ByteArray) (l : List (Int × Bool)) : bl (tagsT s l) = bl s ++ tagB l := by
  induction l generalizing s with
  | nil => simp [tagsT, tagB]
  | cons x r ih =>
    rw [tagsT, ih, bl_append, bl_append, bl_one, tagB]
    have : bl (if x.2 then (⟨#[1]⟩ : ByteArray) else ⟨#[0]⟩) = [if x.2 then 1 else 0] := by cases x.2 <;> rfl
    rw [this]
    simp
theorem bl_nums (s : ByteArray) (l : List Int) : bl (numsT s l) = bl s ++ numB l := by
  induction l generalizing s with
  | nil => simp [numsT, numB]
  | cons x r ih => rw [numsT, ih, bl_append, bl_one]; simp [numB]
theorem bl_body (m : Mk) : bl (bodyT m) = headL m.kind m.seq ++ tailB m := by
  unfold bodyT tailB
  by_cases h1 : m.kind = 1
  · rw [if_pos h1, if_pos h1, bl_append, bl_head, bl_one]
  · rw [if_neg h1, if_neg h1]
    by_cases h2 : m.kind = 2
    · rw [if_pos h2, if_pos h2, bl_tags, bl_append, bl_head, bl_one]; simp
    · rw [if_neg h2, if_neg h2]
      by_cases h3 : m.kind = 3
      · rw [if_pos h3, if_pos h3, bl_nums, bl_append, bl_head, bl_one]; simp
      · rw [if_neg h3, if_neg h3, bl_head]; simp
theorem tagB_length (l : List (Int × Bool)) : (tagB l).length = 2 * l.length := by
  induction l with
  | nil => rfl
  | cons x r ih => simp only [tagB, List.length_cons, ih]; omega
theorem numB_length (l : List Int) : (numB l).length = l.length := by simp [numB]
theorem tailB_length {m : Mk} (h : goodM m = 0) : (tailB m).length ≤ 21 := by
  obtain ⟨_, _, _, ht, hb, _, _⟩ := goodM_parts h
  unfold tailB
  by_cases h1 : m.kind = 1
  · rw [if_pos h1]; simp
  · rw [if_neg h1]
    by_cases h2 : m.kind = 2
    · rw [if_pos h2, List.length_cons, tagB_length]; have := ht h2; omega
    · rw [if_neg h2]
      by_cases h3 : m.kind = 3
      · rw [if_pos h3, List.length_cons, numB_length]; have := hb h3; omega
      · rw [if_neg h3]; simp
theorem bl_enc {m : Mk} (h : goodM m = 0) : bl (encT m) = headL m.kind m.seq ++ (tailB m ++ List.replicate (23 - (tailB m).length) 0) := by
  have hl := tailB_length h
  have hb : (bl (bodyT m)).length = 9 + (tailB m).length := by rw [bl_body, List.length_append]; rfl
  have hs : (bodyT m).size = 9 + (tailB m).length := hb
  rw [encT, if_pos h]
  show fitL (bodyT m) = _
  rw [fitL, hs]
  show (bl (bodyT m)).take 32 ++ _ = _
  rw [List.take_of_length_le (by omega), bl_body, List.append_assoc, show 32 - (9 + (tailB m).length) = 23 - (tailB m).length from by omega]
theorem enc_size {m : Mk} (h : goodM m = 0) : (encT m).size = 32 := by
  have hl := tailB_length h
  have : (bl (encT m)).length = 32 := by
    rw [bl_enc h, List.length_append, List.length_append, List.length_replicate]
    show 9 + _ = 32
    omega
  exact this
theorem enc_tail {m : Mk} (h : goodM m = 0) (j : Nat) : at8 (encT m) (9 + j) = (((tailB m).getD j 0).toNat : Int) := by
  rw [at8_bl, bl_enc h, List.getD, List.getElem?_append_right (show (headL m.kind m.seq).length ≤ 9 + j from Nat.le_add_right 9 j)]
  rw [show 9 + j - (headL m.kind m.seq).length = j from by show 9 + j - 9 = j; omega]
  by_cases hj : j < (tailB m).length
  · rw [List.getElem?_append_left hj, List.getD]
  · rw [List.getElem?_append_right (by omega), List.getD, List.getElem?_eq_none (l := tailB m) (by omega), List.getElem?_replicate]
    split <;> rfl
theorem ofNat8 {x : Int} (h0 : 0 ≤ x) (h1 : x ≤ 255) : ((UInt8.ofNat x.toNat).toNat : Int) = x := by
  simp
  omega
theorem enc_head {m : Mk} (h : goodM m = 0) : at8 (encT m) 0 = 87 ∧ at8 (encT m) 1 = 66 ∧ at8 (encT m) 2 = 75 ∧ at8 (encT m) 3 = 49 ∧ at8 (encT m) 4 = m.kind ∧ at8 (encT m) 5 = m.seq / 16777216 ∧ at8 (encT m) 6 = m.seq / 65536 % 256 ∧ at8 (encT m) 7 = m.seq / 256 % 256 ∧ at8 (encT m) 8 = m.seq % 256 := by
  obtain ⟨_, _, _, _, _, _, _⟩ := goodM_parts h
  simp only [at8_bl, bl_enc h, headL, List.cons_append, List.getD_cons_zero, List.getD_cons_succ]
  refine ⟨rfl, rfl, rfl, rfl, ofNat8 (by omega) (by omega), ofNat8 (by omega) (by omega), ofNat8 (by omega) (by omega), ofNat8 (by omega) (by omega), ofNat8 (by omega) (by omega)⟩
theorem enc_magic {m : Mk} (h : goodM m = 0) : isMagic (encT m) = true := by
  obtain ⟨h0, h1, h2, h3, _⟩ := enc_head h
  exact (magic_iff _ (by rw [enc_size h]; omega)).2 ⟨h0, h1, h2, h3⟩

theorem tagB_at (l : List (Int × Bool)) (i : Nat) (x : Int × Bool) (h : l[i]? = some x) : (tagB l).getD (2 * i) 0 = UInt8.ofNat x.1.toNat ∧ (tagB l).getD (2 * i + 1) 0 = if x.2 then 1 else 0 := by
  induction l generalizing i with
  | nil => simp at h
  | cons y r ih =>
    cases i with
    | zero => simp at h; subst h; exact ⟨rfl, rfl⟩
    | succ i =>
      have := ih i (by simpa using h)
      rw [show 2 * (i + 1) = 2 * i + 1 + 1 from by omega, tagB]
      simp only [List.getD_cons_succ]
      exact this
theorem numB_at (l : List Int) (i : Nat) (x : Int) (h : l[i]? = some x) : (numB l).getD i 0 = UInt8.ofNat x.toNat := by
  rw [List.getD, numB, List.getElem?_map, h]; rfl

/-- A good mark is read as it was. -/
theorem back {m : Mk} (h : goodM m = 0) : gsM (encT m) = m := by
  obtain ⟨⟨k1, k2⟩, ⟨q1, q2, p1, p2⟩, ⟨f1, f2, f3⟩, ht, hb, hr, hr'⟩ := goodM_parts h
  obtain ⟨_, _, _, _, h4, h5, h6, h7, h8⟩ := enc_head h
  have hq : seqOf (encT m) 4 = m.seq := by
    simp only [seqOf]
    rw [show 0 + 5 = 5 from rfl, show 1 + 5 = 6 from rfl, show 2 + 5 = 7 from rfl, show 3 + 5 = 8 from rfl, h5, h6, h7, h8]
    omega
  have h9 := enc_tail h 0
  rw [show 9 + 0 = 9 from rfl] at h9
  obtain ⟨kind, seq, pos, tags, blocks⟩ := m
  dsimp only at *
  unfold gsM
  rw [hq, h4]
  by_cases e1 : kind = 1
  · rw [if_pos e1, if_neg (by omega), if_neg (by omega), f2 (by omega), f3 (by omega)]
    rw [tailB, if_pos e1] at h9
    rw [f2 (by omega), f3 (by omega)] at h9
    rw [h9]
    show Mk.mk kind seq ((UInt8.ofNat pos.toNat).toNat : Int) [] [] = _
    rw [ofNat8 (by omega) (by omega)]
  · obtain rfl := f1 e1
    rw [if_neg e1]
    by_cases e2 : kind = 2
    · have hl := ht e2
      rw [if_pos e2, if_neg (by omega), f3 (by omega)]
      have hmany : manyOf (encT ⟨kind, seq, 0, tags, blocks⟩) 10 = tags.length := by
        rw [manyOf, h9, tailB, if_neg e1, if_pos e2]
        show min (((UInt8.ofNat tags.length).toNat : Int)).toNat 10 = _
        simp
        omega
      have hg : gTags (encT ⟨kind, seq, 0, tags, blocks⟩) = tags := by
        apply List.ext_getElem?
        intro i
        by_cases hi : i < tags.length
        · rw [gTags_at _ i (by rw [hmany]; exact hi)]
          obtain ⟨x, hx⟩ : ∃ x, tags[i]? = some x := ⟨_, List.getElem?_eq_getElem hi⟩
          have hbx := rises_bd _ _ hr (by omega) x.1 (List.mem_map.2 ⟨x, List.mem_of_getElem? hx, rfl⟩)
          have hT := tagB_at tags i x hx
          have t1 := enc_tail h (1 + 2 * i)
          have t2 := enc_tail h (2 + 2 * i)
          rw [tailB, if_neg e1, if_pos e2] at t1 t2
          rw [show 9 + (1 + 2 * i) = 10 + 2 * i from by omega, show 1 + 2 * i = 2 * i + 1 from by omega] at t1
          rw [show 9 + (2 + 2 * i) = 11 + 2 * i from by omega, show 2 + 2 * i = 2 * i + 1 + 1 from by omega] at t2
          simp only [List.getD_cons_succ] at t1 t2
          rw [hT.1] at t1
          rw [hT.2] at t2
          rw [t1, t2, hx, ofNat8 (by omega) (by omega)]
          obtain ⟨xi, f⟩ := x
          cases f <;> rfl
        · rw [List.getElem?_eq_none (by rw [gTags_length, hmany]; omega), List.getElem?_eq_none (by omega)]
      have hf3 := f3 (by omega)
      subst hf3
      rw [hg]
    · rw [if_neg e2, f2 e2]
      by_cases e3 : kind = 3
      · have hl := hb e3
        rw [if_pos e3]
        have hf2 := f2 e2
        subst hf2
        have hmany : manyOf (encT ⟨kind, seq, 0, [], blocks⟩) 20 = blocks.length := by
          rw [manyOf, h9, tailB, if_neg e1, if_neg e2, if_pos e3]
          show min (((UInt8.ofNat blocks.length).toNat : Int)).toNat 20 = _
          simp
          omega
        have hg : gBlocks (encT ⟨kind, seq, 0, [], blocks⟩) = blocks := by
          apply List.ext_getElem?
          intro i
          by_cases hi : i < blocks.length
          · rw [gBlocks_at _ i (by rw [hmany]; exact hi)]
            obtain ⟨x, hx⟩ : ∃ x, blocks[i]? = some x := ⟨_, List.getElem?_eq_getElem hi⟩
            have hbx := rises_bd _ _ hr' (by omega) x (List.mem_of_getElem? hx)
            have t1 := enc_tail h (1 + i)
            rw [tailB, if_neg e1, if_neg e2, if_pos e3] at t1
            rw [show 9 + (1 + i) = 10 + i from by omega, show 1 + i = i + 1 from by omega] at t1
            simp only [List.getD_cons_succ] at t1
            rw [numB_at blocks i x hx] at t1
            rw [t1, hx, ofNat8 (by omega) (by omega)]
          · rw [List.getElem?_eq_none (by rw [gBlocks_length, hmany]; omega), List.getElem?_eq_none (by omega)]
        rw [hg]
      · rw [if_neg e3, f3 e3]

theorem dec_enc {m : Mk} (h : goodM m = 0) : stampDec (encT m) = (m, 0) := by
  rw [stampDec, back h, if_pos ⟨enc_size h, h, rfl⟩]
theorem dec_magic {s : ByteArray} (h : isMagic s = false) : stampDec s = (zeroM, 1) := by
  refine if_neg fun x => ?_
  have := enc_magic x.2.1
  rw [x.2.2, h] at this
  cases this

theorem magic_take {s : ByteArray} (hm : isMagic s = true) : (bl s).take 4 = [87, 66, 75, 49] := by
  have e : (s.extract 0 4).toList = (bl s).take 4 := by
    rw [ByteArray.toList_eq]; simp [bl, ByteArray.data_extract]
  rw [isMagic, if_pos (magic_four hm), e, beq_iff_eq] at hm
  exact hm
theorem esc_size (s : ByteArray) : (escT s).size = s.size := by
  unfold escT
  cases hm : isMagic s with
  | false => rfl
  | true =>
    have := magic_four hm
    rw [if_pos rfl, ByteArray.size_append, ByteArray.size_extract]
    show 4 + _ = _
    omega
theorem esc_magic (s : ByteArray) : isMagic (escT s) = false := by
  cases hm : isMagic s with
  | false => rw [escT, hm]; exact hm
  | true =>
    have h4 := magic_four hm
    cases he : isMagic (escT s) with
    | false => rfl
    | true =>
      have := ((magic_iff _ (by rw [esc_size]; exact h4)).1 he).1
      rw [escT, if_pos hm, at8_bl, bl_append] at this
      exact absurd this (by show ¬ ((0 : Int) = 87); decide)
theorem unesc_esc (s : ByteArray) : unescT (escT s) (isMagic s) = s := by
  cases hm : isMagic s with
  | false => rw [escT, hm, unescT, if_pos (.inl rfl)]; rfl
  | true =>
    have h4 := magic_four hm
    have hz := esc_size s
    rw [unescT, if_neg (by rintro (h | h); cases h; omega)]
    have hE : bl (escT s) = [0, 0, 0, 0] ++ (bl s).drop 4 := by
      rw [escT, if_pos hm, bl_append]
      congr 1
      simp only [bl, ByteArray.data_extract, Array.toList_extract]
      rw [List.extract_eq_take_drop]
      apply List.take_of_length_le
      rw [List.length_drop]
      exact Nat.le_refl _
    have hX : bl ((escT s).extract 4 (escT s).size) = (bl s).drop 4 := by
      have : bl ((escT s).extract 4 (escT s).size) = (bl (escT s)).drop 4 := by
        simp only [bl, ByteArray.data_extract, Array.toList_extract]
        rw [List.extract_eq_take_drop]
        apply List.take_of_length_le
        rw [List.length_drop]
        exact Nat.le_refl _
      rw [this, hE]
      rfl
    apply bl_inj
    have hM : bl (⟨#[87, 66, 75, 49]⟩ : ByteArray) = [87, 66, 75, 49] := rfl
    rw [bl_append, hX, hM, ← magic_take hm, List.take_append_drop]

end Go.Proofs.YtjnpndfpajjihabGreat
