/-
  The walk of the document's own FlushDisk.
-/
import Derived.Test.YtjnpndfpajjihaaFlush
import Derived.Test.YtjnpndfpajjihaaRefPut
namespace Go.Proofs.Ytjnpndfpajjihaa
open Go.RowKit

/-- append of one text onto a row of the call's own, as one step of a region that draws its order. -/
theorem step_appS {ops : Array Oper} {o : Oper} {a : Act} {w : World} {K : Act → World → Prop} {Q : Exit → Act → World → Prop} {E : Prop} (hgd : o.guard = none) (s x : Operand)
    (ho : o.op = .call { callee := .builtin .append, args := #[s, x], argTypes := #[22, 22] })
    (base : Nat) (v : Value) (n : Nat) (ss : List ByteArray) (hs : a.eval s = v) (hown : w.ownsRow base 9 1 v n (cellsS ss)) (ad : Addr) (t : ByteArray) (hx : a.eval x = .slice (some ad) 1 1)
    (hc : w.cell? (ad.add 0) = some (.string t)) (h63 : n ≤ 1000) (hbase : base ≤ w.heap.size)
    (h : ∀ a2 c2 w', Hid (w'.ownsRow base 9 1 (.slice a2 (n + 1) c2) (n + 1) (cellsS (ss ++ [t]))) → w.grownBy w' v.ownBlock → K (a.put o.dst (.slice a2 (n + 1) c2)) w') :
    if Region.wanted o (yielded ops a.tmps) = true then Oper.wp Try.prog o a w K Q else E := by
  have hw : Region.wanted o (yielded ops a.tmps) = true := by simp [Region.wanted, hgd]
  rw [if_pos hw]
  obtain ⟨i0, hi, hz0, hz1, hz2⟩ := info_parts infoS
  obtain ⟨v', w', hrun, r1, r2, _⟩ := run_append_own (P := Try.prog) w base 22 o.type 9 i0 (.string ⟨#[]⟩) 1 16 Try.underlying22 hi hz0 hz1 hz2 rfl (by decide) v n (cellsS ss) hown ad 1 1 [.string t] rfl
    (by
        intro j u hj
        match j, hj with
        | 0, hj => simp at hj; subst hj; exact hc) (by intro u hu; simp at hu; subst hu; rfl) (by unfold maxLen; omega) (by omega) hbase
  unfold Oper.wp
  simp [execOp, ho, resolve, invoke, builtin, hs, hx, hrun, Result.andThen]
  have e : cellsS ss ++ [.string t] = cellsS (ss ++ [t]) := by simp [cellsS]
  rw [e] at r1
  obtain ⟨a2, c2, hv, _, _⟩ := SegS.of_owns r1
  have hn : (ss ++ [t]).length = n + 1 := by
    have := hown.1
    rw [cellsS_length] at this
    simp; omega
  rw [hn] at hv
  subst hv
  exact h a2 c2 w' r1 r2

set_option maxHeartbeats 1000000 in
theorem flushRef_no (v : Value) (d : Dk) (w : World) (h : IsDk w v d) (hg : goodB d = false) :
    Calls Try.prog 21 #[v] w fun e w' => e = .returned (.tuple #[v, .int .i64 2]) ∧ Below w.heap.size w w' := by
  have HI : Hid (IsDk w v d) := h
  obtain ⟨a, c, a', c', rfl, _, _, _, _⟩ := h
  go_enter Try.func21, Try.ntmps21
  go_wp2_with fail
  refine (goodDisk_any _ d _ (HI.out.below (bthen (below1 _ _) (below1 _ _)))).mono ?_
  rintro e w1 ⟨rfl, hb1⟩
  obtain ⟨hc1, hf1⟩ := bcell hb1
  have hs1 : w.heap.size + 1 < w1.heap.size := by have := hb1.size; simp at this; omega
  go_wp2
  refine bodyPost_ret (v := .tuple #[.agg #[.slice a d.safe.length c, .slice a' d.wr.length c'], .int .i64 2]) (by simp [results, Try.results21, go_sem, hc1]) rfl ⟨rfl, ?_⟩
  have hb2 : Below w.heap.size w w1 := bthen (bthen (below1 _ _) (below1 _ _)) hb1
  exact (hb2.setCell (by simp) _).setCell (by simp) _

set_option maxHeartbeats 4000000 in
set_option maxRecDepth 100000 in
theorem flushRef_ok (v : Value) (d : Dk) (w : World) (h : IsDk w v d) (hg : goodB d = true) :
    Calls Try.prog 21 #[v] w fun e w' => ∃ v2, e = .returned (.tuple #[v2, .int .i64 0]) ∧ IsDk w' v2 ⟨flushL d 37, []⟩ ∧ Below w.heap.size w w' ∧ DkFrom w.heap.size v2 := by
  have HI : Hid (IsDk w v d) := h
  obtain ⟨a, c, a', c', rfl, _, _, _, _⟩ := h
  have H37 := hide (good_len37 hg)
  rw [H37.out.1] at HI ⊢
  go_enter Try.func21, Try.ntmps21
  go_wp2_with fail
  refine (goodDisk_any _ d _ (HI.out.below (bthen (below1 _ _) (below1 _ _)))).mono ?_
  rintro e w1 ⟨rfl, hb1⟩
  have hs1 : w.heap.size + 1 < w1.heap.size := by have := hb1.size; simp at this; omega
  have hs1' : w.heap.size < w1.heap.size := by omega
  have x0 := cellKeep hb1 (b := w.heap.size) (o := 0) (v := .slice a 37 c) (by simp; omega) (by simp [go_sem])
  have x1 := cellKeep hb1 (b := w.heap.size) (o := 1) (v := .slice a' d.wr.length c') (by simp; omega) (by simp [go_sem])
  have y0 := cellKeep hb1 (b := w.heap.size + 1) (o := 0) (v := .slice none 0 0) (by simp) (by simp [go_sem])
  have y1 := cellKeep hb1 (b := w.heap.size + 1) (o := 1) (v := .slice none 0 0) (by simp) (by simp [go_sem])
  have f0 := frozKeep hb1 (b := w.heap.size + 1) (o := 0) (v := false) (by simp) (by simp [go_sem])
  have f1 := frozKeep hb1 (b := w.heap.size + 1) (o := 1) (v := false) (by simp) (by simp [go_sem])
  have hb2 : Below w.heap.size w w1 := bthen (bthen (below1 _ _) (below1 _ _)) hb1
  clear hb1
  go_wp2
  go_loopw [15] (fun i wr => ∃ (k : Nat) (a2 : Option Addr) (c2 : Nat), k ≤ 37 ∧ i = .int .i64 k ∧ wr.heap[w1.heap.size]? = some (.cells #[.slice a2 k c2, .slice none 0 0] 25 (0, 0)) ∧ Hid (wr.ownsRow (w1.heap.size + 1) 9 1 (.slice a2 k c2) k (cellsS (flushL d k))) ∧ Below w1.heap.size w1 wr) (fun i _ => 37 - (intOf i).toNat)
  case atStart =>
    refine ⟨0, none, 0, Nat.zero_le _, rfl, ?_, World.ownsRow_nil _ _ _ _, below1 _ _⟩
    exact heap_alloc_new w1 _
  case round =>
    obtain ⟨k, a2, c2, hk, rfl, hbox, hown, hbr⟩ := hrel
    have HBOX := hide hbox
    clear hbox
    have hsr : w1.heap.size < wr.heap.size := (Array.getElem?_eq_some_iff.1 HBOX.out).1
    by_cases hlt : k < 37
    · have hlt' : (k : Int) < 37 := by omega
      have z0 := cellKeep hbr (by omega) x0
      have z1 := cellKeep hbr (by omega) x1
      go_wp2_with fail
      refine (after_any _ d k _ (HI.out.below (bthen hb2 hbr)) H37.out.1 hlt H37.out.2).mono ?_
      rintro e w3 ⟨v3, rfl, hown3, hb3⟩
      obtain ⟨a3, c3, hv3, hS3, _⟩ := SegS.of_owns hown3
      have hL : 1 ≤ (ways d k).length ∧ (ways d k).length ≤ 201 := by
        have := waysTo_length d k d.wr.length H37.out.2
        rw [waysTo, List.take_length] at this
        exact this
      obtain ⟨b3, o3, ha3, hb3', hc3⟩ := hS3.resolve_left (by intro e; rw [e] at hL; simp at hL)
      have hct := hc3 ((ways d k).length - 1) (by omega)
      rw [ways_last] at hct
      obtain ⟨t, ht⟩ : ∃ t, t = lastOf d k := ⟨_, rfl⟩
      rw [← ht] at hct
      obtain ⟨L, hLe⟩ : ∃ L, (ways d k).length = L + 1 := ⟨(ways d k).length - 1, by omega⟩
      rw [hLe] at hv3 hL hct
      rw [Nat.add_sub_cancel] at hct
      rw [hv3, ha3]
      have hs3 : w1.heap.size < w3.heap.size := by have := hb3.size; omega
      have hbox3 : w3.heap[w1.heap.size]? = some (.cells #[.slice a2 k c2, .slice none 0 0] 25 (0, 0)) := (hb3.block _ hsr).trans HBOX.out
      have o0 : w3.cell? ⟨w1.heap.size, 0, none⟩ = some (.slice a2 k c2) := by rw [cell_of_row w3 _ _ _ _ _ hbox3]; rfl
      have HB3 := hide hbox3
      have HO3 := hide (owns_keep hown.out hb3)
      have HT := hide ht
      have hb4 := bthen hbr hb3
      clear hown hown3 hS3 hc3 hv3 ha3 hLe z0 z1 hbox3 ht
      have hwr : IntKind.i64.wrap (L : Int) = (L : Int) := by rw [IntKind.wrap_i64]; omega
      have hL0 : 0 ≤ (L : Int) := by omega
      have hL1 : (L : Int) < (L : Int) + 1 := by omega
      go_wp2
      go_region_law (refine step_appS rfl (.tmp 22) (.tmp 29) rfl (w1.heap.size + 1) (.slice a2 k c2) k (flushL d k) (by simp [Act.eval]) (HO3.out.alloc _) ⟨w3.heap.size, 0, none⟩ t (by simp [Act.eval]) (by simp [go_sem]) (by omega) (by simp; omega) ?_; intro a5 c5 w5 HO5 hg5; have hbox5 : w5.heap[w1.heap.size]? = some (.cells #[.slice a2 k c2, .slice none 0 0] 25 (0, 0)) := ((hg5.block w1.heap.size (by simp; omega) (fun e => by have := HO3.out.lt _ e.symm; omega)).trans ((Below.heap_alloc w3 _ _ hs3).trans HB3.out)); have o5 : w5.cell? ⟨w1.heap.size, 0, none⟩ = some (.slice a2 k c2) := (by rw [cell_of_row w5 _ _ _ _ _ hbox5]; rfl); have fz5 : w5.frozen? ⟨w1.heap.size, 0, none⟩ = false := (frozen_of_row w5 _ _ _ _ hbox5); have HB5 := hide hbox5; have hb5 : Below w1.heap.size w1 w5 := (((hb4.alloc (by omega) _).drew).grown hg5 (by simp; omega) (fun k hk => by have := HO3.out.lt k hk; omega)); clear hbox5 hg5)
      all_goals
        clear HO3 HB3 hb4 hb3 o0
        go_wp2
        go_roundw
        case rel =>
          refine ⟨k + 1, a5, c5, by omega, by go_num, ?_, ?_, hb5.setCell (by simp) _⟩
          · rw [heap_setCell_same w5 _ _ _ _ _ HB5.out]; rfl
          · rw [flushL_succ, ← HT.out]
            exact ownsRow_setCell_below HO5.out (by simp) _
        case measure => simp [intOf]; omega
    · have e : k = 37 := by omega
      subst e
      obtain ⟨a4, c4, hv4, hS4, hA4⟩ := SegS.of_owns hown.out
      rw [flushL_length] at hv4
      simp only [Value.slice.injEq] at hv4
      obtain ⟨ha4, _, hc4⟩ := hv4
      subst ha4 hc4
      have HS4 := hide hS4
      have HA4 := hide hA4
      have o0 : wr.cell? ⟨w1.heap.size, 0, none⟩ = some (.slice a2 37 c2) := by rw [cell_of_row wr _ _ _ _ _ HBOX.out]; rfl
      have o1 : wr.cell? ⟨w1.heap.size, 1, none⟩ = some (.slice none 0 0) := by rw [cell_of_row wr _ _ _ _ _ HBOX.out]; rfl
      have y2 := cellKeep hbr (by omega) y0
      have y3 := cellKeep hbr (by omega) y1
      have f2 := frozKeep hbr (by omega) f0
      have f3 := frozKeep hbr (by omega) f1
      have HB := hide (bthen hb2 hbr)
      clear hown hS4 hA4 hbr hb2 x0 x1 y0 y1 f0 f1 HBOX
      go_wp2
      refine bodyPost_ret (v := .tuple #[.agg #[.slice a2 37 c2, .slice none 0 0], .int .i64 0]) (by simp [results, Try.results21, go_sem, y2, y3]) rfl ⟨_, rfl, ⟨a2, c2, none, 0, ?_, ?_, .inl rfl, ?_, ?_⟩, ?_, a2, _, c2, none, _, _, rfl, (fun x o e => by have := HA4.out x o e; omega), fun x o e => by cases e⟩
      · simp only [flushL_length]; rfl
      · exact (HS4.out.setCell HA4.out (by simp; omega) _).setCell HA4.out (by simp; omega) _
      · show (flushL d 37).length ≤ maxLen; rw [flushL_length]; decide
      · exact Nat.zero_le _
      · exact (HB.out.setCell (by simp) _).setCell (by simp) _

/-- wastebookref.FlushDisk: each place as Read says, all safe, no writes; or an error, and the disk as it was. -/
theorem flushRef_any (v : Value) (d : Dk) (w : World) (h : IsDk w v d) :
    Calls Try.prog 21 #[v] w fun e w' => ∃ v2, e = .returned (.tuple #[v2, .int .i64 (flushE d)]) ∧ IsDk w' v2 (flushK d) ∧ Below w.heap.size w w' := by
  cases hg : goodB d with
  | false =>
    have hE : flushE d = 2 := by simp [flushE, hg]
    have hK : flushK d = d := by simp [flushK, hg]
    rw [hE, hK]
    exact (flushRef_no v d w h hg).mono fun e w' he => ⟨v, he.1, h.below he.2, he.2⟩
  | true =>
    have hE : flushE d = 0 := by simp [flushE, hg]
    have hK : flushK d = ⟨flushL d 37, []⟩ := by simp [flushK, hg]
    rw [hE, hK]
    exact (flushRef_ok v d w h hg).mono fun e w' ⟨v2, h1, h2, h3, _⟩ => ⟨v2, h1, h2, h3⟩

end Go.Proofs.Ytjnpndfpajjihaa
