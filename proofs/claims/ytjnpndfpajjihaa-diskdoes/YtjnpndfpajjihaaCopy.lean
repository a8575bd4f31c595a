/-
  The walk of the document's own CopyDisk.
-/
import Derived.Test.YtjnpndfpajjihaaRefRead
import Derived.Test.YtjnpndfpajjihaaSteps
namespace Go.Proofs.Ytjnpndfpajjihaa
open Go.RowKit

theorem step_copyS {ops : Array Oper} {o : Oper} {a : Act} {w : World} {K : Act → World → Prop} {Q : Exit → Act → World → Prop} {E : Prop} (hgd : o.guard = none) (s x : Operand)
    (ho : o.op = .call { callee := .builtin .append, args := #[s, x], argTypes := #[22, 22] })
    (hs : a.eval s = .slice none 0 0) (ao : Option Addr) (c : Nat) (ss : List ByteArray) (hx : a.eval x = .slice ao ss.length c) (hS : SegS w ao ss) (h63 : ss.length ≤ maxLen) (hbytes : ss.length * 16 ≤ 140737488355328)
    (h : ∀ a2 c2 w', Hid (SegS w' a2 ss ∧ ∀ b off, a2 = some ⟨b, off, none⟩ → w.heap.size ≤ b ∧ b < w'.heap.size) → Below w.heap.size w w' → K (a.put o.dst (.slice a2 ss.length c2)) w') :
    if Region.wanted o (yielded ops a.tmps) = true then Oper.wp Try.prog o a w K Q else E := by
  obtain ⟨i0, hi, hz0, hz1, hz2⟩ := info_parts infoS
  refine step_copy hgd s x 22 ho 9 i0 (.string ⟨#[]⟩) 1 16 Try.underlying22 hi hz0 hz1 hz2 rfl (by decide) hs ao ss.length c (cellsS ss) hx (cellsS_length ss) ?_ ?_ cellsS_one h63 hbytes ?_
  · intro h0
    rcases hS with h | ⟨b, off, he, _⟩
    · rw [h]; rfl
    · rw [h0] at he; cases he
  · intro ad h0 j u hj
    rcases hS with h | ⟨b, off, he, hlt, hc⟩
    · rw [h] at hj; simp [cellsS] at hj
    · rw [h0] at he
      cases he
      rw [Addr.add_lit]
      exact SegS.news hc j u hj
  · intro v' w' hown hb
    obtain ⟨a2, c2, rfl, h2, _⟩ := SegS.of_owns hown
    exact h a2 c2 w' ⟨h2, fun b off e => hown.lt b (by rw [e]; rfl)⟩ hb

theorem step_copyW {ops : Array Oper} {o : Oper} {a : Act} {w : World} {K : Act → World → Prop} {Q : Exit → Act → World → Prop} {E : Prop} (hgd : o.guard = none) (s x : Operand)
    (ho : o.op = .call { callee := .builtin .append, args := #[s, x], argTypes := #[23, 23] })
    (hs : a.eval s = .slice none 0 0) (ao : Option Addr) (c : Nat) (ss : List (Int × ByteArray)) (hx : a.eval x = .slice ao ss.length c) (hS : SegW w ao ss) (h63 : ss.length ≤ maxLen) (hbytes : ss.length * 24 ≤ 140737488355328)
    (h : ∀ a2 c2 w', Hid (w'.ownsRow w.heap.size 42 2 (.slice a2 ss.length c2) ss.length (cellsW ss)) → Below w.heap.size w w' → K (a.put o.dst (.slice a2 ss.length c2)) w') :
    if Region.wanted o (yielded ops a.tmps) = true then Oper.wp Try.prog o a w K Q else E := by
  obtain ⟨i0, hi, hz0, hz1, hz2⟩ := info_parts infoW
  refine step_copy hgd s x 23 ho 42 i0 (.agg #[.int .i64 0, .string ⟨#[]⟩]) 2 24 Try.underlying23 hi hz0 hz1 hz2 rfl (by decide) hs ao ss.length c (cellsW ss) hx (cellsW_length ss) ?_ ?_ (cellsW_one ss) h63 hbytes ?_
  · intro h0
    rcases hS with h | ⟨b, off, he, _⟩
    · rw [h]; rfl
    · rw [h0] at he; cases he
  · intro ad h0 j u hj
    rcases hS with h | ⟨b, off, he, hlt, hc⟩
    · rw [h] at hj; simp [cellsW] at hj
    · rw [h0] at he
      cases he
      rw [Addr.add_lit]
      exact SegW.news hc j u hj
  · intro v' w' hown hb
    obtain ⟨a2, c2, rfl, h2, h3⟩ := SegW.of_owns hown
    exact h a2 c2 w' hown hb

set_option maxHeartbeats 2000000 in
set_option maxRecDepth 100000 in
theorem copy_walk (v : Value) (d : Dk) (w : World) (h : IsDk w v d) (h16 : d.safe.length * 16 ≤ 140737488355328) (h24 : d.wr.length * 24 ≤ 140737488355328) :
    Calls Try.prog 15 #[v] w fun e w' => ∃ a2 c2 a3 c3 B, e = .returned (.agg #[.slice a2 d.safe.length c2, .slice a3 d.wr.length c3]) ∧ SegS w' a2 d.safe ∧ (∀ b off, a2 = some ⟨b, off, none⟩ → w.heap.size ≤ b ∧ b < B) ∧
      w'.ownsRow B 42 2 (.slice a3 d.wr.length c3) d.wr.length (cellsW d.wr) ∧ w.heap.size ≤ B ∧ B ≤ w'.heap.size ∧ Below w.heap.size w w' := by
  obtain ⟨a, c, a', c', rfl, hS, hW, hn, hm⟩ := h
  have HS := hide hS
  have HW := hide hW
  clear hS hW
  go_enter Try.func15, Try.ntmps15
  go_wp2
  go_region_law (first | (refine step_copyS rfl _ (.tmp 4) rfl (by simp [Act.eval]) a c d.safe (by simp [Act.eval]) (HS.out.below (bthen (below1 _ _) (below1 _ _)).drew) hn h16 ?_; intro a2 c2 w2 HS2 hb2; have hs2 : w.heap.size + 1 < w2.heap.size := (by have := hb2.size; simp at this; omega); have x1 := cellKeep hb2 (b := w.heap.size) (o := 1) (v := .slice a' d.wr.length c') (by simp; omega) (by simp [go_sem]); have y0 := cellKeep hb2 (b := w.heap.size + 1) (o := 0) (v := .slice none 0 0) (by simp) (by simp [go_sem]); have y1 := cellKeep hb2 (b := w.heap.size + 1) (o := 1) (v := .slice none 0 0) (by simp) (by simp [go_sem]); have f0 := frozKeep hb2 (b := w.heap.size + 1) (o := 0) (v := false) (by simp) (by simp [go_sem]); have f1 := frozKeep hb2 (b := w.heap.size + 1) (o := 1) (v := false) (by simp) (by simp [go_sem])) | (refine step_copyW rfl _ (.tmp 7) rfl (by simp [Act.eval]) a' c' d.wr (by simp [Act.eval]) (HW.out.below (bthen (bthen (below1 _ _) (below1 _ _)).drew hb2)) hm h24 ?_; intro a3 c3 w3 HW3 hb3; have y2 := cellKeep hb3 (by omega) y0; have y3 := cellKeep hb3 (by omega) y1; have f2 := frozKeep hb3 (by omega) f0; have f3 := frozKeep hb3 (by omega) f1))
  all_goals
    have hs3 := hb3.size
    have HB := hide (bthen (bthen (bthen (below1 _ _) (below1 _ _)).drew hb2) hb3)
    have HS3 := hide (HS2.out.1.below hb3)
    have HA2 := hide HS2.out.2
    clear hb2 HS2
    go_wp2
    refine bodyPost_ret (v := .agg #[.slice a2 d.safe.length c2, .slice a3 d.wr.length c3]) (by simp [results, Try.results15, go_sem, y2, y3]) rfl ⟨a2, c2, a3, c3, w2.heap.size, rfl, ?_, ?_, ?_, by omega, by simp [World.setCell]; exact hs3, ?_⟩
    · exact (HS3.out.setCell (fun b off e => (HA2.out b off e).1) (by simp) _).setCell (fun b off e => (HA2.out b off e).1) (by simp) _
    · intro b off e
      have := HA2.out b off e
      simp at this
      omega
    · exact ownsRow_setCell_below (ownsRow_setCell_below HW3.out (by simp; omega) _) (by simp; omega) _
    · exact (HB.out.setCell (by simp) _).setCell (by simp) _

/-- wastebookref.CopyDisk: the same, of its own memory. -/
theorem copy_any (v : Value) (d : Dk) (w : World) (h : IsDk w v d) (h16 : d.safe.length * 16 ≤ 140737488355328) (h24 : d.wr.length * 24 ≤ 140737488355328) :
    Calls Try.prog 15 #[v] w fun e w' => ∃ v2, e = .returned v2 ∧ IsDk w' v2 d ∧ Below w.heap.size w w' := by
  refine (copy_walk v d w h h16 h24).mono ?_
  rintro e w' ⟨a2, c2, a3, c3, _, rfl, hS, _, hW, _, _, hb⟩
  obtain ⟨_, _, _, _, _, _, _, hn, hm⟩ := h
  obtain ⟨a4, c4, hv, hW', _⟩ := SegW.of_owns hW
  simp only [Value.slice.injEq] at hv
  obtain ⟨rfl, _, rfl⟩ := hv
  exact ⟨_, rfl, ⟨_, _, _, _, rfl, hS, hW', hn, hm⟩, hb⟩

end Go.Proofs.Ytjnpndfpajjihaa
