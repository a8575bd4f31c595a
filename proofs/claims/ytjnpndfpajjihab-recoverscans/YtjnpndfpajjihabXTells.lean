/-
  What the statements' own tells finds, as plain data.
  The walk of a statement's own tells: package scan answers at all.
  The walk of the document's SameDisk, at two disks that are the same.
  The walk of the document's own CopyDisk.
  The walk of the statement RecoverScans: it says true at every disk.
  An argument of type api.Disk, as it reads, is a disk in memory as the walks know it.
-/
import Derived.Test.YtjnpndfpajjihabXScans
import Derived.Test.YtjnpndfpajjihabReps
import Derived.Test.YtjnpndfpajjihabMDec
import Derived.Test.YtjnpndfpajjihabCore
import Derived.Test.YtjnpndfpajjihabMCore
import Derived.Deep.QuietTactic
import Derived.BigQuiet
import Derived.Test.YtjnpndfpajjihabRefRd
import Derived.Test.YtjnpndfpajjihabSteps
import Derived.Test.YtjnpndfpajjihabXLogs
import Derived.Test.YtjnpndfpajjihabTSames
import Derived.Test.YtjnpndfpajjihabRows
import Derived.ProofKit
import Derived.SliceStrings
import Derived.Deep.Slices
import Derived.Lib.SmallJoins
namespace Go.Proofs.Ytjnpndfpajjihab
open Go.RowKit

def m72 : Mk := ⟨1, 7, 2, [], []⟩
theorem good72 : goodM m72 = 0 := by kernel_rfl
def dTell : Dk := ⟨encT m72 :: List.replicate 36 (fitT ⟨#[]⟩), []⟩
theorem tell_good : goodB dTell = true := by kernel_rfl
theorem tell_read : readT dTell 0 = encT m72 := by kernel_rfl
theorem tell_readE : readE dTell 0 = 0 := by kernel_rfl
theorem tell_log : (logOf dTell 2).getD 0 ByteArray.empty = fitT ⟨#[]⟩ := by kernel_rfl
theorem tell_zero : stampDec (fitT ⟨#[]⟩) = (zeroM, 1) := dec_magic (by kernel_rfl)
theorem tell_super : superM dTell = m72 := by rw [superM, tell_read, dec_enc good72]
theorem tell_E : scanE dTell = 0 := by
  rw [scanE, tell_readE, tell_super, tell_read, dec_enc good72, if_neg (by simp), if_neg (by simp [m72])]
theorem tell_L : scanL dTell = ([], 0) := by
  rw [scanL, tell_super]
  show scanP (logOf dTell 2) 0 7 [] = _
  rw [scanP, dif_pos (by decide), runT, dif_pos (by rw [logOf_length]; decide), tell_log, tell_zero, if_pos (.inl (by decide))]
theorem tell_cells (s : ByteArray) : (cellsS (List.replicate 37 (fitT ⟨#[]⟩))).set 0 (.string s) = cellsS (s :: List.replicate 36 (fitT ⟨#[]⟩)) := rfl

end Go.Proofs.Ytjnpndfpajjihab

namespace Go.Proofs.Ytjnpndfpajjihab
open Go.RowKit

set_option maxHeartbeats 2000000 in
set_option maxRecDepth 100000 in
theorem tellsL_any (w : World) :
    Calls Try.prog 45 #[] w fun e w' => e = .returned (.bool true) ∧ Below w.heap.size w w' := by
  go_enter Try.func45, Try.ntmps45
  go_wp2_with fail
  refine (stampEncode_any _ m72 _ ⟨none, 0, none, 0, rfl, .inl rfl, .inl rfl, Nat.zero_le _, Nat.zero_le _⟩).mono ?_
  rintro e w1 ⟨rfl, hb1⟩
  rw [good72]
  obtain ⟨s, hs⟩ : ∃ s, s = encT m72 := ⟨_, rfl⟩
  have HS := hide hs
  rw [← hs]
  clear hs
  have HB1 := hide hb1
  clear hb1
  go_wp2_with fail
  refine (new_own _).mono ?_
  rintro e w2 ⟨g, c, rfl, hown, hb2⟩
  have hgl := hown.lt g rfl
  have hst := (hown.stored 0 (.string s)).1
  rw [tell_cells] at hst
  have HST := hide hst
  have hcell : w2.cell? ⟨g, 0, none⟩ = some (.string (fitT ⟨#[]⟩)) := by rw [hown.cellAt 0 (by decide)]; rfl
  have hfz : w2.frozen? ⟨g, 0, none⟩ = false := hown.frozenAt 0
  have hgn : g ≠ w2.heap.size := by have := hgl.2; omega
  have hgn' : ¬ w2.heap.size = g := fun e => hgn e.symm
  have hgw : g < w2.heap.size := hgl.2
  have HB2 := hide (bthen HB1.out hb2)
  have hg1 : w.heap.size ≤ g := Nat.le_trans HB1.out.size hgl.1
  clear hst hown hb2 HB1
  generalize fitT ⟨#[]⟩ = z at hcell
  go_wp2_with fail
  obtain ⟨W, hW⟩ : ∃ W, W = (w2.setCell ⟨g, 0, none⟩ (.string s)).alloc (.cells #[.slice (some ⟨g, 0, none⟩) 37 c, .slice none 0 0] 69) := ⟨_, rfl⟩
  have HD : Hid (IsDk W (.agg #[.slice (some ⟨g, 0, none⟩) dTell.safe.length c, .slice none dTell.wr.length 0]) dTell) := by
    rw [hW, Hid, dTell, ← HS.out]
    obtain ⟨a2, c2, hv, hS, _⟩ := SegS.of_owns (owns_keep HST.out (below1 _ _))
    cases hv
    exact ⟨some ⟨g, 0, none⟩, c, none, 0, rfl, hS, .inl rfl, by simp [maxLen], by simp [maxLen]⟩
  have HW : Hid (Below w.heap.size w W) := by rw [hW]; exact (HB2.out.setCell (p := ⟨g, 0, none⟩) hg1 _).alloc (by have := HB2.out.size; simp [World.setCell]; omega) _
  rw [← hW]
  clear hW hcell hfz hgn hgn' hgw HST HB2
  refine (scan_any _ _ _ _ dTell _ HD.out).mono ?_
  rintro e w3 ⟨v, rfl, hb3, _, hok⟩
  obtain ⟨q, va, vc, rfl, hq, _, _⟩ := hok tell_E
  rw [tell_E, tell_super, tell_L]
  rw [tell_L] at hq
  obtain rfl : q = [] := by simpa using hq
  have HB3 := hide (bthen HW.out hb3)
  clear hb3 HD
  simp only [List.length_nil, m72]
  go_wp2
  go_ret
  exact ⟨rfl, bthen HB3.out (below1 _ _)⟩

end Go.Proofs.Ytjnpndfpajjihab

namespace Go.Proofs.Ytjnpndfpajjihab
open Go.RowKit

set_option maxHeartbeats 2000000 in
set_option maxRecDepth 100000 in
theorem sameRef_walk (a1 : Option Addr) (c1 : Nat) (a1' : Option Addr) (c1' : Nat) (a2 : Option Addr) (c2 : Nat) (a2' : Option Addr) (c2' : Nat) (d : Dk) (w : World)
    (hS1 : SegS w a1 d.safe) (hW1 : SegW w a1' d.wr) (hS2 : SegS w a2 d.safe) (hW2 : SegW w a2' d.wr) (hn : d.safe.length ≤ maxLen) (hm : d.wr.length ≤ maxLen) :
    Calls Try.prog 44 #[.agg #[.slice a1 d.safe.length c1, .slice a1' d.wr.length c1'], .agg #[.slice a2 d.safe.length c2, .slice a2' d.wr.length c2']] w fun e w' => e = .returned (.bool true) ∧ Below w.heap.size w w' := by
  unfold maxLen at hn hm
  have HS1 : Hid (SegS w a1 d.safe) := hS1
  have HS2 : Hid (SegS w a2 d.safe) := hS2
  have HW1 : Hid (SegW w a1' d.wr) := hW1
  have HW2 : Hid (SegW w a2' d.wr) := hW2
  clear hS1 hS2 hW1 hW2
  go_enter Try.func44, Try.ntmps44
  go_wp2
  go_loopw [26] (fun i wr => ∃ k q : Nat, k ≤ d.safe.length ∧ i = .int .i64 k ∧ wr = ((w.alloc (Obj.cells #[.slice a1 d.safe.length c1, .slice a1' d.wr.length c1'] 69)).alloc (Obj.cells #[.slice a2 d.safe.length c2, .slice a2' d.wr.length c2'] 69)).drewN q) (fun i _ => d.safe.length - (intOf i).toNat)
  case atStart => exact ⟨0, 0, Nat.zero_le _, rfl, rfl⟩
  case round =>
    obtain ⟨k, q, hk, rfl, rfl⟩ := hrel
    by_cases hlt : k < d.safe.length
    · obtain ⟨b1, o1, rfl, hb1, hc1⟩ := HS1.out.resolve_left (by intro e; rw [e] at hlt; simp at hlt)
      obtain ⟨b2, o2, rfl, hb2, hc2⟩ := HS2.out.resolve_left (by intro e; rw [e] at hlt; simp at hlt)
      have g1 := hc1 k hlt
      have g2 := hc2 k hlt
      obtain ⟨s, hs⟩ : ∃ s, s = d.safe.getD k ByteArray.empty := ⟨_, rfl⟩
      rw [← hs] at g1 g2
      clear hc1 hc2 hs
      have hlt' : (k : Int) < (d.safe.length : Int) := by omega
      go_wp2
      go_quiet (fail)
      go_wp2
      go_roundw
      case rel => exact ⟨k + 1, _, by omega, by go_num, rfl⟩
      case measure => simp [intOf]; omega
    · go_wp2
      go_loopw [44] (fun i wr => ∃ k q : Nat, k ≤ d.wr.length ∧ i = .int .i64 k ∧ wr = ((w.alloc (Obj.cells #[.slice a1 d.safe.length c1, .slice a1' d.wr.length c1'] 69)).alloc (Obj.cells #[.slice a2 d.safe.length c2, .slice a2' d.wr.length c2'] 69)).drewN q) (fun i _ => d.wr.length - (intOf i).toNat)
      case atStart => exact ⟨0, _, Nat.zero_le _, rfl, rfl⟩
      case round =>
        obtain ⟨j, q', hj, rfl, rfl⟩ := hrel
        by_cases hltj : j < d.wr.length
        · obtain ⟨b1, o1, rfl, hb1, hc1⟩ := HW1.out.resolve_left (by intro e; rw [e] at hltj; simp at hltj)
          obtain ⟨b2, o2, rfl, hb2, hc2⟩ := HW2.out.resolve_left (by intro e; rw [e] at hltj; simp at hltj)
          obtain ⟨g1, g1'⟩ := hc1 j hltj
          obtain ⟨g2, g2'⟩ := hc2 j hltj
          obtain ⟨x, hx⟩ : ∃ x, x = d.wr.getD j (0, ByteArray.empty) := ⟨_, rfl⟩
          rw [← hx] at g1 g1' g2 g2'
          clear hc1 hc2 hx
          obtain ⟨n, s⟩ := x
          have hltj' : (j : Int) < (d.wr.length : Int) := by omega
          go_wp2
          go_quiet (fail)
          go_wp2
          go_roundw
          case rel => exact ⟨j + 1, _, by omega, by go_num, rfl⟩
          case measure => simp [intOf]; omega
        · go_wp2
          go_ret
          exact ⟨rfl, below_drewN (bthen (below1 _ _) (below1 _ _)) _⟩

/-- SameDisk says true of two values that read as one disk. -/
theorem sameRef_any (v1 v2 : Value) (d : Dk) (w : World) (h1 : IsDk w v1 d) (h2 : IsDk w v2 d) :
    Calls Try.prog 44 #[v1, v2] w fun e w' => e = .returned (.bool true) ∧ Below w.heap.size w w' := by
  obtain ⟨a, c, a', c', rfl, hs, hw, hn, hm⟩ := h1
  obtain ⟨b, e, b', e', rfl, hs', hw', _, _⟩ := h2
  exact sameRef_walk a c a' c' b e b' e' d w hs hw hs' hw' hn hm

end Go.Proofs.Ytjnpndfpajjihab

namespace Go.Proofs.Ytjnpndfpajjihab
open Go.RowKit

theorem step_copyS {ops : Array Oper} {o : Oper} {a : Act} {w : World} {K : Act → World → Prop} {Q : Exit → Act → World → Prop} {E : Prop} (hgd : o.guard = none) (s x : Operand)
    (ho : o.op = .call { callee := .builtin .append, args := #[s, x], argTypes := #[66, 66] })
    (hs : a.eval s = .slice none 0 0) (ao : Option Addr) (c : Nat) (ss : List ByteArray) (hx : a.eval x = .slice ao ss.length c) (hS : SegS w ao ss) (h63 : ss.length ≤ maxLen) (hbytes : ss.length * 16 ≤ 140737488355328)
    (h : ∀ a2 c2 w', Hid (SegS w' a2 ss ∧ ∀ b off, a2 = some ⟨b, off, none⟩ → w.heap.size ≤ b ∧ b < w'.heap.size) → Below w.heap.size w w' → K (a.put o.dst (.slice a2 ss.length c2)) w') :
    if Region.wanted o (yielded ops a.tmps) = true then Oper.wp Try.prog o a w K Q else E := by
  obtain ⟨i0, hi, hz0, hz1, hz2⟩ := info_parts infoS
  refine step_copy hgd s x 66 ho 9 i0 (.string ⟨#[]⟩) 1 16 Try.underlying66 hi hz0 hz1 hz2 rfl (by decide) hs ao ss.length c (cellsS ss) hx (cellsS_length ss) ?_ ?_ cellsS_one h63 hbytes ?_
  · intro h0
    rcases hS with h | ⟨b, off, he, _⟩
    · rw [h]; rfl
    · rw [h0] at he; cases he
  · intro ad h0 j u hj
    rcases hS with h | ⟨b, off, he, hlt, hc⟩
    · rw [h] at hj; simp [cellsS] at hj
    · rw [h0] at he
      cases he
      rw [Addr.add_lit]
      exact SegS.news hc j u hj
  · intro v' w' hown hb
    obtain ⟨a2, c2, rfl, h2, _⟩ := SegS.of_owns hown
    exact h a2 c2 w' ⟨h2, fun b off e => hown.lt b (by rw [e]; rfl)⟩ hb

theorem step_copyW {ops : Array Oper} {o : Oper} {a : Act} {w : World} {K : Act → World → Prop} {Q : Exit → Act → World → Prop} {E : Prop} (hgd : o.guard = none) (s x : Operand)
    (ho : o.op = .call { callee := .builtin .append, args := #[s, x], argTypes := #[67, 67] })
    (hs : a.eval s = .slice none 0 0) (ao : Option Addr) (c : Nat) (ss : List (Int × ByteArray)) (hx : a.eval x = .slice ao ss.length c) (hS : SegW w ao ss) (h63 : ss.length ≤ maxLen) (hbytes : ss.length * 24 ≤ 140737488355328)
    (h : ∀ a2 c2 w', Hid (w'.ownsRow w.heap.size 142 2 (.slice a2 ss.length c2) ss.length (cellsW ss)) → Below w.heap.size w w' → K (a.put o.dst (.slice a2 ss.length c2)) w') :
    if Region.wanted o (yielded ops a.tmps) = true then Oper.wp Try.prog o a w K Q else E := by
  obtain ⟨i0, hi, hz0, hz1, hz2⟩ := info_parts infoW
  refine step_copy hgd s x 67 ho 142 i0 (.agg #[.int .i64 0, .string ⟨#[]⟩]) 2 24 Try.underlying67 hi hz0 hz1 hz2 rfl (by decide) hs ao ss.length c (cellsW ss) hx (cellsW_length ss) ?_ ?_ (cellsW_one ss) h63 hbytes ?_
  · intro h0
    rcases hS with h | ⟨b, off, he, _⟩
    · rw [h]; rfl
    · rw [h0] at he; cases he
  · intro ad h0 j u hj
    rcases hS with h | ⟨b, off, he, hlt, hc⟩
    · rw [h] at hj; simp [cellsW] at hj
    · rw [h0] at he
      cases he
      rw [Addr.add_lit]
      exact SegW.news hc j u hj
  · intro v' w' hown hb
    obtain ⟨a2, c2, rfl, h2, h3⟩ := SegW.of_owns hown
    exact h a2 c2 w' hown hb

set_option maxHeartbeats 2000000 in
set_option maxRecDepth 100000 in
theorem copy_walk (v : Value) (d : Dk) (w : World) (h : IsDk w v d) (h16 : d.safe.length * 16 ≤ 140737488355328) (h24 : d.wr.length * 24 ≤ 140737488355328) :
    Calls Try.prog 40 #[v] w fun e w' => ∃ a2 c2 a3 c3 B, e = .returned (.agg #[.slice a2 d.safe.length c2, .slice a3 d.wr.length c3]) ∧ SegS w' a2 d.safe ∧ (∀ b off, a2 = some ⟨b, off, none⟩ → w.heap.size ≤ b ∧ b < B) ∧
      w'.ownsRow B 142 2 (.slice a3 d.wr.length c3) d.wr.length (cellsW d.wr) ∧ w.heap.size ≤ B ∧ B ≤ w'.heap.size ∧ Below w.heap.size w w' := by
  obtain ⟨a, c, a', c', rfl, hS, hW, hn, hm⟩ := h
  have HS := hide hS
  have HW := hide hW
  clear hS hW
  go_enter Try.func40, Try.ntmps40
  go_wp2
  go_region_law (first | (refine step_copyS rfl _ (.tmp 4) rfl (by simp [Act.eval]) a c d.safe (by simp [Act.eval]) (HS.out.below (bthen (below1 _ _) (below1 _ _)).drew) hn h16 ?_; intro a2 c2 w2 HS2 hb2; have hs2 : w.heap.size + 1 < w2.heap.size := (by have := hb2.size; simp at this; omega); have x1 := cellKeep hb2 (b := w.heap.size) (o := 1) (v := .slice a' d.wr.length c') (by simp; omega) (by simp [go_sem]); have y0 := cellKeep hb2 (b := w.heap.size + 1) (o := 0) (v := .slice none 0 0) (by simp) (by simp [go_sem]); have y1 := cellKeep hb2 (b := w.heap.size + 1) (o := 1) (v := .slice none 0 0) (by simp) (by simp [go_sem]); have f0 := frozKeep hb2 (b := w.heap.size + 1) (o := 0) (v := false) (by simp) (by simp [go_sem]); have f1 := frozKeep hb2 (b := w.heap.size + 1) (o := 1) (v := false) (by simp) (by simp [go_sem])) | (refine step_copyW rfl _ (.tmp 7) rfl (by simp [Act.eval]) a' c' d.wr (by simp [Act.eval]) (HW.out.below (bthen (bthen (below1 _ _) (below1 _ _)).drew hb2)) hm h24 ?_; intro a3 c3 w3 HW3 hb3; have y2 := cellKeep hb3 (by omega) y0; have y3 := cellKeep hb3 (by omega) y1; have f2 := frozKeep hb3 (by omega) f0; have f3 := frozKeep hb3 (by omega) f1))
  all_goals
    have hs3 := hb3.size
    have HB := hide (bthen (bthen (bthen (below1 _ _) (below1 _ _)).drew hb2) hb3)
    have HS3 := hide (HS2.out.1.below hb3)
    have HA2 := hide HS2.out.2
    clear hb2 HS2
    go_wp2
    refine bodyPost_ret (v := .agg #[.slice a2 d.safe.length c2, .slice a3 d.wr.length c3]) (by simp [results, Try.results40, go_sem, y2, y3]) rfl ⟨a2, c2, a3, c3, w2.heap.size, rfl, ?_, ?_, ?_, by omega, by simp [World.setCell]; exact hs3, ?_⟩
    · exact (HS3.out.setCell (fun b off e => (HA2.out b off e).1) (by simp) _).setCell (fun b off e => (HA2.out b off e).1) (by simp) _
    · intro b off e
      have := HA2.out b off e
      simp at this
      omega
    · exact ownsRow_setCell_below (ownsRow_setCell_below HW3.out (by simp; omega) _) (by simp; omega) _
    · exact (HB.out.setCell (by simp) _).setCell (by simp) _

/-- wastebookref.CopyDisk: the same, of its own memory. -/
theorem copy_any (v : Value) (d : Dk) (w : World) (h : IsDk w v d) (h16 : d.safe.length * 16 ≤ 140737488355328) (h24 : d.wr.length * 24 ≤ 140737488355328) :
    Calls Try.prog 40 #[v] w fun e w' => ∃ v2, e = .returned v2 ∧ IsDk w' v2 d ∧ Below w.heap.size w w' := by
  refine (copy_walk v d w h h16 h24).mono ?_
  rintro e w' ⟨a2, c2, a3, c3, _, rfl, hS, _, hW, _, _, hb⟩
  obtain ⟨_, _, _, _, _, _, _, hn, hm⟩ := h
  obtain ⟨a4, c4, hv, hW', _⟩ := SegW.of_owns hW
  simp only [Value.slice.injEq] at hv
  obtain ⟨rfl, _, rfl⟩ := hv
  exact ⟨_, rfl, ⟨_, _, _, _, rfl, hS, hW', hn, hm⟩, hb⟩

end Go.Proofs.Ytjnpndfpajjihab

namespace Go.Proofs.Ytjnpndfpajjihab
open Go.RowKit

set_option maxHeartbeats 4000000 in
set_option maxRecDepth 100000 in
theorem scans_walk (v : Value) (d : Dk) (w : World) (h : IsDk w v d) (h16 : d.safe.length * 16 ≤ 140737488355328) (h24 : d.wr.length * 24 ≤ 140737488355328) :
    Calls Try.prog 8 #[v] w fun e w' => e = .returned (.bool true) ∧ Below w.heap.size w w' := by
  have HD := hide h
  obtain ⟨a, c, a', c', rfl, _, _, _, _⟩ := h
  go_enter Try.func8, Try.ntmps8
  go_wp2_with fail
  refine (copy_any _ d _ (HD.out.below (below1 _ _)) h16 h24).mono ?_
  rintro e w1 ⟨v1, rfl, hD1, hb1⟩
  have HD1 := hide hD1
  obtain ⟨b, k, b', k', rfl, _, _, _, _⟩ := hD1
  have K0 := hide (one1 hb1)
  have HB1 := hide (bthen (below1 _ _) hb1)
  have hs1 : w.heap.size < w1.heap.size := by have := hb1.size; simp at this; omega
  clear hb1
  go_wp2_with fail
  refine (scan_any b k b' k' d _ (HD1.out.below (below1 _ _))).mono ?_
  intro e w2 hP
  obtain ⟨va, vc, rfl, hS, hb2⟩ := hP.found
  clear hP
  have K1 := hide (one1 hb2)
  have HS2 := hide hS
  have HB2 := hide (bthen (below1 _ _) hb2)
  have K02 := hide (boxKeep HB2.out hs1 K0.out)
  have hs2 : w1.heap.size < w2.heap.size := by have := hb2.size; simp at this; omega
  have hs02 : w.heap.size < w2.heap.size := by omega
  obtain ⟨⟨x0, x1⟩, xf⟩ := box2 K02.out
  clear hb2 hS K0
  go_wp2_with fail
  refine (scanLog_any a c a' c' d _ ((HD.out.below HB1.out).below (bthen HB2.out (below1 _ _)))).mono ?_
  intro e w3 hP
  obtain ⟨va2, vc2, rfl, hS3, hb3⟩ := hP.found
  clear hP x0 x1 xf
  have HS3 := hide hS3
  have HB3 := hide (bthen (below1 _ _) hb3)
  have K2 := hide (one1 hb3)
  have K13 := hide (boxKeep HB3.out hs2 K1.out)
  have K03 := hide (boxKeep HB3.out hs02 K02.out)
  have hs3 : w2.heap.size < w3.heap.size := by have := hb3.size; simp at this; omega
  have HS2' := hide (HS2.out.below HB3.out)
  clear hb3 hS3 HS2 K02 K1
  obtain ⟨⟨y0, y1⟩, yf⟩ := box2 K13.out
  obtain ⟨⟨z0, z1, z2⟩, zf⟩ := box3 K2.out
  have hll := Nat.le_trans (fndL_len d) (show 24 ≤ maxLen by decide)
  generalize hE : scanE d = E at *
  generalize hN : fndN d = N at *
  generalize hQ : fndP d = Q at *
  generalize hL : fndL d = L at *
  have HLL := hide hll
  clear hE hN hQ hL hll h16 h24
  go_wp2_with fail
  refine (sameFound_any va vc va2 vc2 L N Q _ (HS2'.out.below (below1 _ _)) (HS3.out.below (below1 _ _)) HLL.out).mono ?_
  rintro e w4 ⟨rfl, hb4⟩
  have hb34 := bthen (below1 _ _) hb4
  obtain ⟨⟨y0', y1'⟩, _⟩ := box2 (boxKeep hb34 (show w1.heap.size < w3.heap.size by omega) K13.out)
  obtain ⟨⟨x0, x1⟩, _⟩ := box2 (boxKeep hb34 (show w.heap.size < w3.heap.size by omega) K03.out)
  have HB4 := hide (bthen (bthen (bthen HB1.out HB2.out) HB3.out) hb34)
  have HB4' := hide (bthen (bthen HB2.out HB3.out) hb34)
  have hs4 : w3.heap.size < w4.heap.size := by have := hb4.size; simp at this; omega
  clear hb4 hb34 y0 y1 yf z0 z1 z2 zf
  go_wp2_with fail
  refine (sameRef_any _ _ d _ (HD1.out.below HB4'.out) (HD.out.below HB4.out)).mono ?_
  rintro e w5 ⟨rfl, hb5⟩
  have HB5 := hide (bthen HB4.out hb5)
  clear hb5 y0' y1' x0 x1
  go_wp2_with fail
  refine (tellsL_any _).mono ?_
  rintro e w6 ⟨rfl, hb6⟩
  have HB6 := hide (bthen HB5.out hb6)
  clear hb6
  go_wp2
  go_ret
  exact ⟨rfl, HB6.out⟩

end Go.Proofs.Ytjnpndfpajjihab

namespace Go.Proofs.Ytjnpndfpajjihab
open Go.RowKit Go.ChangeShapes Go.WideShapes Go.Deep Go.Joins

theorem cells1S : Try.prog.cellsOf 9 = 1 := by kernel_rfl
theorem cells1I : Try.prog.cellsOf 3 = 1 := by kernel_rfl
theorem cells2W : Try.prog.cellsOf 142 = 2 := by kernel_rfl
theorem bytesS : Try.prog.bytesOf 9 = 16 := by kernel_rfl
theorem bytesW : Try.prog.bytesOf 142 = 24 := by kernel_rfl
theorem cells2D : Try.prog.cellsOf 69 = 2 := by kernel_rfl

theorem spot_none {w : World} {x : Addr} {v : Value} (h : w.cell? (x.add 0) = some v) : ∃ b off, x = ⟨b, off, none⟩ ∧ b < w.heap.size := by
  obtain ⟨b, off, spot⟩ := x
  have hs : spot = none := by simpa [Addr.add] using World.cell?_spot h
  subst hs
  exact ⟨b, off, rfl, by simpa [Addr.add] using World.block_lt_of_cell? w _ h⟩

section
variable {H : Type} {enc : TypeId × Value → H} {w : World} {spare : Nat → Bool} {held : Bool}

theorem open_safe {fuel : Nat} {v : Value} {y : DataW H × List MemPlace} (h : DataW.trod enc Try.prog w 0 spare held fuel 66 [v] = some y) :
    ∃ (a : Option Addr) (c : Nat) (ss : List ByteArray), v = .slice a ss.length c ∧ SegS w a ss ∧ ss.length ≤ maxLen ∧ ((∀ x ∈ y.1.weights Try.prog 66, x ≤ reachBytes) → ss.length * 16 ≤ reachBytes) ∧ ∀ s ∈ ss, s.size ≤ maxLen := by
  rcases open_strings Try.underlying66 Try.underlying9 cells1S h with ⟨hcs, _⟩ | ⟨x, l, c, ss, hcs, _, hl, hm, hz, hy, hcell, hsz⟩
  · simp only [List.cons.injEq, and_true] at hcs
    exact ⟨none, 0, [], hcs, .inl rfl, by decide, fun _ => by decide, fun s hs => by cases hs⟩
  · simp only [List.cons.injEq, and_true] at hcs
    have hle : l ≤ ss.length := by rw [hz]; split <;> omega
    have hlen : (ss.take l).length = l := by rw [List.length_take]; omega
    refine ⟨some x, c, ss.take l, by rw [hlen]; exact hcs, ?_, by rw [hlen]; omega, ?_, fun s hs => hsz s (List.mem_of_mem_take hs)⟩
    rotate_left
    · intro hw
      have := hw (((strs (H := H) (ss.take l)).length + (strs (H := H) (ss.drop l)).length) * 16) (by rw [hy]; simp [DataW.weights, Try.underlying66, bytesS])
      rw [show (strs (H := H) (ss.take l)).length = l from by simp only [strs, List.length_map]; exact hlen] at this
      rw [hlen]
      exact Nat.le_trans (Nat.mul_le_mul_right 16 (Nat.le_add_right _ _)) this
    by_cases h0 : l = 0
    · left; rw [h0]; rfl
    · right
      obtain ⟨b, off, rfl, hb⟩ := spot_none (hcell 0 (by omega))
      refine ⟨b, off, rfl, hb, fun i hi => ?_⟩
      rw [hlen] at hi
      have := hcell i (by omega)
      rw [Addr.add_lit] at this
      rw [this, List.getD, List.getD, List.getElem?_take, if_pos hi]

set_option maxRecDepth 100000 in
theorem open_writes {fuel : Nat} {v : Value} {y : DataW H × List MemPlace} (h : DataW.trod enc Try.prog w 0 spare held fuel 67 [v] = some y) :
    ∃ (a : Option Addr) (c : Nat) (ws : List (Int × ByteArray)), v = .slice a ws.length c ∧ SegW w a ws ∧ ws.length ≤ maxLen ∧ ((∀ x ∈ y.1.weights Try.prog 67, x ≤ reachBytes) → ws.length * 24 ≤ reachBytes) ∧ ∀ x ∈ ws, (Lit.int .i64 x.1).wf = true ∧ x.2.size ≤ maxLen := by
  rcases open_slice Try.underlying67 h with ⟨hcs, _⟩ | ⟨x, l, c, m, n, D, Pl, hcs, _, hl, hm, hmm, hy, hel⟩
  · simp only [List.cons.injEq, and_true] at hcs
    exact ⟨none, 0, [], hcs, .inl rfl, by decide, fun _ => by decide, fun s hs => by cases hs⟩
  · simp only [List.cons.injEq, and_true] at hcs
    have hle : l ≤ m := by rw [hmm]; split <;> omega
    have each : ∀ i, i < l → ∃ u : Int × ByteArray, w.cell? (x.add (i * 2)) = some (.int .i64 u.1) ∧ w.cell? ((x.add (i * 2)).add 1) = some (.string u.2) ∧ (Lit.int .i64 u.1).wf = true ∧ u.2.size ≤ maxLen := by
      intro i hi
      obtain ⟨cs, hc, ht⟩ := hel i (by omega)
      rw [cells2W] at hc
      obtain ⟨y0, y1, k, _, hlen, g0, g1⟩ := trod_struct2 Try.underlying142 ht
      rw [cells2W] at hlen
      match cs, hlen with
      | [u0, u1], _ =>
        have c0 := (World.cells?_some hc).2.2 0 (by omega)
        have c1 := (World.cells?_some hc).2.2 1 (by omega)
        rw [show Addr.add (x.add (i * 2)) 0 = x.add (i * 2) from by simp [Addr.add]] at c0
        simp only [cells1I, cells1S, List.drop_zero, List.drop_one, List.tail_cons, List.take_succ_cons, List.take_zero] at g0 g1
        obtain ⟨a, e0, _, wa⟩ := DataW.trod_int Try.underlying3 g0
        obtain ⟨s, e1, _, ws⟩ := DataW.trod_string Try.underlying9 g1
        simp only [List.cons.injEq, and_true] at e0 e1
        subst e0 e1
        exact ⟨(a, s), by simpa using c0, by simpa using c1, wa, ws⟩
    obtain ⟨f, hf⟩ := choose_lt (α := Int × ByteArray) each
    have hlen : ((List.range l).map f).length = l := by simp
    refine ⟨some x, c, (List.range l).map f, by rw [hlen]; exact hcs, ?_, by rw [hlen]; omega, ?_, ?_⟩
    rotate_left
    · intro hw
      have := hw ((((List.range l).map D).length + ((List.range (m - l)).map fun j => D (l + j)).length) * 24) (by rw [hy]; simp [DataW.weights, Try.underlying67, bytesW])
      rw [show ((List.range l).map D).length = l from by simp] at this
      rw [hlen]
      exact Nat.le_trans (Nat.mul_le_mul_right 24 (Nat.le_add_right _ _)) this
    rotate_left
    · by_cases h0 : l = 0
      · left; rw [h0]; rfl
      · right
        have hx := (hf 0 (by omega)).1
        rw [Nat.zero_mul] at hx
        obtain ⟨b, off, rfl, hb⟩ := spot_none hx
        refine ⟨b, off, rfl, hb, fun i hi => ?_⟩
        rw [hlen] at hi
        have g := hf i hi
        rw [Addr.add_lit, Addr.add_lit] at g
        have e : ((List.range l).map f).getD i (0, ByteArray.empty) = f i := by rw [List.getD, List.getElem?_map, List.getElem?_range hi]; rfl
        rw [e]
        exact ⟨g.1, g.2.1⟩
    · intro u hu
      obtain ⟨i, hi, rfl⟩ := List.mem_map.1 hu
      have := hf i (List.mem_range.1 hi)
      exact ⟨this.2.2.1, this.2.2.2⟩

set_option maxRecDepth 100000 in
/-- A disk that came in is a disk. -/
theorem open_disk {r : Reach} {b0 : Nat} {v : Value} {dt : DataW H} {p : List MemPlace} (hv : Value.okWide Try.prog w r b0 69 v) (h : DataW.Trod enc Try.prog w 0 spare held 69 v dt p) :
    ∃ d : Dk, IsDk w v d ∧ (∀ s ∈ d.safe, s.size ≤ maxLen) ∧ (∀ x ∈ d.wr, (Lit.int .i64 x.1).wf = true ∧ x.2.size ≤ maxLen) ∧
      ((∀ x ∈ dt.weights Try.prog 69, x ≤ reachBytes) → d.safe.length * 16 ≤ 140737488355328 ∧ d.wr.length * 24 ≤ 140737488355328) := by
  obtain ⟨c0, c1, y0, y1, m, rfl, hdt, _, h0, h1⟩ := open_agg2 Try.underlying69 (by kernel_rfl) cells2D hv h
  obtain ⟨a, c, ss, rfl, hS, hn, hr, hz⟩ := open_safe h0
  obtain ⟨a', c', ws, rfl, hW, hm, hr', hx⟩ := open_writes h1
  refine ⟨⟨ss, ws⟩, ⟨a, c, a', c', rfl, hS, hW, hn, hm⟩, hz, hx, fun hw => ?_⟩
  have e : DataW.weights Try.prog 69 dt = y0.1.weights Try.prog 66 ++ (y1.1.weights Try.prog 67 ++ []) := by
    rw [hdt]
    simp only [DataW.weights, Try.underlying69]
    rfl
  rw [e] at hw
  have k1 := hr fun x hx => hw x (by simp [hx])
  have k2 := hr' fun x hx => hw x (by simp [hx])
  unfold reachBytes at k1 k2
  exact ⟨by show ss.length * 16 ≤ _; omega, by show ws.length * 24 ≤ _; omega⟩

end

end Go.Proofs.Ytjnpndfpajjihab
