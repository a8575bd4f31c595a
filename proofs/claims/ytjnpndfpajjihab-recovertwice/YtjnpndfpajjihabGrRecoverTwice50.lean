/-
  The walk of the statements' own later.
  The walk of the statements' own goods.
  What the statements' own tells finds, as plain data.
  The walk of a statement's own tells: package scan answers at all.
-/
import Derived.Test.YtjnpndfpajjihabXTwiceQ
import Derived.Test.YtjnpndfpajjihabGrRecoverTwice22
import Derived.Test.YtjnpndfpajjihabGrRecoverTwice44
import Derived.Test.YtjnpndfpajjihabXScan
import Derived.Test.YtjnpndfpajjihabGrRecoverTwice29
import Derived.Test.YtjnpndfpajjihabMPure
namespace Go.Proofs.Ytjnpndfpajjihab
open Go.RowKit

theorem later_step (d : Dk) (N : Int) (k : Nat) : ((List.range (k + 1)).any fun i => decide ((stampDec (readT d ((i + 1 : Nat) : Int))).2 = 0) && decide (N ≤ (stampDec (readT d ((i + 1 : Nat) : Int))).1.seq)) = (((List.range k).any fun i => decide ((stampDec (readT d ((i + 1 : Nat) : Int))).2 = 0) && decide (N ≤ (stampDec (readT d ((i + 1 : Nat) : Int))).1.seq)) || (decide ((stampDec (readT d ((k + 1 : Nat) : Int))).2 = 0) && decide (N ≤ (stampDec (readT d ((k + 1 : Nat) : Int))).1.seq))) := by
  rw [List.range_succ, List.any_append]
  simp
theorem later_hit {d : Dk} {N : Int} {k : Nat} (hk : k < 24) (h : (decide ((stampDec (readT d ((k + 1 : Nat) : Int))).2 = 0) && decide (N ≤ (stampDec (readT d ((k + 1 : Nat) : Int))).1.seq)) = true) : laterB d N = true :=
  List.any_eq_true.2 ⟨k, List.mem_range.2 hk, h⟩

set_option maxHeartbeats 4000000 in
set_option maxRecDepth 100000 in
theorem later_any (v : Value) (d : Dk) (N : Int) (w : World) (h : IsDk w v d) :
    Calls Try.prog 54 #[v, .int .i64 N] w fun e w' => e = .returned (.bool (laterB d N)) ∧ Below w.heap.size w w' := by
  have HD := hide h
  obtain ⟨x, cx, y, cy, rfl, _, _, _, _⟩ := h
  go_enter Try.func54, Try.ntmps54
  go_wp2
  go_loopw [5] (fun i wr => ∃ k : Nat, k ≤ 24 ∧ i = .int .i64 ((k + 1 : Nat) : Int) ∧ Hid (((List.range k).any fun i => decide ((stampDec (readT d ((i + 1 : Nat) : Int))).2 = 0) && decide (N ≤ (stampDec (readT d ((i + 1 : Nat) : Int))).1.seq)) = false) ∧ Hid (wr.heap[w.heap.size]? = some (.cells #[.slice x d.safe.length cx, .slice y d.wr.length cy] 69 (0, 0))) ∧ w.heap.size < wr.heap.size ∧ Hid (Below w.heap.size w wr)) (fun i _ => 25 - (intOf i).toNat)
  case atStart => exact ⟨0, Nat.zero_le _, rfl, rfl, heap_alloc_new _ _, by simp, below1 _ _⟩
  case round =>
    obtain ⟨k, hk, rfl, HN, KB, hsz, HB⟩ := hrel
    by_cases hlt : k < 24
    · have hlt' : ((k + 1 : Nat) : Int) ≤ 24 := by omega
      obtain ⟨⟨y0, y1⟩, yf⟩ := box2 KB.out
      have HST := hide (later_step d N k)
      have HHT : Hid ((decide ((stampDec (readT d ((k + 1 : Nat) : Int))).2 = 0) && decide (N ≤ (stampDec (readT d ((k + 1 : Nat) : Int))).1.seq)) = true → laterB d N = true) := later_hit hlt
      obtain ⟨j, hj⟩ : ∃ j : Nat, j = k + 1 := ⟨_, rfl⟩
      rw [← hj] at HST HHT hlt' ⊢
      have HJ := hide hj
      clear hj
      go_wp2_with fail
      refine (read_any _ d (j : Int) _ (HD.out.below HB.out)).mono ?_
      rintro e w1 ⟨rfl, hb1⟩
      have hs1 := hb1.size
      have KB1 := hide (boxKeep hb1 hsz KB.out)
      have HB1 := hide (bthen HB.out hb1)
      clear hb1 y0 y1 yf KB HB
      generalize readE d (j : Int) = RE
      generalize readT d (j : Int) = s at *
      go_wp2_with fail
      refine (stampDecode_any s _).mono ?_
      rintro e w2 ⟨v2, rfl, hM, hb2⟩
      obtain ⟨a2, c2, a3, c3, rfl, _, _, _, _⟩ := hM
      have hs2 := hb2.size
      have KB2 := hide (boxKeep hb2 (show w.heap.size < w1.heap.size by omega) KB1.out)
      have HB2 := hide (bthen HB1.out hb2)
      clear hb2 KB1 HB1
      generalize stampDec s = M at *
      obtain ⟨mk, er⟩ := M
      dsimp only at *
      have hz2 : w.heap.size < w2.heap.size := by omega
      by_cases he : er = 0
      · subst he
        by_cases hq : N ≤ mk.seq
        · have HT : Hid (laterB d N = true) := HHT.out (by simp [hq])
          clear HST HHT HN
          go_wp2
          go_ret
          exact ⟨by rw [HT.out]; rfl, bthen HB2.out (below1 _ _)⟩
        · have HN2 : Hid (((List.range (k + 1)).any fun i => decide ((stampDec (readT d ((i + 1 : Nat) : Int))).2 = 0) && decide (N ≤ (stampDec (readT d ((i + 1 : Nat) : Int))).1.seq)) = false) := by rw [Hid, ← HJ.out, HST.out, HN.out]; simp [hq]
          have hq' : ¬ (N ≤ mk.seq) := hq
          clear HST HHT HN
          have hj24 : j ≤ 24 := by omega
          go_wp2
          go_roundw
          case rel => exact ⟨k + 1, by omega, by rw [HJ.out]; go_num, HN2, boxKeep (below1 _ _) hz2 KB2.out, by simp; omega, bthen HB2.out (below1 _ _)⟩
          case measure => have := HJ.out; simp [intOf]; omega
      · have he' : (er == 0) = false := by simpa using he
        have HN2 : Hid (((List.range (k + 1)).any fun i => decide ((stampDec (readT d ((i + 1 : Nat) : Int))).2 = 0) && decide (N ≤ (stampDec (readT d ((i + 1 : Nat) : Int))).1.seq)) = false) := by rw [Hid, ← HJ.out, HST.out, HN.out]; simp [he]
        clear HST HHT HN
        have hj24 : j ≤ 24 := by omega
        go_wp2
        go_roundw
        case rel => exact ⟨k + 1, by omega, by rw [HJ.out]; go_num, HN2, boxKeep (below1 _ _) hz2 KB2.out, by simp; omega, bthen HB2.out (below1 _ _)⟩
        case measure => have := HJ.out; simp [intOf]; omega
    · have e : k = 24 := by omega
      subst e
      have HT : Hid (laterB d N = false) := HN
      clear HN
      go_wp2
      go_ret
      exact ⟨by rw [HT.out]; rfl, HB.out⟩

end Go.Proofs.Ytjnpndfpajjihab

namespace Go.Proofs.Ytjnpndfpajjihab
open Go.RowKit

set_option maxHeartbeats 2000000 in
set_option maxRecDepth 100000 in
theorem goods_any (a : Option Addr) (c : Nat) (l : List Tx) (X Y : Int) (w : World) (h : SegTx w a l) (hn : l.length ≤ maxLen) (hr : ∀ t ∈ l, Reached t) :
    Calls Try.prog 53 #[.agg #[.slice a l.length c, .int .i64 X, .int .i64 Y]] w fun e w' => e = .returned (.bool (l.all goodX)) ∧ Below w.heap.size w w' := by
  unfold maxLen at hn
  have HS := hide h
  have HR := hide hr
  clear h hr
  go_enter Try.func53, Try.ntmps53
  go_wp2
  go_loopw [8] (fun i wr => ∃ k : Nat, k ≤ l.length ∧ i = .int .i64 k ∧ Hid ((l.take k).all goodX = true) ∧ Hid (Below w.heap.size w wr)) (fun i _ => l.length - (intOf i).toNat)
  case atStart => exact ⟨0, Nat.zero_le _, rfl, rfl, below1 _ _⟩
  case round =>
    obtain ⟨k, hk, rfl, hF, hbr⟩ := hrel
    by_cases hlt : k < l.length
    · obtain ⟨b2, off, rfl, hb, hc⟩ := HS.out.resolve_left (by intro e; rw [e] at hlt; simp at hlt)
      obtain ⟨t, ht⟩ : ∃ t, t = l.getD k txz := ⟨_, rfl⟩
      have HX : Hid (l[k]? = some t) := by rw [ht]; exact tx_at hlt
      have hcj := (hc k hlt).below hbr.out hb
      rw [← ht] at hcj
      obtain ⟨a0, c0, a1, c1, r, d, ⟨x0, x1, x2, x3, x4, x5, x6, x7, x8, x9⟩, hT⟩ := hcj
      have HT := hide hT
      have HQ := hide (HR.out t (List.mem_of_getElem? HX.out))
      have hlt' : (k : Int) < (l.length : Int) := by omega
      clear ht hc hT
      go_wp2_with fail
      refine (tGood_any _ t _ (HT.out.below (below1 _ _)) HQ.out.1 HQ.out.2.1).mono ?_
      rintro e w1 ⟨rfl, hb1⟩
      have HB1 := hide (bthen (bthen hbr.out (below1 _ _)) hb1)
      clear hb1 hbr HT HQ x0 x1 x2 x3 x4 x5 x6 x7 x8 x9
      cases hg : goodX t with
      | false =>
        have HE : Hid (l.all goodX = false) := by
          rw [Hid, List.all_eq_false]
          exact ⟨t, List.mem_of_getElem? HX.out, by simp [hg]⟩
        go_wp2
        go_ret
        exact ⟨by rw [HE.out]; rfl, HB1.out⟩
      | true =>
        have HE : Hid ((l.take (k + 1)).all goodX = true) := by
          rw [Hid, List.take_add_one, HX.out, List.all_append, hF.out]; simp [hg]
        go_wp2
        go_roundw
        case rel => exact ⟨k + 1, by omega, by go_num, HE, HB1⟩
        case measure => simp [intOf]; omega
    · have e : k = l.length := by omega
      subst e
      have HE : Hid (l.all goodX = true) := by have := hF.out; rw [List.take_length] at this; exact this
      go_wp2
      go_ret
      exact ⟨by rw [HE.out]; rfl, hbr.out⟩

end Go.Proofs.Ytjnpndfpajjihab

namespace Go.Proofs.Ytjnpndfpajjihab
open Go.RowKit

def m72 : Mk := ⟨1, 7, 2, [], []⟩
theorem good72 : goodM m72 = 0 := by kernel_rfl
def dTell : Dk := ⟨encT m72 :: List.replicate 36 (fitT ⟨#[]⟩), []⟩
theorem tell_good : goodB dTell = true := by kernel_rfl
theorem tell_read : readT dTell 0 = encT m72 := by kernel_rfl
theorem tell_readE : readE dTell 0 = 0 := by kernel_rfl
theorem tell_log : (logOf dTell 2).getD 0 ByteArray.empty = fitT ⟨#[]⟩ := by kernel_rfl
theorem tell_zero : stampDec (fitT ⟨#[]⟩) = (zeroM, 1) := dec_magic (by kernel_rfl)
theorem tell_super : superM dTell = m72 := by rw [superM, tell_read, dec_enc good72]
theorem tell_E : scanE dTell = 0 := by
  rw [scanE, tell_readE, tell_super, tell_read, dec_enc good72, if_neg (by simp), if_neg (by simp [m72])]
theorem tell_L : scanL dTell = ([], 0) := by
  rw [scanL, tell_super]
  show scanP (logOf dTell 2) 0 7 [] = _
  rw [scanP, dif_pos (by decide), runT, dif_pos (by rw [logOf_length]; decide), tell_log, tell_zero, if_pos (.inl (by decide))]
theorem tell_cells (s : ByteArray) : (cellsS (List.replicate 37 (fitT ⟨#[]⟩))).set 0 (.string s) = cellsS (s :: List.replicate 36 (fitT ⟨#[]⟩)) := rfl

end Go.Proofs.Ytjnpndfpajjihab

namespace Go.Proofs.Ytjnpndfpajjihab
open Go.RowKit

set_option maxHeartbeats 2000000 in
set_option maxRecDepth 100000 in
theorem tellsK_any (w : World) :
    Calls Try.prog 52 #[] w fun e w' => e = .returned (.bool true) ∧ Below w.heap.size w w' := by
  go_enter Try.func52, Try.ntmps52
  go_wp2_with fail
  refine (stampEncode_any _ m72 _ ⟨none, 0, none, 0, rfl, .inl rfl, .inl rfl, Nat.zero_le _, Nat.zero_le _⟩).mono ?_
  rintro e w1 ⟨rfl, hb1⟩
  rw [good72]
  obtain ⟨s, hs⟩ : ∃ s, s = encT m72 := ⟨_, rfl⟩
  have HS := hide hs
  rw [← hs]
  clear hs
  have HB1 := hide hb1
  clear hb1
  go_wp2_with fail
  refine (new_own _).mono ?_
  rintro e w2 ⟨g, c, rfl, hown, hb2⟩
  have hgl := hown.lt g rfl
  have hst := (hown.stored 0 (.string s)).1
  rw [tell_cells] at hst
  have HST := hide hst
  have hcell : w2.cell? ⟨g, 0, none⟩ = some (.string (fitT ⟨#[]⟩)) := by rw [hown.cellAt 0 (by decide)]; rfl
  have hfz : w2.frozen? ⟨g, 0, none⟩ = false := hown.frozenAt 0
  have hgn : g ≠ w2.heap.size := by have := hgl.2; omega
  have hgn' : ¬ w2.heap.size = g := fun e => hgn e.symm
  have hgw : g < w2.heap.size := hgl.2
  have HB2 := hide (bthen HB1.out hb2)
  have hg1 : w.heap.size ≤ g := Nat.le_trans HB1.out.size hgl.1
  clear hst hown hb2 HB1
  generalize fitT ⟨#[]⟩ = z at hcell
  go_wp2_with fail
  obtain ⟨W, hW⟩ : ∃ W, W = (w2.setCell ⟨g, 0, none⟩ (.string s)).alloc (.cells #[.slice (some ⟨g, 0, none⟩) 37 c, .slice none 0 0] 69) := ⟨_, rfl⟩
  have HD : Hid (IsDk W (.agg #[.slice (some ⟨g, 0, none⟩) dTell.safe.length c, .slice none dTell.wr.length 0]) dTell) := by
    rw [hW, Hid, dTell, ← HS.out]
    obtain ⟨a2, c2, hv, hS, _⟩ := SegS.of_owns (owns_keep HST.out (below1 _ _))
    cases hv
    exact ⟨some ⟨g, 0, none⟩, c, none, 0, rfl, hS, .inl rfl, by simp [maxLen], by simp [maxLen]⟩
  have HW : Hid (Below w.heap.size w W) := by rw [hW]; exact (HB2.out.setCell (p := ⟨g, 0, none⟩) hg1 _).alloc (by have := HB2.out.size; simp [World.setCell]; omega) _
  rw [← hW]
  clear hW hcell hfz hgn hgn' hgw HST HB2
  refine (scan_any _ _ _ _ dTell _ HD.out).mono ?_
  rintro e w3 ⟨v, rfl, hb3, _, hok⟩
  obtain ⟨q, va, vc, rfl, hq, _, _⟩ := hok tell_E
  rw [tell_E, tell_super, tell_L]
  rw [tell_L] at hq
  obtain rfl : q = [] := by simpa using hq
  have HB3 := hide (bthen HW.out hb3)
  clear hb3 HD
  simp only [List.length_nil, m72]
  go_wp2
  go_ret
  exact ⟨rfl, bthen HB3.out (below1 _ _)⟩

end Go.Proofs.Ytjnpndfpajjihab
