/-
  The walk of the document's own blocksOf.
  The walk of the document's own CommitSteps.
-/
import Derived.Test.YtjnpndfpajjihabGreatECommitAll
import Derived.Test.YtjnpndfpajjihabGreatMEncAll
import Derived.Test.YtjnpndfpajjihabGreatESmall
import Derived.Deep.CutRange
import Derived.Test.YtjnpndfpajjihabGreatRTakes
import Derived.Test.YtjnpndfpajjihabGreatTCounts
namespace Go.Proofs.YtjnpndfpajjihabGreat
open Go.RowKit

theorem segW_part2 {w : World} {b off : Nat} {l : List (Int × ByteArray)} (h : SegW w (some ⟨b, off, none⟩) l) (k : Nat) : SegW w (some ⟨b, off + 10 * k * 2, none⟩) (partOf l k) := by
  rcases h with e | ⟨b', off', e, hlt, hc⟩
  · left; rw [e, partOf]; simp
  · cases e
    refine .inr ⟨b, off + 10 * k * 2, rfl, hlt, fun i hi => ?_⟩
    have hi2 : i < 10 ∧ 10 * k + i < l.length := by rw [partOf, List.length_take, List.length_drop] at hi; omega
    have e1 : (partOf l k).getD i (0, ByteArray.empty) = l.getD (10 * k + i) (0, ByteArray.empty) := by
      rw [List.getD, List.getD, partOf, List.getElem?_take, if_pos hi2.1, List.getElem?_drop]
    have := hc (10 * k + i) hi2.2
    rw [e1, show off + 10 * k * 2 + i * 2 = off + (10 * k + i) * 2 from by omega]
    exact this

theorem OwnT.base {w : World} {b b' : Nat} {v : Value} {l : List ByteArray} (h : OwnT w b v l) (hb : b' ≤ b) : OwnT w b' v l := owns_base h hb

set_option maxHeartbeats 4000000 in
set_option maxRecDepth 100000 in
theorem blocksOf_any (t : Tx) (a0 a2 a4 : Option Addr) (a1 a3 a5 : Nat) (w : World) (hT : IsTx w (.agg #[.int .i64 t.seq, .slice a0 t.info.length a1, .slice a2 t.data.length a3, .slice a4 t.rev.length a5, .bool t.h0.on, .int .i64 t.h0.left, .bool t.h1.on, .int .i64 t.h1.left, .bool t.h2.on, .int .i64 t.h2.left]) t) (hg : goodX t = true) (hci : t.info.length ≤ a1) :
    Calls Tryz.prog 72 #[.agg #[.int .i64 t.seq, .slice a0 t.info.length a1, .slice a2 t.data.length a3, .slice a4 t.rev.length a5, .bool t.h0.on, .int .i64 t.h0.left, .bool t.h1.on, .int .i64 t.h1.left, .bool t.h2.on, .int .i64 t.h2.left]] w fun e w' => ∃ v', e = .returned v' ∧ OwnT w' w.heap.size v' (logB t ++ [lastB t]) ∧ Below w.heap.size w w' := by
  have hsm := good_small hg
  have HG := hide hg
  obtain ⟨b0, b1, b2, b3, b4, b5, e, hM, hD, hR, n1, n2, n3⟩ := hT
  simp only [Value.agg.injEq] at e
  injection e with e
  simp only [List.cons.injEq, Value.slice.injEq, true_and, and_true] at e
  obtain ⟨⟨rfl, rfl⟩, ⟨rfl, rfl⟩, rfl, rfl⟩ := e
  have hnl : (logB t).length ≤ 20 := by
    have := logB_length t hsm.1 hsm.2.2
    have h2 : needN (t.info.length : Int) (t.rev.length : Int) ≤ 20 := by unfold needN; split <;> (try split) <;> (try split) <;> (try split) <;> omega
    omega
  have HNL := hide hnl
  have HM := hide hM
  have HR := hide hR
  clear hM hD hR n1 n2 n3 hg hnl
  go_enter Tryz.func72, Tryz.ntmps72
  go_upto_if 24 with fail
  obtain ⟨W0, hW0⟩ : ∃ W0, W0 = w.alloc (Obj.cells #[.int .i64 t.seq, .slice a0 t.info.length a1, .slice a2 t.data.length a3, .slice a4 t.rev.length a5, .bool t.h0.on, .int .i64 t.h0.left, .bool t.h1.on, .int .i64 t.h1.left, .bool t.h2.on, .int .i64 t.h2.left] 28) := ⟨_, rfl⟩
  have K0 : Hid (W0.heap[w.heap.size]? = some (Obj.cells #[.int .i64 t.seq, .slice a0 t.info.length a1, .slice a2 t.data.length a3, .slice a4 t.rev.length a5, .bool t.h0.on, .int .i64 t.h0.left, .bool t.h1.on, .int .i64 t.h1.left, .bool t.h2.on, .int .i64 t.h2.left] 28 (0, 0))) := by rw [hW0]; exact heap_alloc_new w _
  have HB0 : Hid (Below w.heap.size w W0) := by rw [hW0]; exact below1 _ _
  have hs0 : w.heap.size < W0.heap.size := by rw [hW0]; simp
  have HZ : Hid (W0.heap.size = w.heap.size + 1) := by rw [hW0]; simp [Hid]
  rw [← hW0]
  clear hW0
  go_cut [3] from 21 to 37 (fun s wx => Hid (OwnT wx W0.heap.size s (revB t)) ∧ Hid (Below W0.heap.size W0 wx))
  case first =>
    obtain ⟨⟨x0, x1, x2, x3, x4, x5, x6, x7, x8, x9⟩, _⟩ := box10 K0.out
    by_cases h0 : t.rev.length = 0
    · have hrb0 : revB t = [] := by rw [revB, if_pos h0]
      have h0' : ¬ ((0 : Int) < (t.rev.length : Int)) := by omega
      have HRB := hide hrb0
      clear hrb0 h0
      go_wp2_with fail
      go_meet
      exact ⟨by rw [HRB.out]; exact World.ownsRow_nil _ _ _ _, Below.refl _ _⟩
    · have h0' : (0 : Int) < (t.rev.length : Int) := by omega
      have hrb : revB t = [encT ⟨3, t.seq, 0, [], t.rev⟩] := by rw [revB, if_neg h0]
      have HRB := hide hrb
      clear hrb
      go_wp2_with fail
      refine (encodeMark_any _ ⟨3, t.seq, 0, [], t.rev⟩ _ ⟨none, 0, a4, a5, rfl, .inl rfl, HR.out.below HB0.out, Nat.zero_le _, by show t.rev.length ≤ maxLen; unfold maxLen; omega⟩ (by show 0 * 8 ≤ _; omega)).mono ?_
      rintro e w1 ⟨rfl, hb1⟩
      have HB1 := hide hb1
      clear hb1 x0 x1 x2 x3 x4 x5 x6 x7 x8 x9
      generalize encT ⟨3, t.seq, 0, [], t.rev⟩ = s1 at *
      go_wp2_with (at_builtin; refine wpList_appT rfl _ _ rfl W0.heap.size _ [] rfl (World.ownsRow_nil _ _ _ _) w1.heap.size s1 rfl (by simp [go_sem]) (by simp) (Nat.le_trans HB1.out.size (by simp)) ?_)
      intro v' w2 hown' hg'
      have hB2 : Below W0.heap.size W0 w2 := (HB1.out.alloc HB1.out.size _).grown hg' (Nat.le_trans HB1.out.size (by simp)) (fun j hj => by simp [Value.ownBlock] at hj)
      go_wp2_with fail
      go_meet
      exact ⟨by rw [HRB.out]; exact hown', hB2⟩
  case rest =>
    obtain ⟨HO, HB⟩ := hcut
    obtain ⟨w1, rfl⟩ : ∃ w1, w1 = wc := ⟨_, rfl⟩
    go_wp2
    go_loopw [3, 6] (fun s i wr => ∃ k : Nat, k ≤ partN t.info.length 10 ∧ i = .int .i64 ((10 * k : Nat) : Int) ∧ Hid (OwnT wr W0.heap.size s (revB t ++ metaB t.seq t.info k)) ∧ Hid (Below W0.heap.size W0 wr)) (fun _ i _ => t.info.length + 10 - (intOf i).toNat)
    case atStart => exact ⟨0, Nat.zero_le _, rfl, by rw [show metaB t.seq t.info 0 = [] from rfl, List.append_nil]; exact HO, HB⟩
    case round =>
      obtain ⟨k, hk, rfl, hO, hB⟩ := hrel
      obtain ⟨wq, rfl⟩ : ∃ wq, wq = wr := ⟨_, rfl⟩
      have hN : partN t.info.length 10 = (t.info.length + 9) / 10 := rfl
      have hbs := hB.out.size
      obtain ⟨⟨x0, x1, x2, x3, x4, x5, x6, x7, x8, x9⟩, _⟩ := box10 (boxKeep hB.out hs0 K0.out)
      by_cases hlt : 10 * k < t.info.length
      · have hlt' : ((10 * k : Nat) : Int) < (t.info.length : Int) := by omega
        obtain ⟨b, off, rfl, hbl, _⟩ := HM.out.resolve_left (by intro e; rw [e] at hlt; simp at hlt)
        have hsgP : SegW w (some ⟨b, off + 10 * k * 2, none⟩) (partOf t.info k) := segW_part2 HM.out k
        have HSG := hide (hsgP.below (HB0.out))
        have hplen := partOf_length t.info k
        have hk1 : k + 1 ≤ partN t.info.length 10 := by omega
        have hpl10 : (partOf t.info k).length ≤ 10 := by rw [partOf, List.length_take]; omega
        have hsz : ∀ x ∈ partOf t.info k, x.2.size ≤ maxLen := by
          intro x hx
          have hg' := ((goodX_iff t).1 HG.out).2.1.1
          unfold fitsAll at hg'
          have := List.all_eq_true.1 hg' x (List.mem_of_mem_drop (List.mem_of_mem_take hx))
          simp [fitsB] at this
          unfold maxLen; omega
        have HSZ := hide hsz
        have hpl : (partOf t.info k).length = if 10 ≤ t.info.length - 10 * k then 10 else t.info.length - 10 * k := by rw [hplen, partL, Nat.mul_comm]
        have HEND : Hid (revB t ++ metaB t.seq t.info (k + 1) = revB t ++ metaB t.seq t.info k ++ [encT ⟨2, t.seq, 0, tagsOf (partOf t.info k), []⟩] ++ textsOf (partOf t.info k)) := by
          rw [Hid, metaB_succ, ← List.append_assoc, partB]; simp
        have hlnO : (revB t ++ metaB t.seq t.info k).length ≤ 100 := by
          have := metaB_length t.seq t.info hsm.1
          have h3 : (metaB t.seq t.info k).length ≤ (metaB t.seq t.info (partN t.info.length 10)).length := by
            have hmm : ∀ j, k ≤ j → (metaB t.seq t.info k).length ≤ (metaB t.seq t.info j).length := by
              intro j hj
              induction hj with
              | refl => exact Nat.le_refl _
              | step h ih => rw [metaB_succ, List.length_append]; omega
            exact hmm _ hk
          have h4 := HNL.out
          rw [logB, List.length_append] at h4
          rw [List.length_append]; omega
        clear hsgP hsz hplen hN
        generalize revB t ++ metaB t.seq t.info k = dd at *
        obtain ⟨j, hj⟩ : ∃ j, j = 10 * k := ⟨_, rfl⟩
        rw [← hj] at hlt hlt' hpl HSG ⊢
        have HJ := hide hj
        clear hj
        generalize partOf t.info k = part at *
        have hjc : ¬ a1 = j := by omega
        have hjb : j ≤ 1000 := by omega
        have hmn : (min ((j : Int) + 10) (t.info.length : Int)).toNat - j = part.length := by rw [hpl]; split <;> omega
        have hmA : (j : Int) ≤ min ((j : Int) + 10) (t.info.length : Int) := by omega
        have hmB : min ((j : Int) + 10) (t.info.length : Int) ≤ (a1 : Int) := by omega
        have hmC : (0 : Int) ≤ min ((j : Int) + 10) (t.info.length : Int) := by omega
        have HOO := hide hO.out
        clear hpl hO
        go_wp2
        clear hmn hmA hmB hmC x0 x1 x2 x3 x4 x5 x6 x7 x8 x9
        go_loopw [60] (fun i wr => ∃ (q : Nat) (tv : Value), q ≤ part.length ∧ i = .int .i64 q ∧ Hid (wr.heap[wq.heap.size]? = some (.cells #[.int .i64 2, .int .i64 t.seq, .int .i64 0, tv, .slice none 0 0] 103 (0, 0))) ∧ Hid (OwnG wr (wq.heap.size + 1) tv (tagsOf (part.take q))) ∧ Hid (Below wq.heap.size wq wr)) (fun i _ => part.length - (intOf i).toNat)
        case atStart => exact ⟨0, _, Nat.zero_le _, rfl, heap_alloc_new wq _, World.ownsRow_nil _ _ _ _, below1 _ _⟩
        case round =>
          obtain ⟨q, tv, hq, rfl, hK, hG, hBx⟩ := hrel
          have hxs := hBx.out.size
          have hlx := (Array.getElem?_eq_some_iff.1 hK.out).1
          obtain ⟨ga, gc, rfl, hGs, _⟩ := SegG.of_owns hG.out
          obtain ⟨⟨m0, m1, m2, m3, m4⟩, mf0, mf1, mf2, mf3, mf4⟩ := box5 hK.out
          by_cases hql : q < part.length
          · have hql' : (q : Int) < (part.length : Int) := by omega
            obtain ⟨b', off', e', hbl', hcc⟩ := HSG.out.resolve_left (by intro e; rw [e] at hql; simp at hql)
            cases e'
            obtain ⟨g1, g2⟩ := hcc q hql
            obtain ⟨x, hx⟩ : ∃ x, x = part.getD q (0, ByteArray.empty) := ⟨_, rfl⟩
            rw [← hx] at g1 g2
            have HX : part[q]? = some x := by rw [hx]; exact getD_at _ _ _ hql
            have hxsz := HSZ.out x (List.mem_of_getElem? HX)
            have HT1 := hide (tagsOf_snoc HX)
            have hbW : Below W0.heap.size W0 wr := hB.out.trans (hBx.out.mono hB.out.size)
            replace g1 := cellKeep hbW hbl' g1
            replace g2 := cellKeep hbW hbl' g2
            have hq1 : (tagsOf (part.take q)).length ≤ 100 := by rw [tagsOf, List.length_map, List.length_take]; omega
            clear hx HX hcc hbW
            obtain ⟨n, s⟩ := x
            generalize tagsOf (part.take q) = qt at *
            go_wp2_with fail
            refine (escape_any s _ hxsz).mono ?_
            rintro e w3 ⟨rfl, rfl⟩
            generalize escT s = es at *
            generalize isMagic s = im at *
            go_wp2_with (at_builtin; refine wpList_appG rfl _ _ rfl (wq.heap.size + 1) _ qt rfl (owns_keep (owns_keep hG.out (below1 _ _)) (below1 _ _)) (wr.heap.size + 1) (n, im) rfl (by simp [go_sem]) (by simp [go_sem]) (by omega) (by simp; omega) ?_)
            intro v1 w4 hown1 hg1
            have hne : some wq.heap.size ≠ (Value.slice ga qt.length gc).ownBlock := by
              intro e
              have := (World.ownsRow.lt hG.out _ e.symm).1
              omega
            have hK4 : Hid (w4.heap[wq.heap.size]? = some (.cells #[.int .i64 2, .int .i64 t.seq, .int .i64 0, .slice ga qt.length gc, .slice none 0 0] 103 (0, 0))) :=
              (hg1.block _ (by simp; omega) hne).trans (boxKeep (bthen (below1 _ _) (below1 _ _)) hlx hK.out)
            have hB4 : Hid (Below wq.heap.size wq w4) := ((hBx.out.alloc hBx.out.size _).alloc (by simp; omega) _).grown hg1 (by simp; omega) (fun j' hj' => by have := (World.ownsRow.lt hG.out j' hj').1; omega)
            have HG4 := hide hown1
            obtain ⟨ga4, gc4, hv1, _, _⟩ := SegG.of_owns hown1
            have hv1' : v1 = .slice ga4 (qt.length + 1) gc4 := by rw [hv1, List.length_append]; rfl
            clear hv1 hown1 hg1 hG hK m0 m1 m2 m3 m4 mf0 mf1 mf2 mf3 mf4 g1 g2 hne
            subst hv1'
            obtain ⟨⟨m0, m1, m2, m3, m4⟩, mf0, mf1, mf2, mf3, mf4⟩ := box5 hK4.out
            go_wp2
            go_roundw
            case rel => exact ⟨q + 1, _, by omega, by go_num, heap_setCell_same _ _ 3 _ _ (.slice ga4 (qt.length + 1) gc4) hK4.out, by rw [HT1.out]; exact ownsRow_setCell_below HG4.out (by simp) _, hB4.out.setCell (by simp) _⟩
            case measure => simp [intOf]; omega
          · have hql' : ¬ ((q : Int) < (part.length : Int)) := by omega
            have e : q = part.length := by omega
            subst e
            rw [List.take_length] at hG hGs
            have HGS := hide hGs
            have htl : (tagsOf part).length ≤ 10 := by rw [tagsOf, List.length_map]; omega
            clear hGs
            go_wp2_with fail
            refine (encodeMark_any _ ⟨2, t.seq, 0, tagsOf part, []⟩ _ ⟨ga, gc, none, 0, rfl, HGS.out, .inl rfl, by show (tagsOf part).length ≤ maxLen; unfold maxLen; omega, Nat.zero_le _⟩ (by show (tagsOf part).length * 8 ≤ _; omega)).mono ?_
            rintro e w5 ⟨rfl, hb5⟩
            have hBW5 : Hid (Below W0.heap.size W0 w5) := (hB.out.trans (hBx.out.mono hB.out.size)).trans (hb5.mono (by omega))
            have hO5 : Hid (OwnT w5 W0.heap.size _ dd) := owns_keep (owns_keep HOO.out hBx.out) hb5
            clear hb5 m0 m1 m2 m3 m4 mf0 mf1 mf2 mf3 mf4 HGS hG hK htl
            generalize encT ⟨2, t.seq, 0, tagsOf part, []⟩ = em at *
            have h5s := hBW5.out.size
            go_wp2_with (at_builtin; refine wpList_appT rfl _ _ rfl W0.heap.size _ dd rfl (owns_keep hO5.out (below1 _ _)) w5.heap.size em rfl (by simp [go_sem]) (by omega) (by simp; omega) ?_)
            intro v6 w6 hown6 hg6
            have hB6 : Below W0.heap.size W0 w6 := (hBW5.out.alloc hBW5.out.size _).grown hg6 (by simp; omega) (fun j' hj' => (World.ownsRow.lt hO5.out j' hj').1)
            have HO6 := hide hown6
            have HB6 := hide hB6
            have hln6 : (dd ++ [em]).length ≤ 101 := by rw [List.length_append]; show _ + 1 ≤ 101; omega
            clear hown6 hg6 hB6 hO5 hBW5 hBx
            generalize dd ++ [em] = d6 at *
            have HTX : Hid ((textsOf part).length = part.length) := by rw [Hid, textsOf, List.length_map]
            go_wp2
            go_loopw [3, 91] (fun sv i wr => ∃ q : Nat, q ≤ part.length ∧ i = .int .i64 q ∧ Hid (OwnT wr W0.heap.size sv (d6 ++ textsOf (part.take q))) ∧ Hid (Below W0.heap.size W0 wr)) (fun _ i _ => part.length - (intOf i).toNat)
            case atStart => exact ⟨0, Nat.zero_le _, rfl, by rw [List.take_zero, show textsOf [] = [] from rfl, List.append_nil]; exact HO6, HB6⟩
            case round =>
              obtain ⟨q, hq, rfl, hO7, hB7⟩ := hrel
              have h7s := hB7.out.size
              by_cases hql : q < part.length
              · have hql2 : (q : Int) < (part.length : Int) := by omega
                obtain ⟨b', off', e', hbl', hcc⟩ := HSG.out.resolve_left (by intro e; rw [e] at hql; simp at hql)
                cases e'
                obtain ⟨g1, g2⟩ := hcc q hql
                obtain ⟨x, hx⟩ : ∃ x, x = part.getD q (0, ByteArray.empty) := ⟨_, rfl⟩
                rw [← hx] at g1 g2
                have HX : part[q]? = some x := by rw [hx]; exact getD_at _ _ _ hql
                have hxsz := HSZ.out x (List.mem_of_getElem? HX)
                have HT2 := hide (textsOf_snoc HX)
                replace g1 := cellKeep hB7.out hbl' g1
                replace g2 := cellKeep hB7.out hbl' g2
                have hq2 : (d6 ++ textsOf (part.take q)).length ≤ 300 := by rw [List.length_append, textsOf, List.length_map, List.length_take]; omega
                clear hx HX hcc
                obtain ⟨n, s⟩ := x
                have HTT : Hid (d6 ++ textsOf (part.take (q + 1)) = d6 ++ textsOf (part.take q) ++ [escT s]) := by rw [Hid, HT2.out, List.append_assoc]
                generalize d6 ++ textsOf (part.take q) = q7 at *
                go_wp2_with fail
                refine (escape_any s _ hxsz).mono ?_
                rintro e w3 ⟨rfl, rfl⟩
                generalize escT s = es at *
                generalize isMagic s = im at *
                go_wp2_with (at_builtin; refine wpList_appT rfl _ _ rfl W0.heap.size _ q7 rfl (owns_keep (owns_keep hO7.out (below1 _ _)) (below1 _ _)) (wr.heap.size + 1) es rfl (by simp [go_sem]) (by omega) (by simp; omega) ?_)
                intro v8 w8 hown8 hg8
                have hB8 : Below W0.heap.size W0 w8 := ((hB7.out.alloc hB7.out.size _).alloc (by simp; omega) _).grown hg8 (by simp; omega) (fun j' hj' => (World.ownsRow.lt hO7.out j' hj').1)
                clear hg8 g1 g2
                go_wp2
                go_roundw
                case rel => exact ⟨q + 1, by omega, by go_num, by rw [HTT.out]; exact hown8, hB8⟩
                case measure => simp [intOf]; omega
              · have hql2 : ¬ ((q : Int) < (part.length : Int)) := by omega
                have e : q = part.length := by omega
                subst e
                rw [List.take_length] at hO7
                go_wp2
                go_roundw
                case rel => exact ⟨k + 1, hk1, by rw [HJ.out]; go_num, by rw [HEND.out]; exact hO7, hB7⟩
                case measure => simp [intOf]; omega
      · have hlt' : ¬ (((10 * k : Nat) : Int) < (t.info.length : Int)) := by omega
        have e : k = partN t.info.length 10 := by omega
        subst e
        have hO2 : Hid (OwnT wq W0.heap.size _ (logB t)) := hO
        have hws := hB.out.size
        have h0s := HB0.out.size
        go_wp2_with fail
        refine (encodeMark_any _ ⟨4, t.seq, 0, [], []⟩ _ ⟨none, 0, none, 0, rfl, .inl rfl, .inl rfl, Nat.zero_le _, Nat.zero_le _⟩ (by show 0 * 8 ≤ _; omega)).mono ?_
        rintro e w5 ⟨rfl, hb5⟩
        have hB5 : Hid (Below W0.heap.size W0 w5) := hB.out.trans (hb5.mono hws)
        have hO5 : Hid (OwnT w5 W0.heap.size _ (logB t)) := owns_keep hO2.out hb5
        have hnl := HNL.out
        have h5s := hB5.out.size
        have HLB : Hid (lastB t = encT ⟨4, t.seq, 0, [], []⟩) := rfl
        clear hb5 hO hO2 x0 x1 x2 x3 x4 x5 x6 x7 x8 x9
        generalize encT ⟨4, t.seq, 0, [], []⟩ = em at *
        go_wp2_with (at_builtin; refine wpList_appT rfl _ _ rfl W0.heap.size _ (logB t) rfl (owns_keep hO5.out (below1 _ _)) w5.heap.size em rfl (by simp [go_sem]) (by omega) (by simp; omega) ?_)
        intro v6 w6 hown6 hg6
        have hB6 : Below W0.heap.size W0 w6 := (hB5.out.alloc hB5.out.size _).grown hg6 (by simp; omega) (fun j' hj' => (World.ownsRow.lt hO5.out j' hj').1)
        go_wp2
        go_ret
        exact ⟨v6, rfl, by rw [HLB.out]; exact OwnT.base hown6 h0s, HB0.out.trans (hB6.mono h0s)⟩


/-- The steps of the blocks of the log, some of them, the flush ahead of the last one with them. -/
theorem grownDrew {W0 wr w9 : World} {obj : Obj} {v : Value} {l : List St} (hB : Below W0.heap.size W0 wr) (hO : OwnSt wr W0.heap.size v l) (hg : ((wr.alloc obj).drew).grownBy w9 v.ownBlock) : Below W0.heap.size W0 w9 := by
  have h7s := hB.size
  exact ((hB.alloc hB.size obj).drew).grown hg (by simp; omega) (fun j' hj' => (World.ownsRow.lt hO j' hj').1)
theorem grownDrew2 {W0 wr w9 : World} {obj : Obj} {v : Value} {l : List St} (hB : Below W0.heap.size W0 wr) (hO : OwnSt wr W0.heap.size v l) (hg : ((wr.drew).alloc obj).grownBy w9 v.ownBlock) : Below W0.heap.size W0 w9 := by
  have h7s := hB.size
  exact (hB.drew.alloc hB.drew.size obj).grown hg (by simp; omega) (fun j' hj' => (World.ownsRow.lt hO j' hj').1)
def logSt (t : Tx) (ps : List Int) (k : Nat) : List St :=
  if k ≤ (logB t).length then homeS t.data ++ putS ps ((logB t).take k)
  else homeS t.data ++ putS ps ((logB t).take (logB t).length) ++ (if 0 < (logB t).length then [flushS] else []) ++ [writeS (1 + ps.getD (logB t).length 0) (lastB t)]
theorem logSt_zero (t : Tx) (ps : List Int) : logSt t ps 0 = homeS t.data := by
  rw [logSt, if_pos (Nat.zero_le _), List.take_zero, putS, List.zipWith_nil_right, List.append_nil]
theorem logSt_succ (t : Tx) (ps : List Int) (k : Nat) (hk : k < (logB t).length) (hp : k < ps.length) : logSt t ps (k + 1) = logSt t ps k ++ [writeS (1 + ps.getD k 0) ((logB t).getD k ByteArray.empty)] := by
  rw [logSt, logSt, if_pos (show k + 1 ≤ _ from hk), if_pos (Nat.le_of_lt hk), List.take_add_one, List.append_assoc]
  have hl : ((logB t).take k).length = k := by rw [List.length_take]; omega
  have e : ((logB t)[k]?).toList = [(logB t).getD k ByteArray.empty] := by rw [List.getD, List.getElem?_eq_getElem hk]; rfl
  have := putS_snoc (ps := ps) (d := (logB t).take k) (by omega) ((logB t).getD k ByteArray.empty)
  rw [hl] at this
  rw [e, this]
theorem logSt_last (t : Tx) (ps : List Int) : logSt t ps ((logB t).length + 1) = logSt t ps (logB t).length ++ (if 0 < (logB t).length then [flushS] else []) ++ [writeS (1 + ps.getD (logB t).length 0) (lastB t)] := by
  rw [logSt, logSt, if_neg (by omega), if_pos (Nat.le_refl _)]
theorem logSt_length (t : Tx) (ps : List Int) (k : Nat) (hl : (logB t).length ≤ 20) (hp : (logB t).length ≤ ps.length) (h8 : (homeS t.data).length ≤ 301) : (logSt t ps k).length ≤ 400 := by
  have h1 : ∀ j, j ≤ (logB t).length → (putS ps ((logB t).take j)).length ≤ 20 := by
    intro j hj
    rw [putS_length (by rw [List.length_take]; omega), List.length_take]; omega
  unfold logSt
  split
  · rename_i h
    have := h1 k h
    rw [List.length_append]; omega
  · have := h1 _ (Nat.le_refl _)
    rw [List.length_append, List.length_append, List.length_append]
    split <;> simp only [List.length_cons, List.length_nil] <;> omega

set_option maxHeartbeats 4000000 in
set_option maxRecDepth 100000 in
theorem csteps_any (rh ru : Int) (t : Tx) (a0 a2 a4 : Option Addr) (a1 a3 a5 : Nat) (w : World) (hT : IsTx w (.agg #[.int .i64 t.seq, .slice a0 t.info.length a1, .slice a2 t.data.length a3, .slice a4 t.rev.length a5, .bool t.h0.on, .int .i64 t.h0.left, .bool t.h1.on, .int .i64 t.h1.left, .bool t.h2.on, .int .i64 t.h2.left]) t) (hci : t.info.length ≤ a1) (r1 : t.info.length * 24 ≤ 140737488355328) (r2 : t.data.length * 24 ≤ 140737488355328) :
    Calls Tryz.prog 17 #[.agg #[.int .i64 rh, .int .i64 ru], .agg #[.int .i64 t.seq, .slice a0 t.info.length a1, .slice a2 t.data.length a3, .slice a4 t.rev.length a5, .bool t.h0.on, .int .i64 t.h0.left, .bool t.h1.on, .int .i64 t.h1.left, .bool t.h2.on, .int .i64 t.h2.left]] w fun e w' => ∃ a c, e = .returned (.tuple #[.agg #[.int .i64 (sealH rh ru t), .int .i64 (sealU rh ru t)], .slice a (commitS rh ru t).length c, .int .i64 (sealE rh ru t)]) ∧ SegSt w' a (commitS rh ru t) ∧ Below w.heap.size w w' := by
  have HT := hide hT
  clear hT
  go_enter Tryz.func17, Tryz.ntmps17
  go_wp2_with fail
  refine (goodRing_any rh ru _).mono ?_
  rintro e w1 ⟨rfl, hb1⟩
  obtain ⟨K1, K2, K3, hs1⟩ := three1 hb1
  have KR := hide K1
  have KT := hide K2
  have KZ := hide K3
  have hs1' : w.heap.size < w1.heap.size := by omega
  have hs1'' : w.heap.size + 1 < w1.heap.size := by omega
  have HB1 := hide (bthen (bthen (bthen (below1 _ _) (below1 _ _)) (below1 _ _)) hb1)
  clear K1 K2 K3 hb1
  obtain ⟨⟨r0, r1'⟩, _⟩ := box2 KR.out
  obtain ⟨⟨y0, y1⟩, f0, f1⟩ := box2 KZ.out
  obtain ⟨⟨x0, x1, x2, x3, x4, x5, x6, x7, x8, x9⟩, _⟩ := box10 KT.out
  cases hg : goodR rh ru with
  | false =>
    have he : sealE rh ru t = 2 := by rw [sealE, if_pos (.inl hg)]
    have HH : Hid (sealE rh ru t = 2 ∧ sealH rh ru t = rh ∧ sealU rh ru t = ru ∧ commitS rh ru t = []) := by simp [Hid, sealH, sealU, commitS, he]
    clear he
    go_wp2
    refine bodyPost_ret (v := .tuple #[.agg #[.int .i64 rh, .int .i64 ru], .slice none 0 0, .int .i64 2]) (by simp [results, Tryz.results17, go_sem, y0, y1]) rfl ⟨none, 0, by rw [HH.out.1, HH.out.2.1, HH.out.2.2.1, HH.out.2.2.2]; rfl, .inl HH.out.2.2.2, ?_⟩
    repeat refine Below.setCell ?_ (by simp; try omega) _
    exact HB1.out
  | true =>
    have HG := hide hg
    clear hg
    go_wp2_with fail
    refine (goodTxn_any _ t _ (HT.out.below HB1.out) r1 r2).mono ?_
    rintro e w2 ⟨rfl, hb2⟩
    replace KR := hide (boxKeep hb2 hs1' KR.out)
    replace KT := hide (boxKeep hb2 hs1'' KT.out)
    replace KZ := hide (boxKeep hb2 hs1 KZ.out)
    have HB2 := hide (bthen HB1.out hb2)
    have hs2 := Nat.lt_of_lt_of_le hs1 hb2.size
    have hs2' : w.heap.size < w2.heap.size := by omega
    have hs2'' : w.heap.size + 1 < w2.heap.size := by omega
    clear hb2 r0 r1' y0 y1 f0 f1 x0 x1 x2 x3 x4 x5 x6 x7 x8 x9
    obtain ⟨⟨r0, r1'⟩, _⟩ := box2 KR.out
    obtain ⟨⟨y0, y1⟩, f0, f1⟩ := box2 KZ.out
    obtain ⟨⟨x0, x1, x2, x3, x4, x5, x6, x7, x8, x9⟩, _⟩ := box10 KT.out
    cases hx : goodX t with
    | false =>
      have he : sealE rh ru t = 2 := by rw [sealE, if_pos (.inr (.inl hx))]
      have HH : Hid (sealE rh ru t = 2 ∧ sealH rh ru t = rh ∧ sealU rh ru t = ru ∧ commitS rh ru t = []) := by simp [Hid, sealH, sealU, commitS, he]
      clear he
      go_wp2
      refine bodyPost_ret (v := .tuple #[.agg #[.int .i64 rh, .int .i64 ru], .slice none 0 0, .int .i64 2]) (by simp [results, Tryz.results17, go_sem, y0, y1]) rfl ⟨none, 0, by rw [HH.out.1, HH.out.2.1, HH.out.2.2.1, HH.out.2.2.2]; rfl, .inl HH.out.2.2.2, ?_⟩
      repeat refine Below.setCell ?_ (by simp; try omega) _
      exact HB2.out
    | true =>
      have HXG := hide hx
      clear hx
      go_wp2_with fail
      refine (openOf_any _ t _ (HT.out.below HB2.out)).mono ?_
      rintro e w3 ⟨rfl, hb3⟩
      replace KR := hide (boxKeep hb3 hs2' KR.out)
      replace KT := hide (boxKeep hb3 hs2'' KT.out)
      replace KZ := hide (boxKeep hb3 hs2 KZ.out)
      have HB3 := hide (bthen HB2.out hb3)
      have hs3 := Nat.lt_of_lt_of_le hs2 hb3.size
      have hs3' : w.heap.size < w3.heap.size := by omega
      have hs3'' : w.heap.size + 1 < w3.heap.size := by omega
      clear hb3 r0 r1' y0 y1 f0 f1 x0 x1 x2 x3 x4 x5 x6 x7 x8 x9
      obtain ⟨⟨r0, r1'⟩, _⟩ := box2 KR.out
      obtain ⟨⟨y0, y1⟩, f0, f1⟩ := box2 KZ.out
      obtain ⟨⟨x0, x1, x2, x3, x4, x5, x6, x7, x8, x9⟩, _⟩ := box10 KT.out
      cases ho : openB t with
      | true =>
        have he : sealE rh ru t = 2 := by rw [sealE, if_pos (.inr (.inr ho))]
        have HH : Hid (sealE rh ru t = 2 ∧ sealH rh ru t = rh ∧ sealU rh ru t = ru ∧ commitS rh ru t = []) := by simp [Hid, sealH, sealU, commitS, he]
        clear he
        go_wp2
        refine bodyPost_ret (v := .tuple #[.agg #[.int .i64 rh, .int .i64 ru], .slice none 0 0, .int .i64 2]) (by simp [results, Tryz.results17, go_sem, y0, y1]) rfl ⟨none, 0, by rw [HH.out.1, HH.out.2.1, HH.out.2.2.1, HH.out.2.2.2]; rfl, .inl HH.out.2.2.2, ?_⟩
        repeat refine Below.setCell ?_ (by simp; try omega) _
        exact HB3.out
      | false =>
        have hsm := good_small HXG.out
        have hlb := logB_length t hsm.1 hsm.2.2
        have HE : Hid (sealE rh ru t = takeE rh ru (needN t.info.length t.rev.length)) := by
          rw [Hid, sealE, if_neg]
          rw [HG.out, HXG.out, ho]; simp
        have HLB : Hid (((logB t).length : Int) + 1 = needN t.info.length t.rev.length) := hlb
        have hnl : (logB t).length ≤ 20 := by
          have h2 : needN (t.info.length : Int) (t.rev.length : Int) ≤ 20 := by unfold needN; split <;> (try split) <;> (try split) <;> (try split) <;> omega
          omega
        clear hlb ho
        go_wp2_with fail
        refine (blocksOf_any t a0 a2 a4 a1 a3 a5 _ (HT.out.below HB3.out) HXG.out hci).mono ?_
        rintro e w4 ⟨bv, rfl, hOb, hb4⟩
        replace KR := hide (boxKeep hb4 hs3' KR.out)
        replace KT := hide (boxKeep hb4 hs3'' KT.out)
        replace KZ := hide (boxKeep hb4 hs3 KZ.out)
        have HB4 := hide (bthen HB3.out hb4)
        have hs4 := Nat.lt_of_lt_of_le hs3 hb4.size
        have hs4' : w.heap.size < w4.heap.size := by omega
        have hs4'' : w.heap.size + 1 < w4.heap.size := by omega
        clear hb4 r0 r1' y0 y1 f0 f1 x0 x1 x2 x3 x4 x5 x6 x7 x8 x9
        obtain ⟨⟨r0, r1'⟩, _⟩ := box2 KR.out
        obtain ⟨⟨y0, y1⟩, f0, f1⟩ := box2 KZ.out
        obtain ⟨⟨x0, x1, x2, x3, x4, x5, x6, x7, x8, x9⟩, _⟩ := box10 KT.out
        have HOB := hide hOb
        obtain ⟨ba, bc, rfl, hbS, _⟩ := SegX.of_owns hOb
        have HBS := hide hbS
        have hbl : (logB t ++ [lastB t]).length = (logB t).length + 1 := by rw [List.length_append]; rfl
        rw [hbl]
        clear hOb hbS
        have HLN2 : Hid (sealE rh ru t = takeE rh ru (((logB t).length : Int) + 1)) := by rw [Hid, HE.out, ← HLB.out]
        have HSH : Hid (sealE rh ru t = 0 → sealH rh ru t = takeH rh ru (((logB t).length : Int) + 1) ∧ sealU rh ru t = takeU rh ru (((logB t).length : Int) + 1) ∧ sealP rh ru t = takeL rh ru (((logB t).length : Int) + 1)) := by
          intro e0
          rw [sealH, sealU, sealP, if_pos e0, if_pos e0, if_pos e0, ← HLB.out]
          exact ⟨rfl, rfl, rfl⟩
        go_wp2_with fail
        refine (takeRing_any rh ru (((logB t).length : Int) + 1) _).mono ?_
        rintro e w5 ⟨pa, pc, rfl, hPS, hb5⟩
        replace HBS := hide (HBS.out.below hb5)
        replace KR := hide (boxKeep hb5 hs4' KR.out)
        replace KT := hide (boxKeep hb5 hs4'' KT.out)
        replace KZ := hide (boxKeep hb5 hs4 KZ.out)
        have HB5 := hide (bthen HB4.out hb5)
        have hs5 := Nat.lt_of_lt_of_le hs4 hb5.size
        have hs5' : w.heap.size < w5.heap.size := by omega
        have hs5'' : w.heap.size + 1 < w5.heap.size := by omega
        clear hb5 r0 r1' y0 y1 f0 f1 x0 x1 x2 x3 x4 x5 x6 x7 x8 x9
        obtain ⟨⟨r0, r1'⟩, _⟩ := box2 KR.out
        obtain ⟨⟨y0, y1⟩, f0, f1⟩ := box2 KZ.out
        obtain ⟨⟨x0, x1, x2, x3, x4, x5, x6, x7, x8, x9⟩, _⟩ := box10 KT.out
        by_cases he : sealE rh ru t = 0
        · have hte : takeE rh ru (((logB t).length : Int) + 1) = 0 := by rw [← HLN2.out]; exact he
          obtain ⟨e1, e2, e3⟩ := HSH.out he
          have hpf := sealP_facts he
          rw [hte, ← e1, ← e2, ← e3]
          rw [← e3] at hPS
          have HPS := hide hPS.1
          have HC : Hid (commitS rh ru t = (homeS t.data ++ putS (sealP rh ru t) (logB t) ++ (if 0 < t.rev.length + t.info.length then [flushS] else [])) ++ [writeS (1 + (sealP rh ru t).getD (logB t).length 0) (lastB t)] ++ [flushS]) := by rw [Hid, commitS, if_pos he]
          have HPL := hide hpf.2.2.1
          have HPR := hide hpf.2.2.2
          have HE0 := hide he
          have hnz : (0 < t.rev.length + t.info.length) ↔ 0 < (logB t).length := by
            have h9 := HLB.out
            unfold needN at h9
            split at h9 <;> (try split at h9) <;> (try split at h9) <;> (try split at h9) <;> omega
          have HZ := hide hnz
          have HDT : Hid (SegW w a2 t.data) := by
            obtain ⟨b0, b1, b2, b3, b4, b5, e, hM, hD, hR, n1, n2, n3⟩ := HT.out
            simp only [Value.agg.injEq] at e
            injection e with e
            simp only [List.cons.injEq, Value.slice.injEq, true_and, and_true] at e
            obtain ⟨⟨rfl, rfl⟩, ⟨rfl, rfl⟩, rfl, rfl⟩ := e
            exact hD
          clear hPS hpf he e1 e2 e3 hte hnz HSH HLN2 HE HLB hci r1 r2 HG HT HB1 HB2 HB3
          generalize sealP rh ru t = PS at *
          generalize hsH : sealH rh ru t = sH at *
          generalize hsU : sealU rh ru t = sU at *
          have HSH := hide hsH
          have HSU := hide hsU
          clear hsH hsU
          go_wp2
          obtain ⟨W0, hW0⟩ : ∃ W0, W0 = w5.alloc (.cells #[.int .i64 sH, .int .i64 sU] 41) := ⟨_, rfl⟩
          have KN : Hid (W0.heap[w5.heap.size]? = some (.cells #[.int .i64 sH, .int .i64 sU] 41 (0, 0))) := by rw [hW0]; exact heap_alloc_new w5 _
          have hb0 : Below w5.heap.size w5 W0 := by rw [hW0]; exact below1 _ _
          have hs0 : w5.heap.size < W0.heap.size := by rw [hW0]; simp
          have HB0 := hide (bthen HB5.out hb0)
          have HP0 := hide (HPS.out.below hb0)
          have HS0 := hide (HBS.out.below hb0)
          rw [← hW0]
          replace KR := hide (boxKeep hb0 hs5' KR.out)
          replace KT := hide (boxKeep hb0 hs5'' KT.out)
          replace KZ := hide (boxKeep hb0 hs5 KZ.out)
          clear hW0 hb0 HPS HBS x0 x1 x2 x3 x4 x5 x6 x7 x8 x9 y0 y1 f0 f1 r0 r1'
          go_loopw [11, 46] (fun s i wr => ∃ k : Nat, k ≤ t.data.length ∧ i = .int .i64 k ∧ Hid (OwnSt wr W0.heap.size s (homeM (t.data.take k))) ∧ Hid (Below W0.heap.size W0 wr)) (fun _ i _ => t.data.length - (intOf i).toNat)
          case atStart => exact ⟨0, Nat.zero_le _, rfl, World.ownsRow_nil _ _ _ _, Below.refl _ _⟩
          case round =>
            obtain ⟨k, hk, rfl, hO, hB⟩ := hrel
            have h7s := hB.out.size
            by_cases hql : k < t.data.length
            · have hql2 : (k : Int) < (t.data.length : Int) := by omega
              obtain ⟨b', off', e', hbl', hcc⟩ := (HDT.out.below HB0.out).resolve_left (by intro e; rw [e] at hql; simp at hql)
              subst e'
              obtain ⟨g1, g2⟩ := hcc k hql
              obtain ⟨x, hx⟩ : ∃ x, x = t.data.getD k (0, ByteArray.empty) := ⟨_, rfl⟩
              rw [← hx] at g1 g2
              have HX : t.data[k]? = some x := by rw [hx]; exact getD_at _ _ _ hql
              have HT2 := hide (homeM_snoc HX)
              have hxr : 0 ≤ x.1 ∧ x.1 ≤ 11 := ((rises_iff _).1 ((goodX_iff t).1 HXG.out).2.2.1.2.1).1 x.1 (List.mem_map.2 ⟨x, List.mem_of_getElem? HX, rfl⟩)
              replace g1 := cellKeep hB.out hbl' g1
              replace g2 := cellKeep hB.out hbl' g2
              have hq2 : (homeM (t.data.take k)).length ≤ 300 := by rw [homeM_length, List.length_take]; omega
              clear hx HX hcc
              obtain ⟨n, s⟩ := x
              obtain ⟨hx1, hx2⟩ : 0 ≤ n ∧ n ≤ 11 := hxr
              generalize homeM (t.data.take k) = q7 at *
              obtain ⟨sa, sc, rfl, _, _⟩ := SegSt.of_owns hO.out
              go_wp2_with (at_builtin; refine wpList_appSt rfl _ _ rfl W0.heap.size _ q7 rfl (owns_keep (owns_keep hO.out (below1 _ _)) (below1 _ _)) (wr.heap.size + 1) (writeS (25 + n) s) rfl (by simp [go_sem, writeS]) (by simp [go_sem, writeS]) (by simp [go_sem, writeS]) (by omega) (by simp; omega) ?_)
              intro v8 w8 hown8 hg8
              have hB8 : Below W0.heap.size W0 w8 := ((hB.out.alloc hB.out.size _).alloc (by simp; omega) _).grown hg8 (by simp; omega) (fun j' hj' => (World.ownsRow.lt hO.out j' hj').1)
              clear hg8 g1 g2
              go_wp2
              go_roundw
              case rel => exact ⟨k + 1, by omega, by go_num, by rw [HT2.out]; exact hown8, hB8⟩
              case measure => simp [intOf]; omega
            · have hql2 : ¬ ((k : Int) < (t.data.length : Int)) := by omega
              have e : k = t.data.length := by omega
              subst e
              rw [List.take_length] at hO
              obtain ⟨⟨x0, x1, x2, x3, x4, x5, x6, x7, x8, x9⟩, _⟩ := box10 (boxKeep hB.out (by omega) KT.out)
              obtain ⟨sa, sc, rfl, _, _⟩ := SegSt.of_owns hO.out
              go_upto_if 63 with fail
              go_cut [11] from 43 to 67 (fun s wx => Hid (OwnSt wx W0.heap.size s (homeS t.data)) ∧ Hid (Below W0.heap.size W0 wx))
              case first =>
                have hl7 : (homeM t.data).length ≤ 300 := by rw [homeM_length]; omega
                by_cases h0 : t.data.length = 0
                · have h0' : ¬ ((0 : Int) < (t.data.length : Int)) := by omega
                  have HD0 : Hid (homeS t.data = homeM t.data) := by rw [Hid, homeS, if_pos h0, List.append_nil]
                  clear h0
                  generalize homeM t.data = q7 at *
                  go_wp2_with fail
                  go_meet
                  exact ⟨by rw [HD0.out]; exact hO.out, hB.out⟩
                · have h0' : (0 : Int) < (t.data.length : Int) := by omega
                  have HD0 : Hid (homeS t.data = homeM t.data ++ [flushS]) := by rw [Hid, homeS, if_neg h0]
                  clear h0
                  generalize homeM t.data = q7 at *
                  go_wp2_with (at_builtin; refine wpList_appSt rfl _ _ rfl W0.heap.size _ q7 rfl (owns_keep hO.out (below1 _ _)) wr.heap.size flushS rfl (by simp [go_sem, flushS]) (by simp [go_sem, flushS]) (by simp [go_sem, flushS]) (by omega) (by simp; omega) ?_)
                  intro v8 w8 hown8 hg8
                  have hB8 : Below W0.heap.size W0 w8 := (hB.out.alloc hB.out.size _).grown hg8 (by simp; omega) (fun j' hj' => (World.ownsRow.lt hO.out j' hj').1)
                  clear hg8
                  go_wp2_with fail
                  go_meet
                  exact ⟨by rw [HD0.out]; exact hown8, hB8⟩
              case rest =>
                obtain ⟨HO2, HB2⟩ := hcut
                have hl8 : (homeS t.data).length ≤ 301 := by rw [homeS, List.length_append, homeM_length]; split <;> simp <;> omega
                have HST : Hid (∀ k, k < (logB t).length → logSt t PS (k + 1) = logSt t PS k ++ [writeS (1 + PS.getD k 0) ((logB t).getD k ByteArray.empty)]) := fun k hk => logSt_succ t PS k hk (by rw [HPL.out]; omega)
                have HSL : Hid (logSt t PS ((logB t).length + 1) = logSt t PS (logB t).length ++ (if 0 < (logB t).length then [flushS] else []) ++ [writeS (1 + PS.getD (logB t).length 0) (lastB t)]) := logSt_last t PS
                have HFIN : Hid (commitS rh ru t = logSt t PS ((logB t).length + 1) ++ [flushS]) := by
                  rw [Hid, HC.out, HSL.out, logSt, if_pos (Nat.le_refl _), List.take_length]
                  by_cases hz : 0 < (logB t).length
                  · rw [if_pos hz, if_pos (HZ.out.2 hz)]
                  · rw [if_neg hz, if_neg (fun h => hz (HZ.out.1 h))]
                have HLS : Hid (∀ k, k ≤ (logB t).length + 1 → (logSt t PS k).length ≤ 400) := fun k _ => logSt_length t PS k (by omega) (by rw [HPL.out]; omega) hl8
                clear HC HZ
                go_wp2
                go_loopw [11, 70] (fun s i wr => ∃ k : Nat, k ≤ (logB t).length + 1 ∧ i = .int .i64 k ∧ Hid (OwnSt wr W0.heap.size s (logSt t PS k)) ∧ Hid (Below W0.heap.size W0 wr)) (fun _ i _ => (logB t).length + 1 - (intOf i).toNat)
                case atStart => exact ⟨0, Nat.zero_le _, rfl, by rw [logSt_zero]; exact HO2, HB2⟩
                case round =>
                  obtain ⟨k, hk, rfl, hO, hB⟩ := hrel
                  have h7s := hB.out.size
                  by_cases hql : k < (logB t).length + 1
                  · have hql2 : (k : Int) < ((logB t).length : Int) + 1 := by omega
                    obtain ⟨b1, off1, e', hbl1, hcc1⟩ := HS0.out.resolve_left (by simp)
                    subst e'
                    obtain ⟨b2, off2, e', hbl2, hcc2⟩ := HP0.out.resolve_left (by intro e; have := HPL.out; rw [e] at this; simp at this)
                    subst e'
                    have g1 := cellKeep hB.out hbl1 (hcc1 k (by rw [List.length_append]; exact hql))
                    have g20 := hcc2 k (by rw [HPL.out]; exact hql)
                    have g2 := cellKeep hB.out hbl2 (hcc2 k (by rw [HPL.out]; exact hql))
                    have hpl : k < PS.length := by rw [HPL.out]; exact hql
                    have hpl2 : (k : Int) < (PS.length : Int) := by omega
                    obtain ⟨hp1, hp2⟩ := HPR.out k
                    have hl9 := HLS.out k hk
                    obtain ⟨sa, sc, rfl, _, _⟩ := SegSt.of_owns hO.out
                    by_cases hkl : k < (logB t).length
                    · have hne1 : ¬ (k : Int) = ((logB t).length : Int) := by omega
                      have hne2 : ¬ k = (logB t).length := by omega
                      have hst := HST.out k hkl
                      rw [List.getD, List.getElem?_append_left hkl] at g1
                      change _ = some (Value.string ((logB t).getD k ByteArray.empty)) at g1
                      have HSTK := hide hst
                      clear hst hcc1 hcc2
                      generalize (logB t).getD k ByteArray.empty = sk at *
                      generalize PS.getD k 0 = pk at *
                      generalize logSt t PS k = q7 at *
                      go_wp2_with (at_builtin; refine wpList_appSt rfl _ _ rfl W0.heap.size _ q7 rfl (owns_keep hO.out (below1 _ _)) wr.heap.size (writeS (1 + pk) sk) rfl (by simp [go_sem, writeS]) (by simp [go_sem, writeS]) (by simp [go_sem, writeS]) (by omega) (by simp; omega) ?_)
                      intro v8 w8 hown8 hg8
                      have hB8 : Below W0.heap.size W0 w8 := (hB.out.alloc hB.out.size _).grown hg8 (by simp; omega) (fun j' hj' => (World.ownsRow.lt hO.out j' hj').1)
                      clear hg8 g1 g2
                      go_wp2
                      go_roundw
                      case rel => exact ⟨k + 1, by omega, by go_num, by rw [HSTK.out]; exact hown8, hB8⟩
                      case measure => simp [intOf]; omega
                    · have hke : k = (logB t).length := by omega
                      rw [List.getD, List.getElem?_append_right (by omega), show k - (logB t).length = 0 from by omega] at g1
                      change _ = some (Value.string (lastB t)) at g1
                      have HSTK := HSL
                      clear hcc1 hcc2 hkl hql hql2 hk
                      subst hke
                      generalize lastB t = sk at *
                      generalize PS.getD (logB t).length 0 = pk at *
                      by_cases h0 : 0 < (logB t).length
                      · have h0' : (0 : Int) < ((logB t).length : Int) := by omega
                        replace HSTK : Hid (logSt t PS ((logB t).length + 1) = logSt t PS (logB t).length ++ [flushS] ++ [writeS (1 + pk) sk]) := by rw [Hid, HSTK.out, if_pos h0]
                        generalize logSt t PS (logB t).length = q7 at *
                        go_wp2_with (at_builtin; refine wpList_appSt rfl _ _ rfl W0.heap.size _ q7 rfl (owns_keep hO.out (below1 _ _)) wr.heap.size (flushS) rfl (by simp [go_sem, flushS]) (by simp [go_sem, flushS]) (by simp [go_sem, flushS]) (by omega) (by simp; omega) ?_)
                        intro v8 w8 hown8 hg8
                        have hB8 : Below W0.heap.size W0 w8 := (hB.out.alloc hB.out.size _).grown hg8 (by simp; omega) (fun j' hj' => (World.ownsRow.lt hO.out j' hj').1)
                        have HO8 := hide hown8
                        have HB8 := hide hB8
                        have h8s := hB8.size
                        have g3 := cellKeep hB8 hbl2 g20
                        have hl10 : (q7 ++ [flushS]).length ≤ 401 := by rw [List.length_append]; simp only [List.length_cons, List.length_nil]; omega
                        clear hg8 g1 g2 hown8 hB8
                        obtain ⟨sa2, sc2, rfl, _, _⟩ := SegSt.of_owns HO8.out
                        generalize q7 ++ [flushS] = q8 at *
                        go_wp2_with (at_builtin; refine wpList_appSt rfl _ _ rfl W0.heap.size _ q8 rfl (owns_keep HO8.out (below1 _ _)) w8.heap.size (writeS (1 + pk) sk) rfl (by simp [go_sem, writeS]) (by simp [go_sem, writeS]) (by simp [go_sem, writeS]) (by omega) (by simp; omega) ?_)
                        intro v9 w9 hown9 hg9
                        have hB9 : Below W0.heap.size W0 w9 := (HB8.out.alloc HB8.out.size _).grown hg9 (by simp; omega) (fun j' hj' => (World.ownsRow.lt HO8.out j' hj').1)
                        clear hg9 g3
                        go_wp2
                        go_roundw
                        case rel => exact ⟨(logB t).length + 1, by omega, by go_num, by rw [HSTK.out]; exact hown9, hB9⟩
                        case measure => simp [intOf]
                      · have h0' : ¬ (0 : Int) < ((logB t).length : Int) := by omega
                        replace HSTK : Hid (logSt t PS ((logB t).length + 1) = logSt t PS (logB t).length ++ [writeS (1 + pk) sk]) := by rw [Hid, HSTK.out, if_neg h0, List.append_nil]
                        generalize logSt t PS (logB t).length = q7 at *
                        go_wp2_with (at_builtin; refine wpList_appSt rfl _ _ rfl W0.heap.size _ q7 rfl (owns_keep hO.out (below1 _ _)) wr.heap.size (writeS (1 + pk) sk) rfl (by simp [go_sem, writeS]) (by simp [go_sem, writeS]) (by simp [go_sem, writeS]) (by omega) (by simp; omega) ?_)
                        intro v8 w8 hown8 hg8
                        have hB8 : Below W0.heap.size W0 w8 := (hB.out.alloc hB.out.size _).grown hg8 (by simp; omega) (fun j' hj' => (World.ownsRow.lt hO.out j' hj').1)
                        clear hg8 g1 g2
                        go_wp2
                        go_roundw
                        case rel => exact ⟨(logB t).length + 1, by omega, by go_num, by rw [HSTK.out]; exact hown8, hB8⟩
                        case measure => simp [intOf]
                  · have hql2 : ¬ ((k : Int) < ((logB t).length : Int) + 1) := by omega
                    have e : k = (logB t).length + 1 := by omega
                    subst e
                    obtain ⟨sa, sc, rfl, _, _⟩ := SegSt.of_owns hO.out
                    obtain ⟨⟨n0, n1⟩, _⟩ := box2 (boxKeep hB.out hs0 KN.out)
                    obtain ⟨⟨y0, y1⟩, f0, f1⟩ := box2 (boxKeep hB.out (by omega) KZ.out)
                    have hl9 := HLS.out _ (Nat.le_refl _)
                    have HFN : Hid (commitS rh ru t = logSt t PS ((logB t).length + 1) ++ [flushS]) := HFIN
                    generalize logSt t PS ((logB t).length + 1) = q7 at *
                    have l8a : w5.heap.size < wr.heap.size := by omega
                    have l8b : w.heap.size + 1 + 1 < wr.heap.size := by omega
                    go_wp2
                    go_region_law (refine step_appSt rfl (.tmp 100) (.tmp 102) rfl W0.heap.size (.slice sa q7.length sc) q7 (by simp [Act.eval]) (by first | exact owns_keep hO.out ((below1 _ _).drew) | exact owns_keep (owns_keep hO.out ((Below.refl _ _).drew)) (below1 _ _)) wr.heap.size flushS (by first | (simp [Act.eval]; done)) (by first | (simp [go_sem, flushS]; done) | (show (wr.alloc _).cell? _ = _; simp [go_sem, flushS]; done) | (show wr.drew.cell? _ = _; simp [go_sem, flushS]; done)) (by first | (simp [go_sem, flushS]; done) | (show (wr.alloc _).cell? _ = _; simp [go_sem, flushS]; done) | (show wr.drew.cell? _ = _; simp [go_sem, flushS]; done)) (by first | (simp [go_sem, flushS]; done) | (show (wr.alloc _).cell? _ = _; simp [go_sem, flushS]; done) | (show wr.drew.cell? _ = _; simp [go_sem, flushS]; done)) (by omega) (by first | (simp; omega) | (show _ ≤ (wr.alloc _).heap.size; simp; omega)) ?_; intro v' w9 hown' hg'; have hB9 : Below W0.heap.size W0 w9 := (by first | exact grownDrew hB.out hO.out hg' | exact grownDrew2 hB.out hO.out hg'); (obtain ⟨⟨z0, z1⟩, e0, e1⟩ := box2 (boxKeep hB9 (Nat.lt_trans hs5 hs0) KZ.out)); have h9s := hB9.size; (obtain ⟨⟨q0, q1⟩, _⟩ := box2 (boxKeep hB9 hs0 KN.out)); have l9a : w5.heap.size < w9.heap.size := (by omega); have l9b : w.heap.size + 1 + 1 < w9.heap.size := (by omega); (obtain ⟨a5, c5, rfl, _, _⟩ := SegSt.of_owns hown'))
                    all_goals
                      have hO9 := ownsRow_setCell_below (ownsRow_setCell_below hown' (a := ⟨w.heap.size + 1 + 1, 0, none⟩) (by simp; omega) (.int .i64 sH)) (a := ⟨w.heap.size + 1 + 1, 1, none⟩) (by simp; omega) (.int .i64 sU)
                      obtain ⟨a6, c6, e6, hseg, _⟩ := SegSt.of_owns (l := q7 ++ [flushS]) hO9
                      cases e6
                      go_wp2
                      refine bodyPost_ret (v := .tuple #[.agg #[.int .i64 sH, .int .i64 sU], .slice a5 (q7.length + 1) c5, .int .i64 0]) (by simp [results, Tryz.results17, go_sem, z0, z1]) rfl ⟨a5, c5, by rw [HSH.out, HSU.out, HE0.out, HFN.out, List.length_append]; rfl, by rw [HFN.out]; exact hseg, ?_⟩
                      repeat refine Below.setCell ?_ (by simp; try omega) _
                      exact bthen HB0.out hB9
        · have hte : ¬ takeE rh ru (((logB t).length : Int) + 1) = 0 := by rw [← HLN2.out]; exact he
          have HH : Hid (takeE rh ru (((logB t).length : Int) + 1) = sealE rh ru t ∧ sealH rh ru t = rh ∧ sealU rh ru t = ru ∧ commitS rh ru t = []) := by
            refine ⟨HLN2.out.symm, ?_⟩
            simp [sealH, sealU, commitS, he]
          have hteb : (takeE rh ru (((logB t).length : Int) + 1) != 0) = true := by simpa using hte
          clear hPS hte he
          generalize takeE rh ru (((logB t).length : Int) + 1) = te at *
          generalize takeH rh ru (((logB t).length : Int) + 1) = th at *
          generalize takeU rh ru (((logB t).length : Int) + 1) = tu at *
          go_wp2
          refine bodyPost_ret (v := .tuple #[.agg #[.int .i64 rh, .int .i64 ru], .slice none 0 0, .int .i64 te]) (by simp [results, Tryz.results17, go_sem, hs5, y0, y1]) rfl ⟨none, 0, by rw [HH.out.1, HH.out.2.1, HH.out.2.2.1, HH.out.2.2.2]; rfl, .inl HH.out.2.2.2, ?_⟩
          refine Below.alloc ?_ (by simp; omega) _
          repeat refine Below.setCell ?_ (by simp; try omega) _
          exact HB5.out

end Go.Proofs.YtjnpndfpajjihabGreat
