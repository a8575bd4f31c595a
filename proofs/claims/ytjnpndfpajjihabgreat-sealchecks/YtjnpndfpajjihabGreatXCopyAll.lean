/-
  The walk of the document's own CopyTxn: the rows that it copies are the call's own.
  The walks of wastebooklaw's own good and txns.
-/
import Derived.Test.YtjnpndfpajjihabGreatXRowsAll
import Derived.Test.YtjnpndfpajjihabGreatTCopy
import Derived.Test.YtjnpndfpajjihabGreatTCounts
namespace Go.Proofs.YtjnpndfpajjihabGreat
open Go.RowKit

set_option maxHeartbeats 4000000 in
set_option maxRecDepth 100000 in
theorem copyTxn_own (v : Value) (t : Tx) (w : World) (h : IsTx w v t) (r1 : t.info.length * 24 ≤ 140737488355328) (r2 : t.data.length * 24 ≤ 140737488355328) (r3 : t.rev.length * 8 ≤ 140737488355328) :
    Calls Tryz.prog 7 #[v] w fun e w' => ∃ m d r, e = .returned (.agg #[.int .i64 t.seq, m, d, r, .bool t.h0.on, .int .i64 t.h0.left, .bool t.h1.on, .int .i64 t.h1.left, .bool t.h2.on, .int .i64 t.h2.left]) ∧ OwnR w' w.heap.size ⟨m, d, r, t⟩ ∧ Below w.heap.size w w' := by
  obtain ⟨a, c, a', c', b, d, rfl, hM, hD, hR, n1, n2, n3⟩ := h
  have HM := hide hM
  have HD := hide hD
  have HR := hide hR
  clear hM hD hR
  go_enter Tryz.func7, Tryz.ntmps7
  go_wp2
  go_region_law (first
    | (refine step_copyCO rfl _ (.tmp 4) rfl (by simp [Act.eval, Act.put]) a c t.info (by simp [Act.eval, Act.put]) (HM.out.below (bthen (below1 _ _) (below1 _ _)).drew) n1 r1 ?_; intro a2 c2 w2 HS2 hb2; have hs2 : w.heap.size + 1 < w2.heap.size := (by have := hb2.size; simp at this; omega); have hs2' : w.heap.size < w2.heap.size := (by omega); have hk2 := (bthen ((Below.refl _ _).drew) hb2); obtain ⟨⟨x0, x1, x2, x3, x4, x5, x6, x7, x8, x9⟩, ef⟩ := box10 (two1 hk2))
    | (refine step_copyCO rfl _ (.tmp 7) rfl (by simp [Act.eval, Act.put]) a' c' t.data (by simp [Act.eval, Act.put]) (HD.out.below (bthen (bthen (below1 _ _) (below1 _ _)).drew hb2)) n2 r2 ?_; intro a3 c3 w3 HS3 hb3; have hs3 : w.heap.size + 1 < w3.heap.size := (by have := hb3.size; omega); have hs3' : w.heap.size < w3.heap.size := (by omega); have hk3 := bthen hk2 hb3; obtain ⟨⟨z0, z1, z2, z3, z4, z5, z6, z7, z8, z9⟩, df⟩ := box10 (two1 hk3))
    | (refine step_copyIO rfl _ (.tmp 10) rfl (by simp [Act.eval]) b d t.rev (by simp [Act.eval, Act.put]) (HR.out.below (bthen (bthen (bthen (below1 _ _) (below1 _ _)).drew hb2) hb3)) n3 r3 ?_; intro a4 c4 w4 HS4 hb4; have hs4 : w.heap.size + 1 < w4.heap.size := (by have := hb4.size; omega); have hs4' : w.heap.size < w4.heap.size := (by omega); have hk4 := bthen hk3 hb4; obtain ⟨⟨u0, u1, u2, u3, u4, u5, u6, u7, u8, u9⟩, gf⟩ := box10 (two1 hk4)))
  all_goals
    obtain ⟨⟨y0, y1, y2, y3, y4, y5, y6, y7, y8, y9⟩, ff⟩ := box10 (two2 hk4)
    have HK := hide hk4
    have N2 : Hid (∀ k, (Value.slice a2 t.info.length c2).ownBlock = some k → w.heap.size + 2 ≤ k) := fun k e => by have := (HS2.out.lt k e).1; first | omega | (simp at this; omega)
    have N3 : Hid (∀ k, (Value.slice a3 t.data.length c3).ownBlock = some k → w.heap.size + 2 ≤ k) := fun k e => by have := (HS3.out.lt k e).1; first | omega | (simp at this; omega)
    have N4 : Hid (∀ k, (Value.slice a4 t.rev.length c4).ownBlock = some k → w.heap.size + 2 ≤ k) := fun k e => by have := (HS4.out.lt k e).1; first | omega | (simp at this; omega)
    have T2 := hide (owns_base (owns_keep HS2.out (bthen hb3 hb4)) (show w.heap.size ≤ _ by simp; omega))
    have T3 := hide (owns_base (owns_keep HS3.out hb4) (show w.heap.size ≤ _ by omega))
    have T4 := hide (owns_base HS4.out (show w.heap.size ≤ _ by omega))
    clear hb2 hb3 hb4 hk2 hk3 hk4 HS2 HS3 HS4 x0 x1 x2 x3 x4 x5 x6 x7 x8 x9 z0 z1 z2 z3 z4 z5 z6 z7 z8 z9 ef df
    go_wp2
    refine bodyPost_ret (v := .agg #[.int .i64 t.seq, .slice a2 t.info.length c2, .slice a3 t.data.length c3, .slice a4 t.rev.length c4, .bool t.h0.on, .int .i64 t.h0.left, .bool t.h1.on, .int .i64 t.h1.left, .bool t.h2.on, .int .i64 t.h2.left]) (by simp [results, Tryz.results7, go_sem, y0, y1, y2, y3, y4, y5, y6, y7, y8, y9]) rfl ⟨_, _, _, rfl, ⟨?_, ?_, ?_⟩, ?_⟩
    · repeat refine owns_setNe ?_ (fun k e => by have := N2.out k e; simp; omega) _
      exact T2.out
    · repeat refine owns_setNe ?_ (fun k e => by have := N3.out k e; simp; omega) _
      exact T3.out
    · repeat refine owns_setNe ?_ (fun k e => by have := N4.out k e; simp; omega) _
      exact T4.out
    · have hB : Below w.heap.size w w4 := bthen (bthen (below1 _ _) (below1 _ _)) HK.out
      repeat refine Below.setCell ?_ (by simp) _
      exact hB


set_option maxHeartbeats 2000000 in
set_option maxRecDepth 100000 in
theorem allGood_any (a : Option Addr) (c : Nat) (l : List Tx) (w : World) (h : SegTx w a l) (hn : l.length ≤ maxLen) (hr : ∀ t ∈ l, Reached t) :
    Calls Tryz.prog 22 #[.slice a l.length c] w fun e w' => e = .returned (.bool (l.all goodX)) ∧ Below w.heap.size w w' := by
  unfold maxLen at hn
  have HS := hide h
  have HR := hide hr
  clear h hr
  go_enter Tryz.func22, Tryz.ntmps22
  go_wp2
  go_loopw [7] (fun i wr => ∃ k : Nat, k ≤ l.length ∧ i = .int .i64 k ∧ Hid ((l.take k).all goodX = true) ∧ Hid (Below w.heap.size w wr)) (fun i _ => l.length - (intOf i).toNat)
  case atStart => exact ⟨0, Nat.zero_le _, rfl, rfl, Below.refl _ _⟩
  case round =>
    obtain ⟨k, hk, rfl, hF, hbr⟩ := hrel
    by_cases hlt : k < l.length
    · obtain ⟨b2, off, rfl, hb, hc⟩ := HS.out.resolve_left (by intro e; rw [e] at hlt; simp at hlt)
      obtain ⟨t, ht⟩ : ∃ t, t = l.getD k txz := ⟨_, rfl⟩
      have HX : Hid (l[k]? = some t) := by rw [ht]; exact tx_at hlt
      have hcj := (hc k hlt).below hbr.out hb
      rw [← ht] at hcj
      obtain ⟨a0, c0, a1, c1, r, d, ⟨x0, x1, x2, x3, x4, x5, x6, x7, x8, x9⟩, hT⟩ := hcj
      have HT := hide hT
      have HQ := hide (HR.out t (List.mem_of_getElem? HX.out))
      have hlt' : (k : Int) < (l.length : Int) := by omega
      clear ht hc hT
      go_wp2_with fail
      refine (goodTxn_any _ t _ (HT.out.below (below1 _ _)) HQ.out.1 HQ.out.2.1).mono ?_
      rintro e w1 ⟨rfl, hb1⟩
      have HB1 := hide (bthen (bthen hbr.out (below1 _ _)) hb1)
      clear hb1 hbr HT HQ x0 x1 x2 x3 x4 x5 x6 x7 x8 x9
      cases hg : goodX t with
      | false =>
        have HE : Hid (l.all goodX = false) := by
          rw [Hid, List.all_eq_false]
          exact ⟨t, List.mem_of_getElem? HX.out, by simp [hg]⟩
        go_wp2
        go_ret
        exact ⟨by rw [HE.out]; rfl, HB1.out⟩
      | true =>
        have HE : Hid ((l.take (k + 1)).all goodX = true) := by
          rw [Hid, List.take_add_one, HX.out, List.all_append, hF.out]; simp [hg]
        go_wp2
        go_roundw
        case rel => exact ⟨k + 1, by omega, by go_num, HE, HB1⟩
        case measure => simp [intOf]; omega
    · have e : k = l.length := by omega
      subst e
      have HE : Hid (l.all goodX = true) := by have := hF.out; rw [List.take_length] at this; exact this
      go_wp2
      go_ret
      exact ⟨by rw [HE.out]; rfl, hbr.out⟩

set_option maxHeartbeats 4000000 in
set_option maxRecDepth 100000 in
theorem txns_any (a : Option Addr) (c : Nat) (l : List Tx) (w : World) (h : SegTx w a l) (hn : l.length * 128 ≤ 140737488355328) (hr : ∀ t ∈ l, Reached t) :
    Calls Tryz.prog 25 #[.slice a l.length c] w fun e w' => ∃ a2 c2, e = .returned (.slice a2 l.length c2) ∧ SegTx w' a2 l ∧ Below w.heap.size w w' := by
  have HS := hide h
  have HR := hide hr
  clear h hr
  go_enter Tryz.func25, Tryz.ntmps25
  go_wp2
  go_loopw [3, 8] (fun v i wr => ∃ (k : Nat) (q : List RX), k ≤ l.length ∧ i = .int .i64 k ∧ Hid (q.map (·.t) = l.take k) ∧ Hid (wr.ownsRow w.heap.size 28 10 v q.length (cellsX q)) ∧ Hid (∀ x ∈ q, OwnR wr w.heap.size x) ∧ Hid (Below w.heap.size w wr)) (fun _ i _ => l.length - (intOf i).toNat)
  case atStart => exact ⟨0, [], Nat.zero_le _, rfl, rfl, World.ownsRow_nil _ _ _ _, fun x hx => (by cases hx), Below.refl _ _⟩
  case round =>
    obtain ⟨k, q, hk, rfl, hF, hown, hO, hbr⟩ := hrel
    have hql : q.length = k := by have := congrArg List.length hF.out; simp at this; omega
    by_cases hlt : k < l.length
    · obtain ⟨b2, off, rfl, hb, hc⟩ := HS.out.resolve_left (by intro e; rw [e] at hlt; simp at hlt)
      obtain ⟨t, ht⟩ : ∃ t, t = l.getD k txz := ⟨_, rfl⟩
      have HX : Hid (l[k]? = some t) := by rw [ht]; exact tx_at hlt
      have hcj := (hc k hlt).below hbr.out hb
      rw [← ht] at hcj
      obtain ⟨a0, c0, a1, c1, r, d, ⟨x0, x1, x2, x3, x4, x5, x6, x7, x8, x9⟩, hT⟩ := hcj
      have HT := hide hT
      have HQ := hide (HR.out t (List.mem_of_getElem? HX.out))
      have hlt' : (k : Int) < (l.length : Int) := by omega
      have HF2 : Hid ((q.map (·.t)) ++ [t] = l.take (k + 1)) := by rw [Hid, List.take_add_one, HX.out, hF.out]; rfl
      clear ht hc hT hF
      go_wp2_with fail
      refine (copyTxn_own _ t _ (HT.out.below (below1 _ _)) HQ.out.1 HQ.out.2.1 HQ.out.2.2).mono ?_
      rintro e w1 ⟨m, d', r', rfl, hO1, hb1⟩
      have hB := bthen (below1 _ _) hb1
      have HO1 := hide (owns_keep hown.out hB)
      have HA1 : Hid (∀ x ∈ q, OwnR w1 w.heap.size x) := fun x hx => (hO.out x hx).below hB
      have HN1 : Hid (OwnR w1 w.heap.size ⟨m, d', r', t⟩) := ⟨owns_base hO1.1 (Nat.le_trans hbr.out.size (by simp)), owns_base hO1.2.1 (Nat.le_trans hbr.out.size (by simp)), owns_base hO1.2.2 (Nat.le_trans hbr.out.size (by simp))⟩
      have HB1 := hide (bthen hbr.out hB)
      obtain ⟨ma, mc, da, dc, ra, rc, e1, e2, e3, _⟩ := HN1.out.tx
      simp only at e1 e2 e3
      subst e1 e2 e3
      clear hb1 hbr hB hO hO1 hown HT HQ x0 x1 x2 x3 x4 x5 x6 x7 x8 x9
      go_wp2_with (at_builtin; refine wpList_appX rfl _ _ rfl w.heap.size _ q rfl (owns_keep HO1.out (below1 _ _)) w1.heap.size ⟨.slice ma t.info.length mc, .slice da t.data.length dc, .slice ra t.rev.length rc, t⟩ rfl (news10 (by simp [go_sem]) (by simp [go_sem]) (by simp [go_sem]) (by simp [go_sem]) (by simp [go_sem]) (by simp [go_sem]) (by simp [go_sem]) (by simp [go_sem]) (by simp [go_sem]) (by simp [go_sem])) HN1.out.one (by omega) (Nat.le_trans HB1.out.size (by simp)) ?_)
      intro v' w' hown' hg'
      have hB' : Below w.heap.size w w' := (HB1.out.alloc HB1.out.size _).grown hg' (Nat.le_trans HB1.out.size (by simp)) (fun j hj => (HO1.out.lt j hj).1)
      have HO2 : Hid (∀ x ∈ q ++ [(⟨.slice ma t.info.length mc, .slice da t.data.length dc, .slice ra t.rev.length rc, t⟩ : RX)], OwnR w' w.heap.size x) := by
        intro x hx
        have hx1 : OwnR w1 w.heap.size x := by
          rcases List.mem_append.1 hx with h | h
          · exact HA1.out x h
          · rw [List.mem_singleton.1 h]; exact HN1.out
        exact (hx1.below (below1 _ _)).grown (owns_keep HO1.out (below1 _ _)) hg'
      have HO' := hide hown'
      have HBB := hide hB'
      clear hown' hB' hg' HO1 HA1 HN1 HB1
      go_wp2
      go_roundw
      case rel => exact ⟨k + 1, q ++ [(⟨.slice ma t.info.length mc, .slice da t.data.length dc, .slice ra t.rev.length rc, t⟩ : RX)], by omega, by go_num, by rw [List.map_append]; exact HF2, by rw [show (q ++ [(⟨.slice ma t.info.length mc, .slice da t.data.length dc, .slice ra t.rev.length rc, t⟩ : RX)]).length = k + 1 from by simp [hql]]; exact HO', HO2, HBB⟩
      case measure => simp [intOf]; omega
    · have e : k = l.length := by omega
      rw [e, List.take_length] at hF
      obtain ⟨a2, c2, hv, hS, _⟩ := SegTx.of_owns hown.out hO.out
      rw [hF.out] at hv hS
      have HSS := hide hS
      subst hv
      clear hS
      go_wp2
      go_ret
      exact ⟨_, _, rfl, HSS.out, hbr.out⟩

end Go.Proofs.YtjnpndfpajjihabGreat
