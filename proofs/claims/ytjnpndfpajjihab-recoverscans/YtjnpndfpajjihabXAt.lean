/-
  The walk of the document's own UnescapeBlock.
  What the document's own txnAt answers; one copy put behind others, and where the row lies then.
  Steps of a region that draws its order, taken one by one by number: what its guard passes over, and what yields its value under the condition. Nothing of the program is proved here.
  The walk of the document's own txnAt.
-/
import Derived.Test.YtjnpndfpajjihabEscPure
import Derived.Deep.QuietTactic
import Derived.BigQuiet
import Derived.Test.YtjnpndfpajjihabXScans
import Derived.Test.YtjnpndfpajjihabMDec
import Derived.Maps.AppendAt
import Derived.Test.YtjnpndfpajjihabBase
import Derived.Deep.RegionHeld3
namespace Go.Proofs.Ytjnpndfpajjihab
open Go.RowKit

set_option maxHeartbeats 1000000 in
theorem unescape_any (s : ByteArray) (b : Bool) (w : World) (hn : s.size ≤ maxLen) :
    Calls Try.prog 151 #[.string s, .bool b] w fun e w' => e = .returned (.string (unescT s b)) ∧ w = w' := by
  unfold maxLen at hn
  go_enter Try.func151, Try.ntmps151
  cases b with
  | false =>
    go_wp2
    go_ret
    exact ⟨by simp [unescT], rfl⟩
  | true =>
    by_cases h4 : s.size < 4
    · go_wp2
      go_ret
      exact ⟨by simp [unescT, h4], rfl⟩
    · go_wp2
      go_ret
      exact ⟨by simp [unescT, h4], rfl⟩

end Go.Proofs.Ytjnpndfpajjihab

namespace Go.Proofs.Ytjnpndfpajjihab
open Go.RowKit

/-- What txnAt answers. -/
def AtPost (w w' : World) (L : List ByteArray) (seq : Int) (v : Value) (b : Int) : Prop :=
  match runT L seq 0 (txOf seq) with
  | none => b = 0 ∧ v = .agg #[.int .i64 0, .slice none 0 0, .slice none 0 0, .slice none 0 0, .bool false, .int .i64 0, .bool false, .int .i64 0, .bool false, .int .i64 0]
  | some (n, t) => b = (n : Int) ∧ ∃ m r, v = .agg #[.int .i64 seq, m, .slice none 0 0, r, .bool false, .int .i64 0, .bool false, .int .i64 0, .bool false, .int .i64 0] ∧ OwnR w' w.heap.size ⟨m, .slice none 0 0, r, t⟩ ∧ t = txW seq t.info t.rev
def AtEnd (w w' : World) (L : List ByteArray) (seq : Int) (e : Ending) : Prop := ∃ v b, e = .returned (.tuple #[v, .int .i64 b]) ∧ Below w.heap.size w w' ∧ AtPost w w' L seq v b
theorem SegT.grown {w w' : World} {a : Option Addr} {l : List (Int × Bool)} {row : Option Nat} (h : SegT w a l) (hg : w.grownBy w' row) (hn : ∀ b off, a = some ⟨b, off, none⟩ → row ≠ some b) : SegT w' a l := by
  rcases h with h | ⟨b, off, rfl, hlt, hc⟩
  · exact .inl h
  · have := hn b off rfl
    exact .inr ⟨b, off, rfl, Nat.lt_of_lt_of_le hlt hg.size, fun i hi => ⟨hg.cell (hc i hi).1 (fun e => this e.symm), hg.cell (hc i hi).2 (fun e => this e.symm)⟩⟩
/-- append of one copy onto a row of the call's own, as one step of a region that draws its order; where the new row lies. -/
theorem step_appC1a {w : World} {ops : Array Oper} {o : Oper} {a : Act} {K : Act → World → Prop} {Q : Exit → Act → World → Prop} {E : Prop} (hgd : o.guard = none) (s x : Operand)
    (ho : o.op = .call { callee := .builtin .append, args := #[s, x], argTypes := #[35, 35] })
    (base : Nat) (v : Value) (l : List (Int × ByteArray)) (hs : a.eval s = v) (hown : w.ownsRow base 91 2 v l.length (cellsC l)) (b : Nat) (y : Int × ByteArray) (hx : a.eval x = .slice (some ⟨b, 0, none⟩) 1 1)
    (h0 : w.cell? ⟨b, 0, none⟩ = some (.int .i64 y.1)) (h1 : w.cell? ⟨b, 1, none⟩ = some (.string y.2)) (h63 : l.length ≤ 1000) (hbase : base ≤ w.heap.size)
    (h : ∀ v' w', Hid (w'.ownsRow base 91 2 v' (l ++ [y]).length (cellsC (l ++ [y]))) → w.grownBy w' v.ownBlock → (v'.ownBlock = v.ownBlock ∨ v'.ownBlock = some w.heap.size) → K (a.put o.dst v') w') : if Region.wanted o (yielded ops a.tmps) = true then Oper.wp Try.prog o a w K Q else E := by
  obtain ⟨i0, hi, hz0, hz1, hz2⟩ := info_parts infoC
  have hw : Region.wanted o (yielded ops a.tmps) = true := by simp [Region.wanted, hgd]
  rw [if_pos hw]
  obtain ⟨v', w', hrun, r1, r2, _, r3⟩ := run_append_own_at (P := Try.prog) w base 35 o.type 91 i0 (.agg #[.int .i64 0, .string ⟨#[]⟩]) 2 24 Try.underlying35 hi hz0 hz1 hz2 rfl (by decide) v l.length (cellsC l) hown ⟨b, 0, none⟩ 1 1 (cellsC [y]) rfl (by
    intro j u hj
    rw [Addr.add_lit, Nat.zero_add]
    match j, hj with
    | 0, hj => simp [cellsC] at hj; subst hj; exact h0
    | 1, hj => simp [cellsC] at hj; subst hj; exact h1
    | j + 2, hj => simp [cellsC] at hj) (cellsC_one _) (by unfold maxLen; omega) (by omega) hbase
  unfold Oper.wp
  simp [execOp, ho, resolve, invoke, builtin, hs, hx, hrun, Result.andThen]
  refine h v' w' ?_ r2 r3
  rw [Hid, cellsC_append, List.length_append]
  exact r1
set_option maxRecDepth 100000 in
/-- The call of UnescapeBlock, as one step of a region that draws its order. -/
theorem step_unescB {w : World} {ops : Array Oper} {o : Oper} {a : Act} {K : Act → World → Prop} {Q : Exit → Act → World → Prop} {E : Prop} (hgd : o.guard = none) (x y : Operand)
    (ho : o.op = .call { callee := .value (.func 151), args := #[x, y], argTypes := #[9, 4] }) (s : ByteArray) (f : Bool) (hx : a.eval x = .string s) (hy : a.eval y = .bool f) (hn : s.size ≤ maxLen)
    (h : K (a.put o.dst (.string (unescT s f))) w) : if Region.wanted o (yielded ops a.tmps) = true then Oper.wp Try.prog o a w K Q else E := by
  have hw : Region.wanted o (yielded ops a.tmps) = true := by simp [Region.wanted, hgd]
  rw [if_pos hw]
  have hf : a.eval (.func 151) = .func (.func 151) #[] #[] := rfl
  unfold Oper.wp
  simp [execOp, ho, resolve, invoke, hf, hx, hy, Result.andThen]
  refine (unescape_any s f w hn).mono ?_
  rintro e w' ⟨rfl, rfl⟩
  exact h

end Go.Proofs.Ytjnpndfpajjihab

namespace Go.Proofs.Ytjnpndfpajjihab
open Go.RowKit

section
variable {P : Program} {ops : Array Oper} {Q : Exit → Act → World → Prop} {md : Region.Mode} {S : World → Prop}

/-- An operation that its guard passes over comes first. -/
theorem held_skip (i : Nat) (d : Tmp) {fuel : Nat} {listed : Array Bool} {a : Act} {w : World}
    (hs : Region.noSelect ops = true) (hf : Region.free md ops listed i = true) (hr : (Region.ready md ops listed).contains i = true)
    (hw : (ops[i]?).map (fun o => (o.dst, Region.wanted o (yielded ops a.tmps))) = some (some d, false))
    (hQ : ∀ c a w, Q (.panic c) (a.put (some d) undef) w → Q (.panic c) a w) (hS : S w)
    (h : wpAnyH P md ops Q S fuel (listed.setIfInBounds i true) (a.put (some d) undef) w) : wpAnyH P md ops Q S (fuel + 1) listed a w := by
  obtain ⟨o, ho, he⟩ := Option.map_eq_some_iff.1 hw
  simp only [Prod.mk.injEq] at he
  obtain ⟨hd, hn⟩ := he
  refine wpAnyH_take (i := i) (oi := o) (v := undef) ho hs hf hr ?_ (Or.inr ⟨hn, rfl⟩) hS ?_
  · rw [hd]; exact hQ
  · rw [hd]; exact h

/-- An operation that yields its value under the condition comes first. -/
theorem held_take (i : Nat) (o : Oper) (d : Tmp) (v : Value) {fuel : Nat} {listed : Array Bool} {a : Act} {w : World}
    (hs : Region.noSelect ops = true) (hf : Region.free md ops listed i = true) (hr : (Region.ready md ops listed).contains i = true)
    (ho : ops[i]? = some o) (hd : o.dst = some d) (hw : Region.wanted o (yielded ops a.tmps) = true)
    (hy : ∀ w, S w → (execOp a.eval o).run P w = .ok (.value v) w)
    (hQ : ∀ c a w, Q (.panic c) (a.put (some d) v) w → Q (.panic c) a w) (hS : S w)
    (h : wpAnyH P md ops Q S fuel (listed.setIfInBounds i true) (a.put (some d) v) w) : wpAnyH P md ops Q S (fuel + 1) listed a w := by
  refine wpAnyH_take (i := i) (oi := o) (v := v) ho hs hf hr ?_ (Or.inl ⟨hw, hy⟩) hS ?_
  · rw [hd]; exact hQ
  · rw [hd]; exact h

end
end Go.Proofs.Ytjnpndfpajjihab

namespace Go.Proofs.Ytjnpndfpajjihab
open Go.RowKit

set_option maxHeartbeats 8000000 in
set_option maxRecDepth 100000 in
theorem txnAt_any (la : Option Addr) (lc : Nat) (L : List ByteArray) (seq : Int) (w : World) (hS : SegS w la L) (hL : L.length ≤ 24) (hz : ∀ i, (L.getD i ByteArray.empty).size ≤ maxLen) :
    Calls Try.prog 99 #[.slice la L.length lc, .int .i64 seq] w fun e w' => AtEnd w w' L seq e := by
  have HS := hide hS
  have HZ := hide hz
  clear hS hz
  go_enter Try.func99, Try.ntmps99
  go_wp2
  go_loopw [7] (fun iv wr => ∃ (j : Nat) (info : List (Int × ByteArray)) (rev : List Int) (ma : Option Addr) (mc : Nat) (ra : Option Addr) (rc : Nat), iv = .int .i64 (j : Int) ∧ j ≤ L.length ∧ info.length ≤ j ∧ rev.length ≤ 20 * j ∧ Hid (runT L seq 0 (txOf seq) = runT L seq j (txW seq info rev)) ∧ Hid (Below w.heap.size w wr) ∧ w.heap.size + 1 < wr.heap.size ∧
      Hid (wr.heap[w.heap.size]? = some (.cells #[.int .i64 0, .slice none 0 0, .slice none 0 0, .slice none 0 0, .bool false, .int .i64 0, .bool false, .int .i64 0, .bool false, .int .i64 0] 40 (0, 0))) ∧ Hid (wr.heap[w.heap.size + 1]? = some (.cells #[.int .i64 seq, .slice ma info.length mc, .slice none 0 0, .slice ra rev.length rc, .bool false, .int .i64 0, .bool false, .int .i64 0, .bool false, .int .i64 0] 40 (0, 0))) ∧ Hid (wr.ownsRow (w.heap.size + 2) 91 2 (.slice ma info.length mc) info.length (cellsC info)) ∧ Hid (wr.ownsRow (w.heap.size + 2) 3 1 (.slice ra rev.length rc) rev.length (cellsI rev)))
    (fun iv _ => L.length - (intOf iv).toNat)
  case atStart => exact ⟨0, [], [], none, 0, none, 0, rfl, Nat.zero_le _, Nat.zero_le _, Nat.zero_le _, rfl, bthen (below1 _ _) (below1 _ _), by simp, two1 (Below.refl _ _), two2 (Below.refl _ _), World.ownsRow_nil _ _ _ _, World.ownsRow_nil _ _ _ _⟩
  case round =>
    obtain ⟨wo, hwo⟩ : ∃ wo, wo = wr := ⟨_, rfl⟩
    subst hwo
    obtain ⟨j, info, rev, ma, mc, ra, rc, rfl, hj, hil, hrl, HRUN, HB, hsz, KB, KT, HOM, HOR⟩ := hrel
    have hsz' : w.heap.size < wo.heap.size := by omega
    by_cases hlt : j < L.length
    · obtain ⟨lb, lo, rfl, hlb, hlc⟩ := HS.out.resolve_left (fun e => absurd hlt (by rw [e]; exact Nat.not_lt_zero _))
      have g := cellKeep HB.out hlb (hlc j hlt)
      obtain ⟨s, hs⟩ : ∃ s, s = L.getD j ByteArray.empty := ⟨_, rfl⟩
      rw [← hs] at g
      have HSS := hide hs
      clear hs
      have hlt' : (j : Int) < (L.length : Int) := by omega
      have HLC := hide hlc
      clear hlc
      go_wp2_with fail
      refine (decodeMark_new s _).mono ?_
      rintro e w1 ⟨v2, rfl, hN, hb1⟩
      obtain ⟨M, hM⟩ : ∃ M, M = stampDec s := ⟨_, rfl⟩
      rw [← hM] at hN ⊢
      obtain ⟨mk, er⟩ := M
      have HSTEP := hide (runT_step (log := L) (j := j) (mk := mk) (er := er) hlt seq (txW seq info rev) (by rw [← HSS.out]; exact hM))
      have hgm : er = 0 → goodM mk = 0 := by
        intro he
        have := dec_good (s := s) (by rw [← hM]; exact he)
        rw [← hM] at this
        exact this
      have HGM := hide hgm
      clear hM hgm HSS g
      obtain ⟨a2, c2, a3, c3, rfl, hT, hI, n1, n2, t1, t2⟩ := hN
      have hs1 := hb1.size
      have HT := hide hT
      have HI := hide hI
      have HTR : Hid (∀ b off, a2 = some ⟨b, off, none⟩ → wo.heap.size ≤ b) := t1
      have KB1 := hide (boxKeep hb1 hsz' KB.out)
      have KT1 := hide (boxKeep hb1 hsz KT.out)
      have HB1 := hide (bthen HB.out hb1)
      have HM1 := hide (owns_keep HOM.out hb1)
      have HV1 := hide (owns_keep HOR.out hb1)
      have HML : Hid (∀ k, (Value.slice ma info.length mc).ownBlock = some k → k < wo.heap.size) := fun k hk => (HOM.out.lt k hk).2
      have HVL : Hid (∀ k, (Value.slice ra rev.length rc).ownBlock = some k → k < wo.heap.size) := fun k hk => (HOR.out.lt k hk).2
      have hsz1 : w.heap.size + 1 < w1.heap.size := by omega
      have hsz1' : w.heap.size < w1.heap.size := by omega
      clear hT hI t1 t2 hb1 KB KT HB HOM HOR n1 n2
      dsimp only
      by_cases hok : er = 0 ∧ mk.seq = seq ∧ mk.kind ≠ 1
      · obtain ⟨rfl, hq, hk1⟩ := hok
        obtain ⟨hkind, hk2, hk3, hk4, hk5⟩ := good_kind (HGM.out rfl)
        have HK2 := hide hk2
        have HK3 := hide hk3
        have hq' : (mk.seq != seq) = false := by simp [hq]
        have hk1' : (mk.kind == 1) = false := by simpa using hk1
        clear hk2 hk3 HGM
        by_cases hk : mk.kind = 4
        · have HYES : Hid (runT L seq 0 (txOf seq) = some (j + 1, txW seq info rev)) := by rw [Hid, HRUN.out, HSTEP.out, if_neg (by simp [hq, hk]), if_pos hk]
          have hobv : ∀ k, (Value.slice ra rev.length rc).ownBlock = some k → w.heap.size + 2 ≤ k := fun k hk => (HV1.out.lt k hk).1
          have hobm : ∀ k, (Value.slice ma info.length mc).ownBlock = some k → w.heap.size + 2 ≤ k := fun k hk => (HM1.out.lt k hk).1
          have HOB := hide (And.intro hobm hobv)
          clear HSTEP HRUN hobv hobm HT HI HTR hk1 hk1'
          obtain ⟨⟨z0, z1, z2, z3, z4, z5, z6, z7, z8, z9⟩, zf⟩ := box10 KB1.out
          obtain ⟨⟨y0, y1, y2, y3, y4, y5, y6, y7, y8, y9⟩, yf⟩ := box10 KT1.out
          go_wp2
          clear y0 y1 y2 y3 y4 y5 y6 y7 y8 y9 yf
          obtain ⟨W, hW⟩ : ∃ W, W = (((((((((((w1.setCell ⟨w.heap.size, 0, none⟩ (.int .i64 seq)).setCell ⟨w.heap.size, 1, none⟩ (.slice ma info.length mc)).setCell ⟨w.heap.size, 2, none⟩ (.slice none 0 0)).setCell ⟨w.heap.size, 3, none⟩ (.slice ra rev.length rc)).setCell ⟨w.heap.size, 4, none⟩ (.bool false)).setCell ⟨w.heap.size, 5, none⟩ (.int .i64 0)).setCell ⟨w.heap.size, 6, none⟩ (.bool false)).setCell ⟨w.heap.size, 7, none⟩ (.int .i64 0)).setCell ⟨w.heap.size, 8, none⟩ (.bool false)).setCell ⟨w.heap.size, 9, none⟩ (.int .i64 0)).alloc (.cells #[.int .i64 4, .int .i64 seq, .int .i64 mk.pos, .slice a2 mk.tags.length c2, .slice a3 mk.blocks.length c3] 130)) := ⟨_, rfl⟩
          have hbx := stored10a KB1.out (.int .i64 seq) (.slice ma info.length mc) (.slice none 0 0) (.slice ra rev.length rc) (.bool false) (.int .i64 0) (.bool false) (.int .i64 0) (.bool false) (.int .i64 0) (.cells #[.int .i64 4, .int .i64 seq, .int .i64 mk.pos, .slice a2 mk.tags.length c2, .slice a3 mk.blocks.length c3] 130)
          rw [← hW] at hbx
          obtain ⟨⟨y0, y1, y2, y3, y4, y5, y6, y7, y8, y9⟩, _⟩ := box10 hbx
          have HW := hide hW
          rw [← hW]
          clear hW hbx z0 z1 z2 z3 z4 z5 z6 z7 z8 z9 zf
          refine bodyPost_ret (v := .tuple #[.agg #[.int .i64 seq, .slice ma info.length mc, .slice none 0 0, .slice ra rev.length rc, .bool false, .int .i64 0, .bool false, .int .i64 0, .bool false, .int .i64 0], .int .i64 ((j : Int) + 1)]) (by simp [results, Try.results99, go_sem, y0, y1, y2, y3, y4, y5, y6, y7, y8, y9]) rfl ?_
          unfold AtEnd
          refine ⟨_, _, rfl, ?_, ?_⟩
          · rw [HW.out]
            exact (((((((((((HB1.out.setCell (p := ⟨w.heap.size, 0, none⟩) (by simp) _).setCell (p := ⟨w.heap.size, 1, none⟩) (by simp) _).setCell (p := ⟨w.heap.size, 2, none⟩) (by simp) _).setCell (p := ⟨w.heap.size, 3, none⟩) (by simp) _).setCell (p := ⟨w.heap.size, 4, none⟩) (by simp) _).setCell (p := ⟨w.heap.size, 5, none⟩) (by simp) _).setCell (p := ⟨w.heap.size, 6, none⟩) (by simp) _).setCell (p := ⟨w.heap.size, 7, none⟩) (by simp) _).setCell (p := ⟨w.heap.size, 8, none⟩) (by simp) _).setCell (p := ⟨w.heap.size, 9, none⟩) (by simp) _).alloc (by simp [World.setCell]; omega) _)
          · rw [AtPost, HYES.out]
            refine ⟨by simp, _, _, rfl, ⟨?_, ?_, ?_⟩, rfl⟩
            · rw [HW.out]
              refine owns_base (owns_keep ?_ (below1 _ _)) (show w.heap.size ≤ w.heap.size + 2 by omega)
              repeat refine owns_setNe ?_ (fun k e => by have := HOB.out.1 k e; simp; omega) _
              exact HM1.out
            · exact World.ownsRow_nil _ _ _ _
            · rw [HW.out]
              refine owns_base (owns_keep ?_ (below1 _ _)) (show w.heap.size ≤ w.heap.size + 2 by omega)
              repeat refine owns_setNe ?_ (fun k e => by have := HOB.out.2 k e; simp; omega) _
              exact HV1.out
        · have hkne : (mk.kind == 4) = false := by simpa using hk
          have htl : mk.tags.length ≤ 10 := by
            by_cases h2 : mk.kind = 2
            · exact hk4 h2
            · rw [HK2.out h2]; exact Nat.zero_le _
          have hbl : mk.blocks.length ≤ 20 := by
            by_cases h3 : mk.kind = 3
            · exact hk5 h3
            · rw [HK3.out h3]; exact Nat.zero_le _
          have HST : Hid (runT L seq 0 (txOf seq) = if j + 1 + mk.tags.length ≤ L.length then runT L seq (j + 1 + mk.tags.length) (txW seq (info ++ copiesAt L (j + 1) mk.tags) (rev ++ mk.blocks)) else none) := by
            rw [Hid, HRUN.out, HSTEP.out, if_neg (by simp [hq, hk1]), if_neg hk, txW_more]
          clear HSTEP HRUN
          obtain ⟨⟨z0, z1, z2, z3, z4, z5, z6, z7, z8, z9⟩, zf⟩ := box10 KT1.out
          go_wp2_with (at_builtin; refine wpList_appIs _ (w.heap.size + 2) rfl _ _ rfl (.slice ra rev.length rc) rev rfl (owns_keep HV1.out (below1 _ _)) a3 c3 mk.blocks rfl (HI.out.below (below1 _ _)) (by omega) (by simp; omega) ?_)
          intro v3 w3 HO3 hg3
          obtain ⟨rv, hrv⟩ : ∃ rv, rv = rev ++ mk.blocks := ⟨_, rfl⟩
          have hrvl : rv.length ≤ 20 * (j + 1) := by rw [hrv, List.length_append]; omega
          replace HO3 := hide (owns_n HO3.out (show _ = rv.length by simp [hrv]))
          rw [← hrv] at HO3 HST
          clear hrv
          obtain ⟨ra3, rc3, hv3, _, _⟩ := SegI.of_owns HO3.out
          subst hv3
          have hB2 : Below w1.heap.size w1 (w1.alloc (.cells #[.int .i64 mk.kind, .int .i64 seq, .int .i64 mk.pos, .slice a2 mk.tags.length c2, .slice a3 mk.blocks.length c3] 130)) := below1 _ _
          have hob : ∀ k, (Value.slice ra rev.length rc).ownBlock = some k → w.heap.size + 2 ≤ k := fun k hk => (HV1.out.lt k hk).1
          have hs3 : w1.heap.size + 1 ≤ w3.heap.size := by have := hg3.size; simpa using this
          have KB3 : Hid (w3.heap[w.heap.size]? = _) := (hg3.block _ (by simp; omega) (fun e => by have := hob _ e.symm; omega)).trans (boxKeep hB2 hsz1' KB1.out)
          have KT3 : Hid (w3.heap[w.heap.size + 1]? = _) := (hg3.block _ (by simp; omega) (fun e => by have := hob _ e.symm; omega)).trans (boxKeep hB2 hsz1 KT1.out)
          have K83 : Hid (w3.heap[w1.heap.size]? = _) := (hg3.block _ (by simp) (fun e => by have := HVL.out _ e.symm; omega)).trans (heap_alloc_new w1 (.cells #[.int .i64 mk.kind, .int .i64 seq, .int .i64 mk.pos, .slice a2 mk.tags.length c2, .slice a3 mk.blocks.length c3] 130))
          have HB3 : Hid (Below w.heap.size w w3) := (bthen HB1.out hB2).grown hg3 (bthen HB1.out hB2).size (fun k hk => by have := hob k hk; omega)
          have HM3 := hide (owns_other (owns_keep HM1.out hB2) (owns_keep HV1.out hB2) (by decide) hg3)
          have HT3 : Hid (SegT w3 a2 mk.tags) := (HT.out.below hB2).grown hg3 (fun b off e h => by have := HTR.out b off e; have := HVL.out b h; omega)
          clear z0 z1 z2 z3 z4 z5 z6 z7 z8 z9 zf hob hg3 KB1 KT1 HB1 HM1 HV1 HT HI hB2 HVL
          obtain ⟨⟨z0, z1, z2, z3, z4, z5, z6, z7, z8, z9⟩, zf⟩ := box10 KT3.out
          obtain ⟨⟨x0, x1, x2, x3, x4⟩, _⟩ := box5 K83.out
          have hsz3 : w.heap.size + 1 < w3.heap.size := by omega
          have hsz3' : w1.heap.size < w3.heap.size := by omega
          have hne8 : w1.heap.size ≠ w.heap.size + 1 := by omega
          go_wp2
          clear z0 z1 z2 z3 z4 z5 z6 z7 z8 z9 zf x0 x1 x2 x3 x4
          obtain ⟨W4, hW4⟩ : ∃ W4, W4 = w3.setCell ⟨w.heap.size + 1, 3, none⟩ (.slice ra3 rv.length rc3) := ⟨_, rfl⟩
          have KB4 : Hid (W4.heap[w.heap.size]? = some (.cells #[.int .i64 0, .slice none 0 0, .slice none 0 0, .slice none 0 0, .bool false, .int .i64 0, .bool false, .int .i64 0, .bool false, .int .i64 0] 40 (0, 0))) := by rw [hW4]; exact (box_setNe (by simp) _).trans KB3.out
          have KT4 : Hid (W4.heap[w.heap.size + 1]? = some (.cells #[.int .i64 seq, .slice ma info.length mc, .slice none 0 0, .slice ra3 rv.length rc3, .bool false, .int .i64 0, .bool false, .int .i64 0, .bool false, .int .i64 0] 40 (0, 0))) := by rw [hW4]; exact heap_setCell_same _ _ 3 _ _ (.slice ra3 rv.length rc3) KT3.out
          have HB4 : Hid (Below w.heap.size w W4) := by rw [hW4]; exact HB3.out.setCell (by simp) _
          have HM4 : Hid (W4.ownsRow (w.heap.size + 2) 91 2 (.slice ma info.length mc) info.length (cellsC info)) := by rw [hW4]; exact owns_setNe HM3.out (fun k hk => by have := (HM3.out.lt k hk).1; simp; omega) _
          have HV4 : Hid (W4.ownsRow (w.heap.size + 2) 3 1 (.slice ra3 rv.length rc3) rv.length (cellsI rv)) := by rw [hW4]; exact owns_setNe HO3.out (fun k hk => by have := (HO3.out.lt k hk).1; simp; omega) _
          have HT4 : Hid (SegT W4 a2 mk.tags) := by rw [hW4]; exact SegT.setNe HT3.out (fun b off e => by have := HTR.out b off e; simp; omega) _
          have hs4 : W4.heap.size = w3.heap.size := by rw [hW4]; simp [World.setCell]
          rw [← hW4]
          clear hW4 KB3 KT3 HB3 HM3 HO3 HT3 K83
          go_loopw [7, 57] (fun iv kv wr => ∃ (k : Nat) (nf : List (Int × ByteArray)) (na : Option Addr) (nc : Nat), k ≤ mk.tags.length ∧ j + k < L.length ∧ iv = .int .i64 ((j + k : Nat) : Int) ∧ kv = .int .i64 (k : Int) ∧ nf.length ≤ j + k ∧ Hid (nf = info ++ copiesAt L (j + 1) (mk.tags.take k)) ∧ Hid (Below w.heap.size w wr) ∧ w3.heap.size ≤ wr.heap.size ∧
              Hid (wr.heap[w.heap.size]? = some (.cells #[.int .i64 0, .slice none 0 0, .slice none 0 0, .slice none 0 0, .bool false, .int .i64 0, .bool false, .int .i64 0, .bool false, .int .i64 0] 40 (0, 0))) ∧ Hid (wr.heap[w.heap.size + 1]? = some (.cells #[.int .i64 seq, .slice na nf.length nc, .slice none 0 0, .slice ra3 rv.length rc3, .bool false, .int .i64 0, .bool false, .int .i64 0, .bool false, .int .i64 0] 40 (0, 0))) ∧ Hid (wr.ownsRow (w.heap.size + 2) 91 2 (.slice na nf.length nc) nf.length (cellsC nf)) ∧ Hid (wr.ownsRow (w.heap.size + 2) 3 1 (.slice ra3 rv.length rc3) rv.length (cellsI rv)) ∧ Hid (SegT wr a2 mk.tags) ∧ Hid (∀ k, (Value.slice na nf.length nc).ownBlock = some k → ∀ b off, a2 = some ⟨b, off, none⟩ → k ≠ b))
            (fun _ kv _ => mk.tags.length - (intOf kv).toNat)
          case atStart => exact ⟨0, info, ma, mc, Nat.zero_le _, hlt, rfl, rfl, hil, by rw [List.take_zero]; simp [copiesAt, Hid], HB4, by omega, KB4, KT4, HM4, HV4, HT4, fun k hk b off e => by have := HML.out k hk; have := HTR.out b off e; omega⟩
          case round =>
            clear KB4 KT4 HB4 HM4 HV4 HT4 HML
            obtain ⟨k, nf, na, nc, hk9, hjk, rfl, rfl, hnl, HNF, HB, hsw, KB, KT, HOM, HOR, HTG, HNB⟩ := hrel
            have hsz5 : w.heap.size + 1 < wr.heap.size := by omega
            have hsz5' : w.heap.size < wr.heap.size := by omega
            by_cases hkl : k < mk.tags.length
            · obtain ⟨b2, off2, rfl, hb2, hc2⟩ := HTG.out.resolve_left (fun e => absurd hkl (by rw [e]; exact Nat.not_lt_zero _))
              obtain ⟨x, hx⟩ : ∃ x, x = mk.tags.getD k (0, false) := ⟨_, rfl⟩
              obtain ⟨g1, g2⟩ := hc2 k hkl
              rw [← hx] at g1 g2
              have HX : Hid (mk.tags[k]? = some x) := by rw [hx]; exact getD_at _ _ _ hkl
              have HF := hide (copiesAt_take HX.out L (j + 1))
              have hkl' : (k : Int) < (mk.tags.length : Int) := by omega
              clear hx hc2 HX
              obtain ⟨n, f⟩ := x
              have HNO0 : Hid (j + k + 1 = L.length → runT L seq 0 (txOf seq) = none) := fun h => by rw [HST.out, if_neg (by omega)]
              obtain ⟨jk, hjkn⟩ : ∃ jk, jk = j + k := ⟨_, rfl⟩
              rw [← hjkn] at hjk hnl HNO0 ⊢
              have HJK := hide hjkn
              clear hjkn
              have hwj : IntKind.i64.wrap ((jk : Int) + 1) = (jk : Int) + 1 := by rw [IntKind.wrap_i64]; omega
              by_cases hfull : jk + 1 = L.length
              · have HNO : Hid (runT L seq 0 (txOf seq) = none) := HNO0.out hfull
                have hfe : (((jk : Int) + 1) == (L.length : Int)) = true := beq_iff_eq.2 (by omega)
                clear HNO0 HST HNF HF
                obtain ⟨⟨z0, z1, z2, z3, z4, z5, z6, z7, z8, z9⟩, zf⟩ := box10 KB.out
                go_wp2
                obtain ⟨W, hW⟩ : ∃ W, W = (((((((((((wr.setCell ⟨w.heap.size, 0, none⟩ (.int .i64 0)).setCell ⟨w.heap.size, 1, none⟩ (.slice none 0 0)).setCell ⟨w.heap.size, 2, none⟩ (.slice none 0 0)).setCell ⟨w.heap.size, 3, none⟩ (.slice none 0 0)).setCell ⟨w.heap.size, 4, none⟩ (.bool false)).setCell ⟨w.heap.size, 5, none⟩ (.int .i64 0)).setCell ⟨w.heap.size, 6, none⟩ (.bool false)).setCell ⟨w.heap.size, 7, none⟩ (.int .i64 0)).setCell ⟨w.heap.size, 8, none⟩ (.bool false)).setCell ⟨w.heap.size, 9, none⟩ (.int .i64 0)).alloc (.cells #[.int .i64 n, .bool f] 202)) := ⟨_, rfl⟩
                have hbx := stored10a KB.out (.int .i64 0) (.slice none 0 0) (.slice none 0 0) (.slice none 0 0) (.bool false) (.int .i64 0) (.bool false) (.int .i64 0) (.bool false) (.int .i64 0) (.cells #[.int .i64 n, .bool f] 202)
                rw [← hW] at hbx
                obtain ⟨⟨y0, y1, y2, y3, y4, y5, y6, y7, y8, y9⟩, _⟩ := box10 hbx
                have HW := hide hW
                rw [← hW]
                clear hW hbx z0 z1 z2 z3 z4 z5 z6 z7 z8 z9 zf
                refine bodyPost_ret (v := .tuple #[.agg #[.int .i64 0, .slice none 0 0, .slice none 0 0, .slice none 0 0, .bool false, .int .i64 0, .bool false, .int .i64 0, .bool false, .int .i64 0], .int .i64 0]) (by simp [results, Try.results99, go_sem, y0, y1, y2, y3, y4, y5, y6, y7, y8, y9]) rfl ?_
                unfold AtEnd
                refine ⟨_, 0, rfl, ?_, ?_⟩
                · rw [HW.out]
                  exact (((((((((((HB.out.setCell (p := ⟨w.heap.size, 0, none⟩) (by simp) _).setCell (p := ⟨w.heap.size, 1, none⟩) (by simp) _).setCell (p := ⟨w.heap.size, 2, none⟩) (by simp) _).setCell (p := ⟨w.heap.size, 3, none⟩) (by simp) _).setCell (p := ⟨w.heap.size, 4, none⟩) (by simp) _).setCell (p := ⟨w.heap.size, 5, none⟩) (by simp) _).setCell (p := ⟨w.heap.size, 6, none⟩) (by simp) _).setCell (p := ⟨w.heap.size, 7, none⟩) (by simp) _).setCell (p := ⟨w.heap.size, 8, none⟩) (by simp) _).setCell (p := ⟨w.heap.size, 9, none⟩) (by simp) _).alloc (by simp [World.setCell]; omega) _)
                · rw [AtPost, HNO.out]
                  exact ⟨rfl, rfl⟩
              · have hfe : (((jk : Int) + 1) == (L.length : Int)) = false := beq_eq_false_iff_ne.2 (by omega)
                have hlt5 : (jk : Int) + 1 < (L.length : Int) := by omega
                have hge5 : (0 : Int) ≤ (jk : Int) + 1 := by omega
                have hN5 : ((jk : Int) + 1).toNat = jk + 1 := by omega
                obtain ⟨s2, hs2⟩ : ∃ s2, s2 = L.getD (jk + 1) ByteArray.empty := ⟨_, rfl⟩
                have g5 := cellKeep HB.out hlb (HLC.out (jk + 1) (by omega))
                rw [← hs2] at g5
                have HSZ : Hid (s2.size ≤ maxLen) := by rw [hs2]; exact HZ.out _
                have HNF2 : Hid (nf ++ [(n, unescT s2 f)] = info ++ copiesAt L (j + 1) (mk.tags.take (k + 1))) := by
                  rw [Hid, HF.out, HNF.out, List.append_assoc, hs2, HJK.out, show j + 1 + k = j + k + 1 from by omega]
                clear hs2 HF HNF HNO0
                have hnl5 : nf.length ≤ 1000 := by omega
                have hlbr : lb < wr.heap.size := Nat.lt_of_lt_of_le hlb HB.out.size
                go_wp2
                obtain ⟨w5, hw5⟩ : ∃ w5, w5 = wr.alloc (.cells #[.int .i64 n, .bool f] 202) := ⟨_, rfl⟩
                have hb5 : Below wr.heap.size wr w5 := by rw [hw5]; exact below1 _ _
                have K5 : Hid (w5.heap[wr.heap.size]? = some (.cells #[.int .i64 n, .bool f] 202 (0, 0))) := by rw [hw5]; exact heap_alloc_new wr _
                have hs5 : w5.heap.size = wr.heap.size + 1 := by rw [hw5]; simp
                rw [← hw5]
                clear hw5
                have KT5 := hide (boxKeep hb5 hsz5 KT.out)
                have KB5 := hide (boxKeep hb5 hsz5' KB.out)
                have HO5 := hide (owns_keep HOM.out hb5)
                have HR5 := hide (owns_keep HOR.out hb5)
                have HB5 := hide (bthen HB.out hb5)
                have HT5 := hide (HTG.out.below hb5)
                have G5 := hide (cellKeep hb5 hlbr g5)
                have hz6 : w.heap.size + 1 < w5.heap.size := by omega
                have hz6' : wr.heap.size < w5.heap.size := by omega
                have hz7 : lb < w5.heap.size := by omega
                have HALL : Hid (∀ w', Below w5.heap.size w5 w' → w'.cell? ⟨w.heap.size + 1, 1, none⟩ = some (.slice na nf.length nc) ∧ w'.cell? ⟨wr.heap.size, 0, none⟩ = some (.int .i64 n) ∧ w'.cell? ⟨wr.heap.size, 1, none⟩ = some (.bool f) ∧ w'.cell? ⟨lb, lo + (jk + 1), none⟩ = some (.string s2) ∧ w'.frozen? ⟨w.heap.size + 1, 1, none⟩ = false) := by
                  intro w' hb
                  obtain ⟨⟨z0, z1, _⟩, zf⟩ := box10 (boxKeep hb hz6 KT5.out)
                  obtain ⟨⟨y0, y1⟩, _⟩ := box2 (boxKeep hb hz6' K5.out)
                  exact ⟨z1, y0, y1, cellKeep hb hz7 G5.out, zf 1⟩
                clear g1 g2 g5 hb5
                have hob : ∀ k, (Value.slice na nf.length nc).ownBlock = some k → w.heap.size + 2 ≤ k ∧ k < wr.heap.size := fun k hk => ⟨(HOM.out.lt k hk).1, (HOM.out.lt k hk).2⟩
                have HS6 : Hid (∀ (V w6 : World), Below w5.heap.size w5 V → V.grownBy w6 (Value.slice na nf.length nc).ownBlock → w6.cell? ⟨w.heap.size + 1, 1, none⟩ = some (.slice na nf.length nc) ∧ w6.cell? ⟨wr.heap.size, 0, none⟩ = some (.int .i64 n) ∧ w6.cell? ⟨wr.heap.size, 1, none⟩ = some (.bool f) ∧ w6.cell? ⟨lb, lo + (jk + 1), none⟩ = some (.string s2) ∧ w6.frozen? ⟨w.heap.size + 1, 1, none⟩ = false) := by
                  intro V w6 hV hg
                  obtain ⟨q1, q2, q3, q4, q5⟩ := HALL.out V hV
                  refine ⟨hg.cell q1 (fun e => ?_), hg.cell q2 (fun e => ?_), hg.cell q3 (fun e => ?_), hg.cell q4 (fun e => ?_), ?_⟩
                  · have := hob _ e.symm; simp at this
                  · have := hob _ e.symm; simp at this
                  · have := hob _ e.symm; simp at this
                  · have := hob _ e.symm; simp at this; omega
                  · rw [World.frozen?_of_block (w := V) (a := ⟨w.heap.size + 1, 1, none⟩) (hg.block (w.heap.size + 1) (Nat.lt_of_lt_of_le hz6 hV.size) (fun e => by have := hob (w.heap.size + 1) e.symm; omega))]
                    exact q5
                have HS7 : Hid (∀ (w6 : World) (u : Value), (w6.cell? ⟨w.heap.size + 1, 1, none⟩ = some (.slice na nf.length nc) ∧ w6.cell? ⟨wr.heap.size, 0, none⟩ = some (.int .i64 n) ∧ w6.cell? ⟨wr.heap.size, 1, none⟩ = some (.bool f) ∧ w6.cell? ⟨lb, lo + (jk + 1), none⟩ = some (.string s2) ∧ w6.frozen? ⟨w.heap.size + 1, 1, none⟩ = false) → (w6.setCell ⟨w.heap.size + 1, 1, none⟩ u).cell? ⟨wr.heap.size, 0, none⟩ = some (.int .i64 n) ∧ (w6.setCell ⟨w.heap.size + 1, 1, none⟩ u).cell? ⟨wr.heap.size, 1, none⟩ = some (.bool f) ∧ (w6.setCell ⟨w.heap.size + 1, 1, none⟩ u).cell? ⟨lb, lo + (jk + 1), none⟩ = some (.string s2)) := by
                  intro w6 u h
                  exact ⟨cellSet h.2.1 (by simp; omega), cellSet h.2.2.1 (by simp; omega), cellSet h.2.2.2.1 (by simp; omega)⟩
                have HAL3 : Hid (∀ w', Below w5.heap.size w5 w' → w'.cell? ⟨wr.heap.size, 0, none⟩ = some (.int .i64 n) ∧ w'.cell? ⟨wr.heap.size, 1, none⟩ = some (.bool f) ∧ w'.cell? ⟨lb, lo + (jk + 1), none⟩ = some (.string s2)) := fun w' hb => ⟨(HALL.out w' hb).2.1, (HALL.out w' hb).2.2.1, (HALL.out w' hb).2.2.2.1⟩
                obtain ⟨xT, _, _, _, xfT⟩ := HALL.out w5 (Below.refl _ _)
                refine wp_region_held_drew (S := (fun w' => w'.cell? ⟨wr.heap.size, 0, none⟩ = some (.int .i64 n) ∧ w'.cell? ⟨wr.heap.size, 1, none⟩ = some (.bool f) ∧ w'.cell? ⟨lb, lo + (jk + 1), none⟩ = some (.string s2))) (by kernel_rfl) (HAL3.out _ ((Below.refl _ _).drew)) (fun hHeld => ?_)
                refine held_take 0 _ 68 (.pointer (some ⟨w.heap.size + 1, 1, none⟩)) (by kernel_rfl) (by kernel_rfl) (by kernel_rfl) rfl rfl rfl ?_ (fun _ _ _ h => h) (by assumption) ?_
                · intro w hSw
                  go_simp
                simp only [Act.put, List.setIfInBounds_toArray, List.set_cons_zero, List.set_cons_succ]
                refine held_take 2 _ 70 (.pointer (some ⟨wr.heap.size, 0, none⟩)) (by kernel_rfl) (by kernel_rfl) (by kernel_rfl) rfl rfl rfl ?_ (fun _ _ _ h => h) (by assumption) ?_
                · intro w hSw
                  go_simp
                simp only [Act.put, List.setIfInBounds_toArray, List.set_cons_zero, List.set_cons_succ]
                refine held_take 3 _ 71 (.int .i64 n) (by kernel_rfl) (by kernel_rfl) (by kernel_rfl) rfl rfl rfl ?_ (fun _ _ _ h => h) (by assumption) ?_
                · intro w hSw
                  go_simp
                simp only [Act.put, List.setIfInBounds_toArray, List.set_cons_zero, List.set_cons_succ]
                refine held_take 4 _ 72 (.slice (some ⟨lb, lo, none⟩) L.length lc) (by kernel_rfl) (by kernel_rfl) (by kernel_rfl) rfl rfl rfl ?_ (fun _ _ _ h => h) (by assumption) ?_
                · intro w hSw
                  go_simp
                simp only [Act.put, List.setIfInBounds_toArray, List.set_cons_zero, List.set_cons_succ]
                refine held_take 5 _ 73 (.int .i64 ((jk : Int) + 1)) (by kernel_rfl) (by kernel_rfl) (by kernel_rfl) rfl rfl rfl ?_ (fun _ _ _ h => h) (by assumption) ?_
                · intro w hSw
                  go_simp
                simp only [Act.put, List.setIfInBounds_toArray, List.set_cons_zero, List.set_cons_succ]
                refine held_take 6 _ 74 (.pointer (some ⟨lb, lo + (jk + 1), none⟩)) (by kernel_rfl) (by kernel_rfl) (by kernel_rfl) rfl rfl rfl ?_ (fun _ _ _ h => h) (by assumption) ?_
                · intro w hSw
                  go_simp
                simp only [Act.put, List.setIfInBounds_toArray, List.set_cons_zero, List.set_cons_succ]
                refine held_take 7 _ 75 (.string s2) (by kernel_rfl) (by kernel_rfl) (by kernel_rfl) rfl rfl rfl ?_ (fun _ _ _ h => h) (by assumption) ?_
                · intro w hSw
                  go_simp
                simp only [Act.put, List.setIfInBounds_toArray, List.set_cons_zero, List.set_cons_succ]
                refine held_take 8 _ 76 (.pointer (some ⟨wr.heap.size, 1, none⟩)) (by kernel_rfl) (by kernel_rfl) (by kernel_rfl) rfl rfl rfl ?_ (fun _ _ _ h => h) (by assumption) ?_
                · intro w hSw
                  go_simp
                simp only [Act.put, List.setIfInBounds_toArray, List.set_cons_zero, List.set_cons_succ]
                refine held_take 9 _ 77 (.bool f) (by kernel_rfl) (by kernel_rfl) (by kernel_rfl) rfl rfl rfl ?_ (fun _ _ _ h => h) (by assumption) ?_
                · intro w hSw
                  go_simp
                simp only [Act.put, List.setIfInBounds_toArray, List.set_cons_zero, List.set_cons_succ]
                refine wpAnyH_ready (rs := [1, 10]) (by kernel_rfl) (by simp) ?_
                refine AllReadyH.cons rfl (fun K hK => ?_) (AllReadyH.cons rfl (fun K hK => ?_) AllReadyH.nil)
                · go_simp
                  refine hK.out _ _ (HAL3.out _ ((Below.refl _ _).drew)) (fun hHeld2 => ?_)
                  clear hK K
                  refine wpAnyH_ready (rs := [10]) (by kernel_rfl) (by simp) ?_
                  refine AllReadyH.cons rfl (fun K hK => ?_) AllReadyH.nil
                  refine step_unescB (by rfl) (.tmp 75) (.tmp 77) (by rfl) s2 f (by simp [Act.eval]) (by simp [Act.eval]) HSZ.out ?_
                  refine hK.out _ _ (HAL3.out _ ((Below.refl _ _).drew)) (fun hHeld3 => ?_)
                  clear hK K
                  refine held_take 11 _ 79 (.agg #[.int .i64 n, .string (unescT s2 f)]) (by kernel_rfl) (by kernel_rfl) (by kernel_rfl) rfl rfl rfl ?_ (fun _ _ _ h => h) (by assumption) ?_
                  · intro w hSw
                    go_simp
                  refine wpAnyH_ready (rs := [12]) (by kernel_rfl) (by simp) ?_
                  refine AllReadyH.cons rfl (fun K hK => ?_) AllReadyH.nil
                  go_simp
                  refine hK.out _ _ (HAL3.out _ (bthen ((Below.refl _ _).drew) (below1 _ _))) (fun hHeld4 => ?_)
                  clear hK K
                  refine wpAnyH_ready (rs := [13]) (by kernel_rfl) (by simp) ?_
                  refine AllReadyH.cons rfl (fun K hK => ?_) AllReadyH.nil
                  refine step_appC1a (by rfl) (.tmp 69) (.tmp 80) (by rfl) (w.heap.size + 2) (.slice na nf.length nc) nf (by simp [Act.eval]) (owns_keep HO5.out (bthen ((Below.refl _ _).drew) (below1 _ _))) w5.heap.size (n, unescT s2 f) (by simp [Act.eval]) (by simp [go_sem]) (by simp [go_sem]) hnl5 (by simp; omega) ?_
                  intro v6 w6 HO6 hg6 hat6
                  obtain ⟨na6, nc6, hv6, _, _⟩ := SegC.of_owns HO6.out
                  subst hv6
                  have hS6 := HS6.out _ w6 (bthen ((Below.refl _ _).drew) (below1 _ _)) hg6
                  obtain ⟨hT6, _, _, _, hF6⟩ := id hS6
                  refine hK.out _ _ ⟨hS6.2.1, hS6.2.2.1, hS6.2.2.2.1⟩ (fun hHeld5 => ?_)
                  clear hK K
                  refine held_take 14 _ 82 (.pointer (some ⟨w.heap.size + 1, 1, none⟩)) (by kernel_rfl) (by kernel_rfl) (by kernel_rfl) rfl rfl rfl ?_ (fun _ _ _ h => h) (by assumption) ?_
                  · intro w hSw
                    go_simp
                  refine wpAnyH_ready (rs := [15]) (by kernel_rfl) (by simp) ?_
                  refine AllReadyH.cons rfl (fun K hK => ?_) AllReadyH.nil
                  go_simp
                  refine hK.out _ _ (HS7.out _ _ hS6) (fun hHeld6 => ?_)
                  clear hK K
                  refine wpAnyH_done (by kernel_rfl) ?_ _
                  have hB6 : Below w5.heap.size w5 (w5.drew.alloc (.cells #[.int .i64 n, .string (unescT s2 f)] 91 (0, 0))) := bthen ((Below.refl _ _).drew) (below1 _ _)
                  have hs6 : w5.heap.size + 1 ≤ w6.heap.size := by have := hg6.size; simpa using this
                  obtain ⟨nf6, hnf6⟩ : ∃ nf6, nf6 = nf ++ [(n, unescT s2 f)] := ⟨_, rfl⟩
                  have hn6l : nf6.length = nf.length + 1 := by rw [hnf6]; simp
                  have HO7 : Hid (w6.ownsRow (w.heap.size + 2) 91 2 (.slice na6 nf6.length nc6) nf6.length (cellsC nf6)) := by
                    rw [hnf6]
                    exact HO6.out
                  have KB7 : Hid (w6.heap[w.heap.size]? = _) := (hg6.block _ (by simp; omega) (fun e => by have := hob _ e.symm; omega)).trans (boxKeep hB6 (by omega) KB5.out)
                  have KT7 : Hid (w6.heap[w.heap.size + 1]? = _) := (hg6.block _ (by simp; omega) (fun e => by have := hob _ e.symm; omega)).trans (boxKeep hB6 hz6 KT5.out)
                  have HB7 : Hid (Below w.heap.size w w6) := (bthen HB5.out hB6).grown hg6 (bthen HB5.out hB6).size (fun k hk => by have := hob k hk; omega)
                  have HR7 := hide (owns_other (owns_keep HR5.out hB6) (owns_keep HO5.out hB6) (by decide) hg6)
                  have HT7 : Hid (SegT w6 (some ⟨b2, off2, none⟩) mk.tags) := (HT5.out.below hB6).grown hg6 (fun b off e h => HNB.out b h b off e rfl)
                  have HNB7 : Hid (∀ k, (Value.slice na6 nf6.length nc6).ownBlock = some k → ∀ b off, some (⟨b2, off2, none⟩ : Addr) = some ⟨b, off, none⟩ → k ≠ b) := by
                    intro k hk b off e
                    have hk2 : (Value.slice na6 (nf ++ [(n, unescT s2 f)]).length nc6).ownBlock = some k := by rw [← hnf6]; exact hk
                    rcases hat6 with h | h
                    · exact HNB.out k (h.symm.trans hk2) b off e
                    · have h3 := h.symm.trans hk2
                      simp at h3
                      cases e
                      omega
                  have HNF7 : Hid (nf6 = info ++ copiesAt L (j + 1) (mk.tags.take (k + 1))) := by rw [Hid, hnf6]; exact HNF2.out
                  have hjk7 : j + (k + 1) < L.length := by have := HJK.out; omega
                  have hij7 : ((jk : Int) + 1) = ((j + (k + 1) : Nat) : Int) := by have := HJK.out; omega
                  have HIJ := hide hij7
                  have hnl7 : nf6.length ≤ j + (k + 1) := by have := HJK.out; omega
                  rw [← hn6l]
                  clear hnf6 hn6l hB6 hS6 hT6 hF6 hat6 hg6 HO6 HS6 HS7 HAL3 HALL HNF2 HT5 HR5 HB5 HO5 KB5 KT5 K5 G5 xT xfT hij7 hHeld HTG HNB HOM HOR KB KT HB
                  go_wp2
                  go_roundw
                  case rel => exact ⟨k + 1, nf6, na6, nc6, by omega, hjk7, by rw [HIJ.out], by go_num, hnl7, HNF7, HB7.out.setCell (by simp) _, by simp [World.setCell]; omega, (box_setNe (by simp) _).trans KB7.out, heap_setCell_same _ _ 1 _ _ (.slice na6 nf6.length nc6) KT7.out, owns_setNe HO7.out (fun k hk => by have := (HO7.out.lt k hk).1; simp; omega) _, owns_setNe HR7.out (fun k hk => by have := (HR7.out.lt k hk).1; simp; omega) _, SegT.setNe HT7.out (fun b off e => by cases e; have := HTR.out b2 off2 rfl; simp; omega) _, HNB7⟩
                  case measure => simp [intOf]; omega
                · refine step_unescB (by rfl) (.tmp 75) (.tmp 77) (by rfl) s2 f (by simp [Act.eval]) (by simp [Act.eval]) HSZ.out ?_
                  refine hK.out _ _ (HAL3.out _ ((Below.refl _ _).drew)) (fun hHeld3 => ?_)
                  clear hK K
                  refine held_take 11 _ 79 (.agg #[.int .i64 n, .string (unescT s2 f)]) (by kernel_rfl) (by kernel_rfl) (by kernel_rfl) rfl rfl rfl ?_ (fun _ _ _ h => h) (by assumption) ?_
                  · intro w hSw
                    go_simp
                  refine wpAnyH_ready (rs := [1, 12]) (by kernel_rfl) (by simp) ?_
                  refine AllReadyH.cons rfl (fun K hK => ?_) (AllReadyH.cons rfl (fun K hK => ?_) AllReadyH.nil)
                  · go_simp
                    refine hK.out _ _ (HAL3.out _ ((Below.refl _ _).drew)) (fun hHeld2 => ?_)
                    clear hK K
                    refine wpAnyH_ready (rs := [12]) (by kernel_rfl) (by simp) ?_
                    refine AllReadyH.cons rfl (fun K hK => ?_) AllReadyH.nil
                    go_simp
                    refine hK.out _ _ (HAL3.out _ (bthen ((Below.refl _ _).drew) (below1 _ _))) (fun hHeld4 => ?_)
                    clear hK K
                    refine wpAnyH_ready (rs := [13]) (by kernel_rfl) (by simp) ?_
                    refine AllReadyH.cons rfl (fun K hK => ?_) AllReadyH.nil
                    refine step_appC1a (by rfl) (.tmp 69) (.tmp 80) (by rfl) (w.heap.size + 2) (.slice na nf.length nc) nf (by simp [Act.eval]) (owns_keep HO5.out (bthen ((Below.refl _ _).drew) (below1 _ _))) w5.heap.size (n, unescT s2 f) (by simp [Act.eval]) (by simp [go_sem]) (by simp [go_sem]) hnl5 (by simp; omega) ?_
                    intro v6 w6 HO6 hg6 hat6
                    obtain ⟨na6, nc6, hv6, _, _⟩ := SegC.of_owns HO6.out
                    subst hv6
                    have hS6 := HS6.out _ w6 (bthen ((Below.refl _ _).drew) (below1 _ _)) hg6
                    obtain ⟨hT6, _, _, _, hF6⟩ := id hS6
                    refine hK.out _ _ ⟨hS6.2.1, hS6.2.2.1, hS6.2.2.2.1⟩ (fun hHeld5 => ?_)
                    clear hK K
                    refine held_take 14 _ 82 (.pointer (some ⟨w.heap.size + 1, 1, none⟩)) (by kernel_rfl) (by kernel_rfl) (by kernel_rfl) rfl rfl rfl ?_ (fun _ _ _ h => h) (by assumption) ?_
                    · intro w hSw
                      go_simp
                    refine wpAnyH_ready (rs := [15]) (by kernel_rfl) (by simp) ?_
                    refine AllReadyH.cons rfl (fun K hK => ?_) AllReadyH.nil
                    go_simp
                    refine hK.out _ _ (HS7.out _ _ hS6) (fun hHeld6 => ?_)
                    clear hK K
                    refine wpAnyH_done (by kernel_rfl) ?_ _
                    have hB6 : Below w5.heap.size w5 (w5.drew.alloc (.cells #[.int .i64 n, .string (unescT s2 f)] 91 (0, 0))) := bthen ((Below.refl _ _).drew) (below1 _ _)
                    have hs6 : w5.heap.size + 1 ≤ w6.heap.size := by have := hg6.size; simpa using this
                    obtain ⟨nf6, hnf6⟩ : ∃ nf6, nf6 = nf ++ [(n, unescT s2 f)] := ⟨_, rfl⟩
                    have hn6l : nf6.length = nf.length + 1 := by rw [hnf6]; simp
                    have HO7 : Hid (w6.ownsRow (w.heap.size + 2) 91 2 (.slice na6 nf6.length nc6) nf6.length (cellsC nf6)) := by
                      rw [hnf6]
                      exact HO6.out
                    have KB7 : Hid (w6.heap[w.heap.size]? = _) := (hg6.block _ (by simp; omega) (fun e => by have := hob _ e.symm; omega)).trans (boxKeep hB6 (by omega) KB5.out)
                    have KT7 : Hid (w6.heap[w.heap.size + 1]? = _) := (hg6.block _ (by simp; omega) (fun e => by have := hob _ e.symm; omega)).trans (boxKeep hB6 hz6 KT5.out)
                    have HB7 : Hid (Below w.heap.size w w6) := (bthen HB5.out hB6).grown hg6 (bthen HB5.out hB6).size (fun k hk => by have := hob k hk; omega)
                    have HR7 := hide (owns_other (owns_keep HR5.out hB6) (owns_keep HO5.out hB6) (by decide) hg6)
                    have HT7 : Hid (SegT w6 (some ⟨b2, off2, none⟩) mk.tags) := (HT5.out.below hB6).grown hg6 (fun b off e h => HNB.out b h b off e rfl)
                    have HNB7 : Hid (∀ k, (Value.slice na6 nf6.length nc6).ownBlock = some k → ∀ b off, some (⟨b2, off2, none⟩ : Addr) = some ⟨b, off, none⟩ → k ≠ b) := by
                      intro k hk b off e
                      have hk2 : (Value.slice na6 (nf ++ [(n, unescT s2 f)]).length nc6).ownBlock = some k := by rw [← hnf6]; exact hk
                      rcases hat6 with h | h
                      · exact HNB.out k (h.symm.trans hk2) b off e
                      · have h3 := h.symm.trans hk2
                        simp at h3
                        cases e
                        omega
                    have HNF7 : Hid (nf6 = info ++ copiesAt L (j + 1) (mk.tags.take (k + 1))) := by rw [Hid, hnf6]; exact HNF2.out
                    have hjk7 : j + (k + 1) < L.length := by have := HJK.out; omega
                    have hij7 : ((jk : Int) + 1) = ((j + (k + 1) : Nat) : Int) := by have := HJK.out; omega
                    have HIJ := hide hij7
                    have hnl7 : nf6.length ≤ j + (k + 1) := by have := HJK.out; omega
                    rw [← hn6l]
                    clear hnf6 hn6l hB6 hS6 hT6 hF6 hat6 hg6 HO6 HS6 HS7 HAL3 HALL HNF2 HT5 HR5 HB5 HO5 KB5 KT5 K5 G5 xT xfT hij7 hHeld HTG HNB HOM HOR KB KT HB
                    go_wp2
                    go_roundw
                    case rel => exact ⟨k + 1, nf6, na6, nc6, by omega, hjk7, by rw [HIJ.out], by go_num, hnl7, HNF7, HB7.out.setCell (by simp) _, by simp [World.setCell]; omega, (box_setNe (by simp) _).trans KB7.out, heap_setCell_same _ _ 1 _ _ (.slice na6 nf6.length nc6) KT7.out, owns_setNe HO7.out (fun k hk => by have := (HO7.out.lt k hk).1; simp; omega) _, owns_setNe HR7.out (fun k hk => by have := (HR7.out.lt k hk).1; simp; omega) _, SegT.setNe HT7.out (fun b off e => by cases e; have := HTR.out b2 off2 rfl; simp; omega) _, HNB7⟩
                    case measure => simp [intOf]; omega
                  · go_simp
                    refine hK.out _ _ (HAL3.out _ (bthen ((Below.refl _ _).drew) (below1 _ _))) (fun hHeld4 => ?_)
                    clear hK K
                    refine wpAnyH_ready (rs := [1]) (by kernel_rfl) (by simp) ?_
                    refine AllReadyH.cons rfl (fun K hK => ?_) AllReadyH.nil
                    go_simp
                    refine hK.out _ _ (HAL3.out _ (bthen ((Below.refl _ _).drew) (below1 _ _))) (fun hHeld2 => ?_)
                    clear hK K
                    refine wpAnyH_ready (rs := [13]) (by kernel_rfl) (by simp) ?_
                    refine AllReadyH.cons rfl (fun K hK => ?_) AllReadyH.nil
                    refine step_appC1a (by rfl) (.tmp 69) (.tmp 80) (by rfl) (w.heap.size + 2) (.slice na nf.length nc) nf (by simp [Act.eval]) (owns_keep HO5.out (bthen ((Below.refl _ _).drew) (below1 _ _))) w5.heap.size (n, unescT s2 f) (by simp [Act.eval]) (by simp [go_sem]) (by simp [go_sem]) hnl5 (by simp; omega) ?_
                    intro v6 w6 HO6 hg6 hat6
                    obtain ⟨na6, nc6, hv6, _, _⟩ := SegC.of_owns HO6.out
                    subst hv6
                    have hS6 := HS6.out _ w6 (bthen ((Below.refl _ _).drew) (below1 _ _)) hg6
                    obtain ⟨hT6, _, _, _, hF6⟩ := id hS6
                    refine hK.out _ _ ⟨hS6.2.1, hS6.2.2.1, hS6.2.2.2.1⟩ (fun hHeld5 => ?_)
                    clear hK K
                    refine held_take 14 _ 82 (.pointer (some ⟨w.heap.size + 1, 1, none⟩)) (by kernel_rfl) (by kernel_rfl) (by kernel_rfl) rfl rfl rfl ?_ (fun _ _ _ h => h) (by assumption) ?_
                    · intro w hSw
                      go_simp
                    refine wpAnyH_ready (rs := [15]) (by kernel_rfl) (by simp) ?_
                    refine AllReadyH.cons rfl (fun K hK => ?_) AllReadyH.nil
                    go_simp
                    refine hK.out _ _ (HS7.out _ _ hS6) (fun hHeld6 => ?_)
                    clear hK K
                    refine wpAnyH_done (by kernel_rfl) ?_ _
                    have hB6 : Below w5.heap.size w5 (w5.drew.alloc (.cells #[.int .i64 n, .string (unescT s2 f)] 91 (0, 0))) := bthen ((Below.refl _ _).drew) (below1 _ _)
                    have hs6 : w5.heap.size + 1 ≤ w6.heap.size := by have := hg6.size; simpa using this
                    obtain ⟨nf6, hnf6⟩ : ∃ nf6, nf6 = nf ++ [(n, unescT s2 f)] := ⟨_, rfl⟩
                    have hn6l : nf6.length = nf.length + 1 := by rw [hnf6]; simp
                    have HO7 : Hid (w6.ownsRow (w.heap.size + 2) 91 2 (.slice na6 nf6.length nc6) nf6.length (cellsC nf6)) := by
                      rw [hnf6]
                      exact HO6.out
                    have KB7 : Hid (w6.heap[w.heap.size]? = _) := (hg6.block _ (by simp; omega) (fun e => by have := hob _ e.symm; omega)).trans (boxKeep hB6 (by omega) KB5.out)
                    have KT7 : Hid (w6.heap[w.heap.size + 1]? = _) := (hg6.block _ (by simp; omega) (fun e => by have := hob _ e.symm; omega)).trans (boxKeep hB6 hz6 KT5.out)
                    have HB7 : Hid (Below w.heap.size w w6) := (bthen HB5.out hB6).grown hg6 (bthen HB5.out hB6).size (fun k hk => by have := hob k hk; omega)
                    have HR7 := hide (owns_other (owns_keep HR5.out hB6) (owns_keep HO5.out hB6) (by decide) hg6)
                    have HT7 : Hid (SegT w6 (some ⟨b2, off2, none⟩) mk.tags) := (HT5.out.below hB6).grown hg6 (fun b off e h => HNB.out b h b off e rfl)
                    have HNB7 : Hid (∀ k, (Value.slice na6 nf6.length nc6).ownBlock = some k → ∀ b off, some (⟨b2, off2, none⟩ : Addr) = some ⟨b, off, none⟩ → k ≠ b) := by
                      intro k hk b off e
                      have hk2 : (Value.slice na6 (nf ++ [(n, unescT s2 f)]).length nc6).ownBlock = some k := by rw [← hnf6]; exact hk
                      rcases hat6 with h | h
                      · exact HNB.out k (h.symm.trans hk2) b off e
                      · have h3 := h.symm.trans hk2
                        simp at h3
                        cases e
                        omega
                    have HNF7 : Hid (nf6 = info ++ copiesAt L (j + 1) (mk.tags.take (k + 1))) := by rw [Hid, hnf6]; exact HNF2.out
                    have hjk7 : j + (k + 1) < L.length := by have := HJK.out; omega
                    have hij7 : ((jk : Int) + 1) = ((j + (k + 1) : Nat) : Int) := by have := HJK.out; omega
                    have HIJ := hide hij7
                    have hnl7 : nf6.length ≤ j + (k + 1) := by have := HJK.out; omega
                    rw [← hn6l]
                    clear hnf6 hn6l hB6 hS6 hT6 hF6 hat6 hg6 HO6 HS6 HS7 HAL3 HALL HNF2 HT5 HR5 HB5 HO5 KB5 KT5 K5 G5 xT xfT hij7 hHeld HTG HNB HOM HOR KB KT HB
                    go_wp2
                    go_roundw
                    case rel => exact ⟨k + 1, nf6, na6, nc6, by omega, hjk7, by rw [HIJ.out], by go_num, hnl7, HNF7, HB7.out.setCell (by simp) _, by simp [World.setCell]; omega, (box_setNe (by simp) _).trans KB7.out, heap_setCell_same _ _ 1 _ _ (.slice na6 nf6.length nc6) KT7.out, owns_setNe HO7.out (fun k hk => by have := (HO7.out.lt k hk).1; simp; omega) _, owns_setNe HR7.out (fun k hk => by have := (HR7.out.lt k hk).1; simp; omega) _, SegT.setNe HT7.out (fun b off e => by cases e; have := HTR.out b2 off2 rfl; simp; omega) _, HNB7⟩
                    case measure => simp [intOf]; omega
            · have e : k = mk.tags.length := by omega
              have hkl' : ¬ ((k : Int) < (mk.tags.length : Int)) := by omega
              have HRUN2 : Hid (runT L seq 0 (txOf seq) = runT L seq (j + k + 1) (txW seq nf rv)) := by
                rw [Hid, HST.out, if_pos (by omega), HNF.out, e, List.take_length, show j + mk.tags.length + 1 = j + 1 + mk.tags.length from by omega]
              have hwj : IntKind.i64.wrap (((j + k : Nat) : Int) + 1) = ((j + k : Nat) : Int) + 1 := by rw [IntKind.wrap_i64]; omega
              clear HST HNF
              generalize hjkn : j + k = jk at *
              go_wp2
              go_roundw
              case rel => exact ⟨jk + 1, nf, rv, na, nc, ra3, rc3, by go_num, by omega, by omega, by omega, HRUN2, HB, hsz5, KB, KT, HOM, HOR⟩
              case measure => simp [intOf]; omega
      · have HNO : Hid (runT L seq 0 (txOf seq) = none) := by
          rw [Hid, HRUN.out, HSTEP.out, if_pos]
          by_cases he : er = 0
          · by_cases hq : mk.seq = seq
            · by_cases hk : mk.kind = 1
              · exact .inr (.inr hk)
              · exact absurd ⟨he, hq, hk⟩ hok
            · exact .inr (.inl hq)
          · exact .inl he
        clear HSTEP HRUN HGM
        by_cases he : er = 0
        · subst he
          by_cases hq : mk.seq = seq
          · have hk : mk.kind = 1 := by
              by_cases hk : mk.kind = 1
              · exact hk
              · exact absurd ⟨rfl, hq, hk⟩ hok
            have hq' : (mk.seq != seq) = false := by simp [hq]
            have hk' : (mk.kind == 1) = true := by simp [hk]
            clear hok
            obtain ⟨⟨z0, z1, z2, z3, z4, z5, z6, z7, z8, z9⟩, zf⟩ := box10 KB1.out
            go_wp2
            obtain ⟨W, hW⟩ : ∃ W, W = (((((((((((w1.setCell ⟨w.heap.size, 0, none⟩ (.int .i64 0)).setCell ⟨w.heap.size, 1, none⟩ (.slice none 0 0)).setCell ⟨w.heap.size, 2, none⟩ (.slice none 0 0)).setCell ⟨w.heap.size, 3, none⟩ (.slice none 0 0)).setCell ⟨w.heap.size, 4, none⟩ (.bool false)).setCell ⟨w.heap.size, 5, none⟩ (.int .i64 0)).setCell ⟨w.heap.size, 6, none⟩ (.bool false)).setCell ⟨w.heap.size, 7, none⟩ (.int .i64 0)).setCell ⟨w.heap.size, 8, none⟩ (.bool false)).setCell ⟨w.heap.size, 9, none⟩ (.int .i64 0)).alloc (.cells #[.int .i64 1, .int .i64 seq, .int .i64 mk.pos, .slice a2 mk.tags.length c2, .slice a3 mk.blocks.length c3] 130)) := ⟨_, rfl⟩
            have hbx := stored10a KB1.out (.int .i64 0) (.slice none 0 0) (.slice none 0 0) (.slice none 0 0) (.bool false) (.int .i64 0) (.bool false) (.int .i64 0) (.bool false) (.int .i64 0) (.cells #[.int .i64 1, .int .i64 seq, .int .i64 mk.pos, .slice a2 mk.tags.length c2, .slice a3 mk.blocks.length c3] 130)
            rw [← hW] at hbx
            obtain ⟨⟨y0, y1, y2, y3, y4, y5, y6, y7, y8, y9⟩, _⟩ := box10 hbx
            have HW := hide hW
            rw [← hW]
            clear hW hbx z0 z1 z2 z3 z4 z5 z6 z7 z8 z9 zf
            refine bodyPost_ret (v := .tuple #[.agg #[.int .i64 0, .slice none 0 0, .slice none 0 0, .slice none 0 0, .bool false, .int .i64 0, .bool false, .int .i64 0, .bool false, .int .i64 0], .int .i64 0]) (by simp [results, Try.results99, go_sem, y0, y1, y2, y3, y4, y5, y6, y7, y8, y9]) rfl ?_
            unfold AtEnd
            refine ⟨_, 0, rfl, ?_, ?_⟩
            · rw [HW.out]
              exact (((((((((((HB1.out.setCell (p := ⟨w.heap.size, 0, none⟩) (by simp) _).setCell (p := ⟨w.heap.size, 1, none⟩) (by simp) _).setCell (p := ⟨w.heap.size, 2, none⟩) (by simp) _).setCell (p := ⟨w.heap.size, 3, none⟩) (by simp) _).setCell (p := ⟨w.heap.size, 4, none⟩) (by simp) _).setCell (p := ⟨w.heap.size, 5, none⟩) (by simp) _).setCell (p := ⟨w.heap.size, 6, none⟩) (by simp) _).setCell (p := ⟨w.heap.size, 7, none⟩) (by simp) _).setCell (p := ⟨w.heap.size, 8, none⟩) (by simp) _).setCell (p := ⟨w.heap.size, 9, none⟩) (by simp) _).alloc (by simp [World.setCell]; omega) _)
            · rw [AtPost, HNO.out]
              exact ⟨rfl, rfl⟩
          · have hq' : (mk.seq != seq) = true := by simpa using hq
            clear hok
            obtain ⟨⟨z0, z1, z2, z3, z4, z5, z6, z7, z8, z9⟩, zf⟩ := box10 KB1.out
            go_wp2
            obtain ⟨W, hW⟩ : ∃ W, W = (((((((((((w1.setCell ⟨w.heap.size, 0, none⟩ (.int .i64 0)).setCell ⟨w.heap.size, 1, none⟩ (.slice none 0 0)).setCell ⟨w.heap.size, 2, none⟩ (.slice none 0 0)).setCell ⟨w.heap.size, 3, none⟩ (.slice none 0 0)).setCell ⟨w.heap.size, 4, none⟩ (.bool false)).setCell ⟨w.heap.size, 5, none⟩ (.int .i64 0)).setCell ⟨w.heap.size, 6, none⟩ (.bool false)).setCell ⟨w.heap.size, 7, none⟩ (.int .i64 0)).setCell ⟨w.heap.size, 8, none⟩ (.bool false)).setCell ⟨w.heap.size, 9, none⟩ (.int .i64 0)).alloc (.cells #[.int .i64 mk.kind, .int .i64 mk.seq, .int .i64 mk.pos, .slice a2 mk.tags.length c2, .slice a3 mk.blocks.length c3] 130)) := ⟨_, rfl⟩
            have hbx := stored10a KB1.out (.int .i64 0) (.slice none 0 0) (.slice none 0 0) (.slice none 0 0) (.bool false) (.int .i64 0) (.bool false) (.int .i64 0) (.bool false) (.int .i64 0) (.cells #[.int .i64 mk.kind, .int .i64 mk.seq, .int .i64 mk.pos, .slice a2 mk.tags.length c2, .slice a3 mk.blocks.length c3] 130)
            rw [← hW] at hbx
            obtain ⟨⟨y0, y1, y2, y3, y4, y5, y6, y7, y8, y9⟩, _⟩ := box10 hbx
            have HW := hide hW
            rw [← hW]
            clear hW hbx z0 z1 z2 z3 z4 z5 z6 z7 z8 z9 zf
            refine bodyPost_ret (v := .tuple #[.agg #[.int .i64 0, .slice none 0 0, .slice none 0 0, .slice none 0 0, .bool false, .int .i64 0, .bool false, .int .i64 0, .bool false, .int .i64 0], .int .i64 0]) (by simp [results, Try.results99, go_sem, y0, y1, y2, y3, y4, y5, y6, y7, y8, y9]) rfl ?_
            unfold AtEnd
            refine ⟨_, 0, rfl, ?_, ?_⟩
            · rw [HW.out]
              exact (((((((((((HB1.out.setCell (p := ⟨w.heap.size, 0, none⟩) (by simp) _).setCell (p := ⟨w.heap.size, 1, none⟩) (by simp) _).setCell (p := ⟨w.heap.size, 2, none⟩) (by simp) _).setCell (p := ⟨w.heap.size, 3, none⟩) (by simp) _).setCell (p := ⟨w.heap.size, 4, none⟩) (by simp) _).setCell (p := ⟨w.heap.size, 5, none⟩) (by simp) _).setCell (p := ⟨w.heap.size, 6, none⟩) (by simp) _).setCell (p := ⟨w.heap.size, 7, none⟩) (by simp) _).setCell (p := ⟨w.heap.size, 8, none⟩) (by simp) _).setCell (p := ⟨w.heap.size, 9, none⟩) (by simp) _).alloc (by simp [World.setCell]; omega) _)
            · rw [AtPost, HNO.out]
              exact ⟨rfl, rfl⟩
        · have he' : (er != 0) = true := by simpa using he
          clear hok
          obtain ⟨⟨z0, z1, z2, z3, z4, z5, z6, z7, z8, z9⟩, zf⟩ := box10 KB1.out
          go_wp2
          obtain ⟨W, hW⟩ : ∃ W, W = (((((((((((w1.setCell ⟨w.heap.size, 0, none⟩ (.int .i64 0)).setCell ⟨w.heap.size, 1, none⟩ (.slice none 0 0)).setCell ⟨w.heap.size, 2, none⟩ (.slice none 0 0)).setCell ⟨w.heap.size, 3, none⟩ (.slice none 0 0)).setCell ⟨w.heap.size, 4, none⟩ (.bool false)).setCell ⟨w.heap.size, 5, none⟩ (.int .i64 0)).setCell ⟨w.heap.size, 6, none⟩ (.bool false)).setCell ⟨w.heap.size, 7, none⟩ (.int .i64 0)).setCell ⟨w.heap.size, 8, none⟩ (.bool false)).setCell ⟨w.heap.size, 9, none⟩ (.int .i64 0)).alloc (.cells #[.int .i64 mk.kind, .int .i64 mk.seq, .int .i64 mk.pos, .slice a2 mk.tags.length c2, .slice a3 mk.blocks.length c3] 130)) := ⟨_, rfl⟩
          have hbx := stored10a KB1.out (.int .i64 0) (.slice none 0 0) (.slice none 0 0) (.slice none 0 0) (.bool false) (.int .i64 0) (.bool false) (.int .i64 0) (.bool false) (.int .i64 0) (.cells #[.int .i64 mk.kind, .int .i64 mk.seq, .int .i64 mk.pos, .slice a2 mk.tags.length c2, .slice a3 mk.blocks.length c3] 130)
          rw [← hW] at hbx
          obtain ⟨⟨y0, y1, y2, y3, y4, y5, y6, y7, y8, y9⟩, _⟩ := box10 hbx
          have HW := hide hW
          rw [← hW]
          clear hW hbx z0 z1 z2 z3 z4 z5 z6 z7 z8 z9 zf
          refine bodyPost_ret (v := .tuple #[.agg #[.int .i64 0, .slice none 0 0, .slice none 0 0, .slice none 0 0, .bool false, .int .i64 0, .bool false, .int .i64 0, .bool false, .int .i64 0], .int .i64 0]) (by simp [results, Try.results99, go_sem, y0, y1, y2, y3, y4, y5, y6, y7, y8, y9]) rfl ?_
          unfold AtEnd
          refine ⟨_, 0, rfl, ?_, ?_⟩
          · rw [HW.out]
            exact (((((((((((HB1.out.setCell (p := ⟨w.heap.size, 0, none⟩) (by simp) _).setCell (p := ⟨w.heap.size, 1, none⟩) (by simp) _).setCell (p := ⟨w.heap.size, 2, none⟩) (by simp) _).setCell (p := ⟨w.heap.size, 3, none⟩) (by simp) _).setCell (p := ⟨w.heap.size, 4, none⟩) (by simp) _).setCell (p := ⟨w.heap.size, 5, none⟩) (by simp) _).setCell (p := ⟨w.heap.size, 6, none⟩) (by simp) _).setCell (p := ⟨w.heap.size, 7, none⟩) (by simp) _).setCell (p := ⟨w.heap.size, 8, none⟩) (by simp) _).setCell (p := ⟨w.heap.size, 9, none⟩) (by simp) _).alloc (by simp [World.setCell]; omega) _)
          · rw [AtPost, HNO.out]
            exact ⟨rfl, rfl⟩
    · have e : j = L.length := by omega
      have HNO : Hid (runT L seq 0 (txOf seq) = none) := by rw [Hid, HRUN.out, runT, dif_neg hlt]
      have hlt' : ¬ ((j : Int) < (L.length : Int)) := by omega
      clear HRUN
      obtain ⟨⟨z0, z1, z2, z3, z4, z5, z6, z7, z8, z9⟩, zf⟩ := box10 KB.out
      go_wp2
      obtain ⟨W, hW⟩ : ∃ W, W = ((((((((((wo.setCell ⟨w.heap.size, 0, none⟩ (.int .i64 0)).setCell ⟨w.heap.size, 1, none⟩ (.slice none 0 0)).setCell ⟨w.heap.size, 2, none⟩ (.slice none 0 0)).setCell ⟨w.heap.size, 3, none⟩ (.slice none 0 0)).setCell ⟨w.heap.size, 4, none⟩ (.bool false)).setCell ⟨w.heap.size, 5, none⟩ (.int .i64 0)).setCell ⟨w.heap.size, 6, none⟩ (.bool false)).setCell ⟨w.heap.size, 7, none⟩ (.int .i64 0)).setCell ⟨w.heap.size, 8, none⟩ (.bool false)).setCell ⟨w.heap.size, 9, none⟩ (.int .i64 0)) := ⟨_, rfl⟩
      have hbx := stored10 KB.out (.int .i64 0) (.slice none 0 0) (.slice none 0 0) (.slice none 0 0) (.bool false) (.int .i64 0) (.bool false) (.int .i64 0) (.bool false) (.int .i64 0)
      rw [← hW] at hbx
      obtain ⟨⟨y0, y1, y2, y3, y4, y5, y6, y7, y8, y9⟩, _⟩ := box10 hbx
      have HW := hide hW
      rw [← hW]
      clear hW hbx z0 z1 z2 z3 z4 z5 z6 z7 z8 z9 zf
      refine bodyPost_ret (v := .tuple #[.agg #[.int .i64 0, .slice none 0 0, .slice none 0 0, .slice none 0 0, .bool false, .int .i64 0, .bool false, .int .i64 0, .bool false, .int .i64 0], .int .i64 0]) (by simp [results, Try.results99, go_sem, y0, y1, y2, y3, y4, y5, y6, y7, y8, y9]) rfl ?_
      unfold AtEnd
      refine ⟨_, 0, rfl, ?_, ?_⟩
      · rw [HW.out]
        exact ((((((((((HB.out.setCell (p := ⟨w.heap.size, 0, none⟩) (by simp) _).setCell (p := ⟨w.heap.size, 1, none⟩) (by simp) _).setCell (p := ⟨w.heap.size, 2, none⟩) (by simp) _).setCell (p := ⟨w.heap.size, 3, none⟩) (by simp) _).setCell (p := ⟨w.heap.size, 4, none⟩) (by simp) _).setCell (p := ⟨w.heap.size, 5, none⟩) (by simp) _).setCell (p := ⟨w.heap.size, 6, none⟩) (by simp) _).setCell (p := ⟨w.heap.size, 7, none⟩) (by simp) _).setCell (p := ⟨w.heap.size, 8, none⟩) (by simp) _).setCell (p := ⟨w.heap.size, 9, none⟩) (by simp) _)
      · rw [AtPost, HNO.out]
        exact ⟨rfl, rfl⟩

end Go.Proofs.Ytjnpndfpajjihab
