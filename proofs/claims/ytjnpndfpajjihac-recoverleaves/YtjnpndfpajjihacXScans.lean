/-
  The walks of package scan's reader: copies.
  The walk of package scan's reader: transaction.
  The walk of package scan's readSuper.
  The walk of package scan's Scan.
  What Scan and the document's ScanLog find, as one.
-/
import Derived.Test.YtjnpndfpajjihacXScanAll
import Derived.Test.YtjnpndfpajjihacSEscU
import Derived.Test.YtjnpndfpajjihacXRowsA
import Derived.Deep.RegionHeldLaw
namespace Go.Proofs.Ytjnpndfpajjihac
open Go.RowKit

/-- A row of tags that lies elsewhere is as it was. -/
theorem SegT.but {R base : Nat} {w w' : World} {a : Option Addr} {l : List (Int × Bool)} (h : SegT w a l) (hb : But R base w w') (hl : ∀ b off, a = some ⟨b, off, none⟩ → b < base ∧ b ≠ R) : SegT w' a l := by
  rcases h with h | ⟨b, off, rfl, hlt, hc⟩
  · exact .inl h
  · have := hl b off rfl
    exact .inr ⟨b, off, rfl, Nat.lt_of_lt_of_le hlt hb.size, fun i hi => ⟨hb.cell this.1 this.2 (hc i hi).1, hb.cell this.1 this.2 (hc i hi).2⟩⟩
theorem read_size {d : Dk} (hg : goodB d = true) (n : Int) : (readT d n).size ≤ 32 := by
  have key : ∀ (l : List (Int × ByteArray)) (z : ByteArray), z.size ≤ 32 → (∀ x ∈ l, x.2.size ≤ 32) → (lastIn n z l).size ≤ 32 := by
    intro l
    induction l with
    | nil => intro z hz _; exact hz
    | cons x r ih =>
      intro z hz hl
      rw [lastIn]
      refine ih _ ?_ (fun y hy => hl y (by simp [hy]))
      split
      · exact hl x (by simp)
      · exact hz
  have hg2 := hg
  simp only [goodB, Bool.and_eq_true, List.all_eq_true] at hg2
  unfold readT
  split
  · refine key _ _ ?_ (fun x hx => ?_)
    · by_cases h : n.toNat < d.safe.length
      · have hm : d.safe.getD n.toNat ByteArray.empty ∈ d.safe := by rw [List.getD, List.getElem?_eq_getElem h]; exact List.getElem_mem h
        have h2 := hg2.1.2 _ hm
        unfold fitsB at h2
        have h3 := beq_iff_eq.1 h2
        omega
      · rw [List.getD, List.getElem?_eq_none (by omega)]; exact Nat.zero_le _
    · have h2 := hg2.2 x hx
      unfold wrB fitsB at h2
      have h3 := beq_iff_eq.1 (Bool.and_eq_true_iff.1 h2).2
      omega
  · exact Nat.zero_le _
theorem log_size {d : Dk} (hg : goodB d = true) (p0 i : Nat) : ((logOf d p0).getD i ByteArray.empty).size ≤ maxLen := by
  by_cases h : i < 24
  · rw [logOf_at d p0 i h]
    have : (readT d (1 + ((p0 : Int) + (i : Int)) % 24)).size ≤ 32 := read_size hg _
    unfold maxLen
    omega
  · rw [List.getD, List.getElem?_eq_none (by rw [logOf_length]; omega)]
    exact Nat.zero_le _

/-- What copies answers: all of them, or that the log is at its end. -/
def CPost (w w' : World) (R : Nat) (a : Option Addr) (c : Nat) (a' : Option Addr) (c' : Nat) (d : Dk) (p0 i : Nat) (l : List (Int × Bool)) (v : Value) (b : Bool) : Prop :=
  But R w.heap.size w w' ∧ if i + l.length ≤ 24 then b = true ∧ w'.ownsRow w.heap.size 71 2 v l.length (cellsC (copiesAt (logOf d p0) i l)) ∧ Rd w' R a c a' c' d p0 (i + l.length) else b = false ∧ v = .slice none 0 0
/-- append of one copy onto a row of the call's own, as one step of a region that draws its order. -/
theorem step_appC1 {w : World} {ops : Array Oper} {o : Oper} {a : Act} {K : Act → World → Prop} {Q : Exit → Act → World → Prop} {E : Prop} (hgd : o.guard = none) (s x : Operand)
    (ho : o.op = .call { callee := .builtin .append, args := #[s, x], argTypes := #[40, 40] })
    (base : Nat) (v : Value) (l : List (Int × ByteArray)) (hs : a.eval s = v) (hown : w.ownsRow base 71 2 v l.length (cellsC l)) (b : Nat) (y : Int × ByteArray) (hx : a.eval x = .slice (some ⟨b, 0, none⟩) 1 1)
    (h0 : w.cell? ⟨b, 0, none⟩ = some (.int .i64 y.1)) (h1 : w.cell? ⟨b, 1, none⟩ = some (.string y.2)) (h63 : l.length ≤ 1000) (hbase : base ≤ w.heap.size)
    (h : ∀ v' w', Hid (w'.ownsRow base 71 2 v' (l ++ [y]).length (cellsC (l ++ [y]))) → w.grownBy w' v.ownBlock → K (a.put o.dst v') w') : if Region.wanted o (yielded ops a.tmps) = true then Oper.wp Try.prog o a w K Q else E := by
  obtain ⟨i0, hi, hz0, hz1, hz2⟩ := info_parts infoC
  refine step_app hgd s x 40 ho 71 i0 (.agg #[.int .i64 0, .string ⟨#[]⟩]) 2 24 Try.underlying40 hi hz0 hz1 hz2 rfl (by decide) base v l.length (cellsC l) hs hown ⟨b, 0, none⟩ (cellsC [y]) hx rfl ?_ (cellsC_one _) h63 (by omega) hbase ?_
  · intro j u hj
    rw [Addr.add_lit, Nat.zero_add]
    match j, hj with
    | 0, hj => simp [cellsC] at hj; subst hj; exact h0
    | 1, hj => simp [cellsC] at hj; subst hj; exact h1
    | j + 2, hj => simp [cellsC] at hj
  intro v' w' k1 k2
  refine h v' w' ?_ k2
  rw [Hid, cellsC_append, List.length_append]
  exact k1

theorem But.grown {R base : Nat} {w w1 w2 : World} {row : Option Nat} (h : But R base w w1) (hg : w1.grownBy w2 row) (hr : ∀ k, row = some k → base ≤ k) (hb : base ≤ w1.heap.size) : But R base w w2 :=
  ⟨hg.os.trans h.os, hg.tape.trans h.tape, hg.output.trans h.output, Nat.le_trans h.size hg.size, fun k hk hn => (hg.block k (by omega) (fun e => by have := hr k e.symm; omega)).trans (h.block k hk hn)⟩
theorem Rd.grown {w w' : World} {R : Nat} {a : Option Addr} {c : Nat} {a' : Option Addr} {c' : Nat} {d : Dk} {p0 i : Nat} {row : Option Nat} (h : Rd w R a c a' c' d p0 i) (hg : w.grownBy w' row) (hr : ∀ k, row = some k → R < k) : Rd w' R a c a' c' d p0 i :=
  (hg.block R h.lt (fun e => by have := hr R e.symm; omega)).trans h
set_option maxRecDepth 100000 in
/-- The call of Unescape, as one step of a region that draws its order. -/
theorem step_unesc {w : World} {ops : Array Oper} {o : Oper} {a : Act} {K : Act → World → Prop} {Q : Exit → Act → World → Prop} {E : Prop} (hgd : o.guard = none) (x y : Operand)
    (ho : o.op = .call { callee := .value (.func 52), args := #[x, y], argTypes := #[9, 4] }) (s : ByteArray) (f : Bool) (hx : a.eval x = .string s) (hy : a.eval y = .bool f) (hn : s.size ≤ maxLen)
    (h : K (a.put o.dst (.string (unescT s f))) w) : if Region.wanted o (yielded ops a.tmps) = true then Oper.wp Try.prog o a w K Q else E := by
  have hw : Region.wanted o (yielded ops a.tmps) = true := by simp [Region.wanted, hgd]
  rw [if_pos hw]
  have hf : a.eval (.func 52) = .func (.func 52) #[] #[] := rfl
  unfold Oper.wp
  simp [execOp, ho, resolve, invoke, hf, hx, hy, Result.andThen]
  refine (stampUnescape_any s f w hn).mono ?_
  rintro e w' ⟨rfl, rfl⟩
  exact h

set_option maxHeartbeats 4000000 in
set_option maxRecDepth 100000 in
theorem rcopies_any (R : Nat) (a : Option Addr) (c : Nat) (a' : Option Addr) (c' : Nat) (d : Dk) (p0 i : Nat) (ta : Option Addr) (tc : Nat) (l : List (Int × Bool)) (w w0 : World) (hR : Rd w R a c a' c' d p0 i) (hi : i ≤ 24) (hD : IsDk w0 (.agg #[.slice a d.safe.length c, .slice a' d.wr.length c']) d) (hg : goodB d = true) (hb : Below w0.heap.size w0 w) (hR0 : w0.heap.size ≤ R)
    (hT : SegT w ta l) (hTR : ∀ b off, ta = some ⟨b, off, none⟩ → b ≠ R) :
    Calls Try.prog 34 #[.pointer (some ⟨R, 0, none⟩), .slice ta l.length tc] w fun e w' => ∃ v b, e = .returned (.tuple #[v, .bool b]) ∧ CPost w w' R a c a' c' d p0 i l v b := by
  have hRl := hR.lt
  have HD := hide hD
  have HBW := hide hb
  have HT := hide hT
  have HTR := hide hTR
  have HR := hide hR
  clear hD hb hT hR hTR
  go_enter Try.func34, Try.ntmps34
  go_wp2
  go_loopw [6, 13] (fun v j wr => ∃ k : Nat, k ≤ l.length ∧ i + k ≤ 24 ∧ j = .int .i64 k ∧ Hid (wr.ownsRow w.heap.size 71 2 v (copiesAt (logOf d p0) i (l.take k)).length (cellsC (copiesAt (logOf d p0) i (l.take k)))) ∧ Hid (Rd wr R a c a' c' d p0 (i + k)) ∧ Hid (But R w.heap.size w wr)) (fun _ j _ => l.length - (intOf j).toNat)
  case atStart => exact ⟨0, Nat.zero_le _, by omega, rfl, World.ownsRow_nil _ _ _ _, HR, But.of_below (Below.refl _ _)⟩
  case round =>
    obtain ⟨k, hk, hik, rfl, hown, hRr, hbr⟩ := hrel
    by_cases hlt : k < l.length
    · obtain ⟨b2, off, rfl, hb2, hc⟩ := HT.out.resolve_left (by intro e; rw [e] at hlt; simp at hlt)
      obtain ⟨x, hx⟩ : ∃ x, x = l.getD k (0, false) := ⟨_, rfl⟩
      obtain ⟨g1, g2⟩ := hc k hlt
      rw [← hx] at g1 g2
      have hne := HTR.out b2 off rfl
      replace g1 := hbr.out.cell hb2 hne g1
      replace g2 := hbr.out.cell hb2 hne g2
      have HX : Hid (l[k]? = some x) := by rw [hx]; exact getD_at _ _ _ hlt
      have HF := hide (copiesAt_take HX.out (logOf d p0) i)
      have hq : (copiesAt (logOf d p0) i (l.take k)).length ≤ k := by rw [copiesAt_length, List.length_take]; omega
      have hlt' : (k : Int) < (l.length : Int) := by omega
      clear hx hc HX
      obtain ⟨n, f⟩ := x
      generalize copiesAt (logOf d p0) i (l.take k) = q at *
      have hws : w.heap.size ≤ wr.heap.size := hbr.out.size
      by_cases hend : i + k = 24
      · rw [hend] at hRr
        go_wp2_with fail
        refine (block_end R a c a' c' d p0 _ (hRr.out.below (below1 _ _))).mono ?_
        rintro e w1 ⟨rfl, rfl⟩
        go_wp2
        refine bodyPost_ret (v := .tuple #[.slice none 0 0, .bool false]) (by simp [results, Try.results34, go_sem]) rfl ?_
        refine ⟨.slice none 0 0, false, rfl, hbr.out.trans (But.of_below (below1 _ _)) hws, ?_⟩
        rw [if_neg (by omega)]
        exact ⟨rfl, rfl⟩
      · go_wp2_with fail
        refine (block_next R a c a' c' d p0 (i + k) _ w0 (hRr.out.below (below1 _ _)) (by omega) HD.out hg (bthen (hbr.out.below HBW.out HBW.out.size hR0) (below1 _ _))).mono ?_
        rintro e w1 ⟨rfl, hR1, hb1⟩
        rw [block_text d p0 (i + k) (by omega)]
        have hsz : ((logOf d p0).getD (i + k) ByteArray.empty).size ≤ maxLen := log_size hg p0 (i + k)
        obtain ⟨s, hs⟩ : ∃ s, s = (logOf d p0).getD (i + k) ByteArray.empty := ⟨_, rfl⟩
        rw [← hs] at hsz HF ⊢
        have HSZ := hide hsz
        have HR1 := hide hR1
        have hs1 : wr.heap.size + 1 ≤ w1.heap.size := by have := hb1.size; simpa using this
        have K8 : Hid (w1.heap[wr.heap.size]? = some (.cells #[.int .i64 n, .bool f] 115 (0, 0))) := (hb1.block _ (by simp) (by omega)).trans (heap_alloc_new wr _)
        have HB1 : Hid (But R w.heap.size w w1) := (hbr.out.trans (But.of_below (below1 _ _)) hws).trans hb1 (by simp; omega)
        have HO1 : Hid (w1.ownsRow w.heap.size 71 2 _ q.length (cellsC q)) := owns_but (owns_keep hown.out (below1 _ _)) hb1 hRl
        obtain ⟨⟨y0, y1⟩, _⟩ := box2 K8.out
        clear hs hsz hR1 hb1 hown hRr hbr g1 g2
        obtain ⟨va, vc, hv, _, _⟩ := SegC.of_owns HO1.out
        subst hv
        go_wp2
        go_region_law (first
          | (refine step_appC1 rfl (.tmp 24) (.tmp 32) rfl w.heap.size _ q (by simp [Act.eval]) (owns_keep HO1.out (bthen ((Below.refl _ _).drew) (below1 _ _))) w1.heap.size (n, unescT s f) (by simp [Act.eval]) (by simp [go_sem]) (by simp [go_sem]) (by omega) (by simp; omega) ?_; intro v3 w3 HO3 hg3)
          | (refine step_unesc rfl (.tmp 27) (.tmp 29) rfl s f (by simp [Act.eval]) (by simp [Act.eval]) HSZ.out ?_))
        all_goals
          have hB2 : Below w1.heap.size w1 _ := bthen ((Below.refl _ _).drew) (below1 _ (.cells #[.int .i64 n, .string (unescT s f)] 71 (0, 0)))
          have hob : ∀ k, (Value.slice va q.length vc).ownBlock = some k → w.heap.size ≤ k := fun k hk => (HO1.out.lt k hk).1
          have HB3 : Hid (But R w.heap.size w w3) := (HB1.out.trans (But.of_below hB2) (by omega)).grown hg3 hob (Nat.le_trans (by omega) hB2.size)
          have HR3 : Hid (Rd w3 R a c a' c' d p0 (i + (k + 1))) := (HR1.out.below hB2).grown hg3 (fun j hj => Nat.lt_of_lt_of_le hRl (hob j hj))
          clear hg3 hB2 hob HO1 HB1 HR1 y0 y1
          go_wp2
          go_roundw
          case rel => exact ⟨k + 1, by omega, by omega, by go_num, by rw [HF.out]; exact HO3, HR3, HB3⟩
          case measure => simp [intOf]; omega
    · have e : k = l.length := by omega
      subst e
      rw [List.take_length] at hown
      have HO : Hid (_) := hown.out
      rw [copiesAt_length] at HO
      obtain ⟨va, vc, hv, _, _⟩ := SegC.of_owns hown.out
      subst hv
      clear hown
      go_wp2
      refine bodyPost_ret (v := .tuple #[.slice va (copiesAt (logOf d p0) i l).length vc, .bool true]) (by simp [results, Try.results34, go_sem]) rfl ?_
      refine ⟨_, true, rfl, hbr.out, ?_⟩
      rw [if_pos hik]
      exact ⟨rfl, HO.out, hRr.out⟩

end Go.Proofs.Ytjnpndfpajjihac

namespace Go.Proofs.Ytjnpndfpajjihac
open Go.RowKit

/-- append of a row onto a row of the call's own. -/
theorem wpList_appIs (w : World) (base : Nat) {ops : Array Oper} {rest : List Oper} {o : Oper} {a : Act} {Q : Exit → Act → World → Prop} (hgd : o.guard = none) (s x : Operand)
    (ho : o.op = .call { callee := .builtin .append, args := #[s, x], argTypes := #[45, 45] })
    (v : Value) (q : List Int) (hs : a.eval s = v) (hown : w.ownsRow base 3 1 v q.length (cellsI q)) (ao : Option Addr) (c : Nat) (l : List Int) (hx : a.eval x = .slice ao l.length c) (hS : SegI w ao l)
    (hn : q.length + l.length ≤ 1000) (hbase : base ≤ w.heap.size)
    (h : ∀ v' w', Hid (w'.ownsRow base 3 1 v' (q ++ l).length (cellsI (q ++ l))) → w.grownBy w' v.ownBlock → wpList Try.prog ops Q rest (a.put o.dst v') w') : wpList Try.prog ops Q (o :: rest) a w := by
  obtain ⟨i0, hi, hz0, hz1, hz2⟩ := info_parts infoI
  cases ao with
  | none =>
    have h0 : l = [] := by rcases hS with h | ⟨b, off, he, _⟩; exact h; cases he
    subst h0
    refine Lib.wpList_append_run w hgd s x _ _ ho _ _ hs hx v w (run_append_nilI w base o.type v q.length c (cellsI q) hown) (h v w ?_ ⟨rfl, rfl, rfl, Nat.le_refl _, fun _ _ _ => rfl⟩)
    rw [List.append_nil]
    exact hown
  | some ad =>
    refine wpList_append_own w hgd s x 45 ho base 3 i0 (.int .i64 0) 1 8 Try.underlying45 hi hz0 hz1 hz2 rfl (by decide) v q.length (cellsI q) hs hown ad l.length c (cellsI l) hx (cellsI_length l) ?_ cellsI_one (by unfold maxLen; omega) (by omega) hbase ?_
    · intro j u hj
      rcases hS with h | ⟨b, off, he, hlt, hc⟩
      · rw [h] at hj; simp [cellsI] at hj
      · cases he
        rw [Addr.add_lit]
        exact SegI.news hc j u hj
    · intro v' w' k1 k2 _
      refine h v' w' ?_ k2
      rw [Hid, cellsI_append, List.length_append]
      exact k1
/-- append of a row onto a row of the call's own. -/
theorem wpList_appCs (w : World) (base : Nat) {ops : Array Oper} {rest : List Oper} {o : Oper} {a : Act} {Q : Exit → Act → World → Prop} (hgd : o.guard = none) (s x : Operand)
    (ho : o.op = .call { callee := .builtin .append, args := #[s, x], argTypes := #[40, 40] })
    (v : Value) (q : List (Int × ByteArray)) (hs : a.eval s = v) (hown : w.ownsRow base 71 2 v q.length (cellsC q)) (ao : Option Addr) (c : Nat) (l : List (Int × ByteArray)) (hx : a.eval x = .slice ao l.length c) (hS : SegW w ao l)
    (hn : q.length + l.length ≤ 1000) (hbase : base ≤ w.heap.size)
    (h : ∀ v' w', Hid (w'.ownsRow base 71 2 v' (q ++ l).length (cellsC (q ++ l))) → w.grownBy w' v.ownBlock → wpList Try.prog ops Q rest (a.put o.dst v') w') : wpList Try.prog ops Q (o :: rest) a w := by
  obtain ⟨i0, hi, hz0, hz1, hz2⟩ := info_parts infoC
  cases ao with
  | none =>
    have h0 : l = [] := by rcases hS with h | ⟨b, off, he, _⟩; exact h; cases he
    subst h0
    refine Lib.wpList_append_run w hgd s x _ _ ho _ _ hs hx v w (run_append_nilC w base o.type v q.length c (cellsC q) hown) (h v w ?_ ⟨rfl, rfl, rfl, Nat.le_refl _, fun _ _ _ => rfl⟩)
    rw [List.append_nil]
    exact hown
  | some ad =>
    refine wpList_append_own w hgd s x 40 ho base 71 i0 (.agg #[.int .i64 0, .string ⟨#[]⟩]) 2 24 Try.underlying40 hi hz0 hz1 hz2 rfl (by decide) v q.length (cellsC q) hs hown ad l.length c (cellsC l) hx (cellsC_length l) ?_ (cellsC_one l) (by unfold maxLen; omega) (by omega) hbase ?_
    · intro j u hj
      rcases hS with h | ⟨b, off, he, hlt, hc⟩
      · rw [h] at hj; simp [cellsC] at hj
      · cases he
        rw [Addr.add_lit]
        exact SegC.news hc j u hj
    · intro v' w' k1 k2 _
      refine h v' w' ?_ k2
      rw [Hid, cellsC_append, List.length_append]
      exact k1

theorem stored10 {w : World} {B : Nat} {u0 u1 u2 u3 u4 u5 u6 u7 u8 u9 : Value} {t : TypeId} (h : w.heap[B]? = some (.cells #[u0, u1, u2, u3, u4, u5, u6, u7, u8, u9] t (0, 0))) (v0 v1 v2 v3 v4 v5 v6 v7 v8 v9 : Value) :
    (((((((((((w.setCell ⟨B, 0, none⟩ v0).setCell ⟨B, 1, none⟩ v1).setCell ⟨B, 2, none⟩ v2).setCell ⟨B, 3, none⟩ v3).setCell ⟨B, 4, none⟩ v4).setCell ⟨B, 5, none⟩ v5).setCell ⟨B, 6, none⟩ v6).setCell ⟨B, 7, none⟩ v7).setCell ⟨B, 8, none⟩ v8).setCell ⟨B, 9, none⟩ v9)).heap[B]? = some (.cells #[v0, v1, v2, v3, v4, v5, v6, v7, v8, v9] t (0, 0)) := by
  have h0 : (w.setCell ⟨B, 0, none⟩ v0).heap[B]? = some (.cells #[v0, u1, u2, u3, u4, u5, u6, u7, u8, u9] t (0, 0)) := heap_setCell_same _ B 0 _ _ v0 h
  have h1 : ((w.setCell ⟨B, 0, none⟩ v0).setCell ⟨B, 1, none⟩ v1).heap[B]? = some (.cells #[v0, v1, u2, u3, u4, u5, u6, u7, u8, u9] t (0, 0)) := heap_setCell_same _ B 1 _ _ v1 h0
  have h2 : (((w.setCell ⟨B, 0, none⟩ v0).setCell ⟨B, 1, none⟩ v1).setCell ⟨B, 2, none⟩ v2).heap[B]? = some (.cells #[v0, v1, v2, u3, u4, u5, u6, u7, u8, u9] t (0, 0)) := heap_setCell_same _ B 2 _ _ v2 h1
  have h3 : ((((w.setCell ⟨B, 0, none⟩ v0).setCell ⟨B, 1, none⟩ v1).setCell ⟨B, 2, none⟩ v2).setCell ⟨B, 3, none⟩ v3).heap[B]? = some (.cells #[v0, v1, v2, v3, u4, u5, u6, u7, u8, u9] t (0, 0)) := heap_setCell_same _ B 3 _ _ v3 h2
  have h4 : (((((w.setCell ⟨B, 0, none⟩ v0).setCell ⟨B, 1, none⟩ v1).setCell ⟨B, 2, none⟩ v2).setCell ⟨B, 3, none⟩ v3).setCell ⟨B, 4, none⟩ v4).heap[B]? = some (.cells #[v0, v1, v2, v3, v4, u5, u6, u7, u8, u9] t (0, 0)) := heap_setCell_same _ B 4 _ _ v4 h3
  have h5 : ((((((w.setCell ⟨B, 0, none⟩ v0).setCell ⟨B, 1, none⟩ v1).setCell ⟨B, 2, none⟩ v2).setCell ⟨B, 3, none⟩ v3).setCell ⟨B, 4, none⟩ v4).setCell ⟨B, 5, none⟩ v5).heap[B]? = some (.cells #[v0, v1, v2, v3, v4, v5, u6, u7, u8, u9] t (0, 0)) := heap_setCell_same _ B 5 _ _ v5 h4
  have h6 : (((((((w.setCell ⟨B, 0, none⟩ v0).setCell ⟨B, 1, none⟩ v1).setCell ⟨B, 2, none⟩ v2).setCell ⟨B, 3, none⟩ v3).setCell ⟨B, 4, none⟩ v4).setCell ⟨B, 5, none⟩ v5).setCell ⟨B, 6, none⟩ v6).heap[B]? = some (.cells #[v0, v1, v2, v3, v4, v5, v6, u7, u8, u9] t (0, 0)) := heap_setCell_same _ B 6 _ _ v6 h5
  have h7 : ((((((((w.setCell ⟨B, 0, none⟩ v0).setCell ⟨B, 1, none⟩ v1).setCell ⟨B, 2, none⟩ v2).setCell ⟨B, 3, none⟩ v3).setCell ⟨B, 4, none⟩ v4).setCell ⟨B, 5, none⟩ v5).setCell ⟨B, 6, none⟩ v6).setCell ⟨B, 7, none⟩ v7).heap[B]? = some (.cells #[v0, v1, v2, v3, v4, v5, v6, v7, u8, u9] t (0, 0)) := heap_setCell_same _ B 7 _ _ v7 h6
  have h8 : (((((((((w.setCell ⟨B, 0, none⟩ v0).setCell ⟨B, 1, none⟩ v1).setCell ⟨B, 2, none⟩ v2).setCell ⟨B, 3, none⟩ v3).setCell ⟨B, 4, none⟩ v4).setCell ⟨B, 5, none⟩ v5).setCell ⟨B, 6, none⟩ v6).setCell ⟨B, 7, none⟩ v7).setCell ⟨B, 8, none⟩ v8).heap[B]? = some (.cells #[v0, v1, v2, v3, v4, v5, v6, v7, v8, u9] t (0, 0)) := heap_setCell_same _ B 8 _ _ v8 h7
  have h9 : ((((((((((w.setCell ⟨B, 0, none⟩ v0).setCell ⟨B, 1, none⟩ v1).setCell ⟨B, 2, none⟩ v2).setCell ⟨B, 3, none⟩ v3).setCell ⟨B, 4, none⟩ v4).setCell ⟨B, 5, none⟩ v5).setCell ⟨B, 6, none⟩ v6).setCell ⟨B, 7, none⟩ v7).setCell ⟨B, 8, none⟩ v8).setCell ⟨B, 9, none⟩ v9).heap[B]? = some (.cells #[v0, v1, v2, v3, v4, v5, v6, v7, v8, v9] t (0, 0)) := heap_setCell_same _ B 9 _ _ v9 h8
  exact h9
theorem stored10a {w : World} {B : Nat} {u0 u1 u2 u3 u4 u5 u6 u7 u8 u9 : Value} {t : TypeId} (h : w.heap[B]? = some (.cells #[u0, u1, u2, u3, u4, u5, u6, u7, u8, u9] t (0, 0))) (v0 v1 v2 v3 v4 v5 v6 v7 v8 v9 : Value) (o : Obj) :
    (((((((((((w.setCell ⟨B, 0, none⟩ v0).setCell ⟨B, 1, none⟩ v1).setCell ⟨B, 2, none⟩ v2).setCell ⟨B, 3, none⟩ v3).setCell ⟨B, 4, none⟩ v4).setCell ⟨B, 5, none⟩ v5).setCell ⟨B, 6, none⟩ v6).setCell ⟨B, 7, none⟩ v7).setCell ⟨B, 8, none⟩ v8).setCell ⟨B, 9, none⟩ v9).alloc o).heap[B]? = some (.cells #[v0, v1, v2, v3, v4, v5, v6, v7, v8, v9] t (0, 0)) := by
  have h9 := stored10 h v0 v1 v2 v3 v4 v5 v6 v7 v8 v9
  exact boxKeep (below1 _ o) (Array.getElem?_eq_some_iff.1 h9).1 h9
theorem owns_n {w : World} {base : Nat} {e : TypeId} {size : Nat} {v : Value} {n m : Nat} {xs : List Value} (h : w.ownsRow base e size v n xs) (hn : n = m) : w.ownsRow base e size v m xs := hn ▸ h
theorem box_setNe {w : World} {B : Nat} {p : Addr} (h : B ≠ p.block) (u : Value) : (w.setCell p u).heap[B]? = w.heap[B]? := by
  rw [World.setCell]
  simp only [Array.getElem?_modify]
  rw [if_neg (fun x => h x.symm)]
theorem runT_step {log : List ByteArray} {j : Nat} (h : j < log.length) (seq : Int) (t : Tx) {mk : Mk} {er : Int} (hM : (mk, er) = stampDec (log.getD j ByteArray.empty)) :
    runT log seq j t = if er ≠ 0 ∨ mk.seq ≠ seq ∨ mk.kind = 1 then none else if mk.kind = 4 then some (j + 1, t) else if j + 1 + mk.tags.length ≤ log.length then runT log seq (j + 1 + mk.tags.length) (more log j t mk) else none := by
  rw [runT, dif_pos h, ← hM]
/-- A transaction of a number with these copies and these revoked. -/
def txW (seq : Int) (info : List (Int × ByteArray)) (rev : List Int) : Tx := ⟨seq, info, [], rev, ⟨false, 0⟩, ⟨false, 0⟩, ⟨false, 0⟩⟩
theorem txW_more (log : List ByteArray) (i : Nat) (seq : Int) (info : List (Int × ByteArray)) (rev : List Int) (m : Mk) : more log i (txW seq info rev) m = txW seq (info ++ copiesAt log (i + 1) m.tags) (rev ++ m.blocks) := rfl
/-- A mark that is read: what a good one is. -/
theorem dec_good {s : ByteArray} (h : (stampDec s).2 = 0) : goodM (stampDec s).1 = 0 := by
  unfold stampDec at h ⊢
  split at h
  · rename_i hc
    rw [if_pos hc]
    exact hc.2.1
  · cases h
theorem good_kind {m : Mk} (h : goodM m = 0) : (m.kind = 1 ∨ m.kind = 2 ∨ m.kind = 3 ∨ m.kind = 4) ∧ (m.kind ≠ 2 → m.tags = []) ∧ (m.kind ≠ 3 → m.blocks = []) ∧ (m.kind = 2 → m.tags.length ≤ 10) ∧ (m.kind = 3 → m.blocks.length ≤ 20) := by
  unfold goodM at h
  split at h
  · cases h
  · split at h
    · cases h
    · split at h
      · cases h
      · split at h
        · cases h
        · rename_i h1 _ h3 h4
          refine ⟨by omega, fun hk => ?_, fun hk => ?_, fun hk => ?_, fun hk => ?_⟩
          · by_cases ht : m.tags = []
            · exact ht
            · exact absurd (.inr (.inl ⟨hk, ht⟩)) h3
          · by_cases ht : m.blocks = []
            · exact ht
            · exact absurd (.inr (.inr ⟨hk, ht⟩)) h3
          · by_cases ht : m.tags.length ≤ 10
            · exact ht
            · exact absurd (.inl ⟨hk, .inr (by omega)⟩) h4
          · by_cases ht : m.blocks.length ≤ 20
            · exact ht
            · exact absurd (.inr (.inl ⟨hk, .inr (by omega)⟩)) h4
/-- What transaction answers. -/
def TPost (w w' : World) (R : Nat) (a : Option Addr) (c : Nat) (a' : Option Addr) (c' : Nat) (d : Dk) (p0 i : Nat) (seq : Int) (v : Value) (b : Bool) : Prop :=
  match runT (logOf d p0) seq i (txOf seq) with
  | none => b = false ∧ v = .agg #[.int .i64 0, .slice none 0 0, .slice none 0 0, .slice none 0 0, .bool false, .int .i64 0, .bool false, .int .i64 0, .bool false, .int .i64 0]
  | some (n, t) => b = true ∧ Rd w' R a c a' c' d p0 n ∧ ∃ m r, v = .agg #[.int .i64 seq, m, .slice none 0 0, r, .bool false, .int .i64 0, .bool false, .int .i64 0, .bool false, .int .i64 0] ∧ OwnR w' w.heap.size ⟨m, .slice none 0 0, r, t⟩ ∧ t = txW seq t.info t.rev

def TEnd (w w' : World) (R : Nat) (a : Option Addr) (c : Nat) (a' : Option Addr) (c' : Nat) (d : Dk) (p0 i : Nat) (seq : Int) (e : Ending) : Prop := ∃ v b, e = .returned (.tuple #[v, .bool b]) ∧ But R w.heap.size w w' ∧ TPost w w' R a c a' c' d p0 i seq v b

set_option maxHeartbeats 8000000 in
set_option maxRecDepth 100000 in
theorem rtrans_any (R : Nat) (a : Option Addr) (c : Nat) (a' : Option Addr) (c' : Nat) (d : Dk) (p0 i : Nat) (seq : Int) (w w0 : World) (hR : Rd w R a c a' c' d p0 i) (hi : i ≤ 24) (hD : IsDk w0 (.agg #[.slice a d.safe.length c, .slice a' d.wr.length c']) d) (hg : goodB d = true) (hb : Below w0.heap.size w0 w) (hR0 : w0.heap.size ≤ R) :
    Calls Try.prog 17 #[.pointer (some ⟨R, 0, none⟩), .int .i64 seq] w fun e w' => TEnd w w' R a c a' c' d p0 i seq e := by
  have hRl := hR.lt
  have HD := hide hD
  have HBW := hide hb
  have HR := hide hR
  clear hD hb hR
  go_enter Try.func17, Try.ntmps17
  go_wp2
  go_loopw [8] (fun _ wr => ∃ (j : Nat) (info : List (Int × ByteArray)) (rev : List Int) (ma : Option Addr) (mc : Nat) (ra : Option Addr) (rc : Nat), i ≤ j ∧ j ≤ 24 ∧ info.length ≤ j ∧ rev.length ≤ 20 * j ∧ Hid (runT (logOf d p0) seq i (txOf seq) = runT (logOf d p0) seq j (txW seq info rev)) ∧ Hid (Rd wr R a c a' c' d p0 j) ∧ Hid (But R w.heap.size w wr) ∧ w.heap.size + 1 < wr.heap.size ∧
      Hid (wr.heap[w.heap.size]? = some (.cells #[.int .i64 0, .slice none 0 0, .slice none 0 0, .slice none 0 0, .bool false, .int .i64 0, .bool false, .int .i64 0, .bool false, .int .i64 0] 50 (0, 0))) ∧ Hid (wr.heap[w.heap.size + 1]? = some (.cells #[.int .i64 seq, .slice ma info.length mc, .slice none 0 0, .slice ra rev.length rc, .bool false, .int .i64 0, .bool false, .int .i64 0, .bool false, .int .i64 0] 50 (0, 0))) ∧ Hid (wr.ownsRow (w.heap.size + 2) 71 2 (.slice ma info.length mc) info.length (cellsC info)) ∧ Hid (wr.ownsRow (w.heap.size + 2) 3 1 (.slice ra rev.length rc) rev.length (cellsI rev)))
    (fun _ wr => match wr.cell? ⟨R, 3, none⟩ with | some (.int _ n) => n.toNat | _ => 0)
  case atStart => exact ⟨i, [], [], none, 0, none, 0, Nat.le_refl _, hi, Nat.zero_le _, Nat.zero_le _, rfl, HR.out.below (bthen (below1 _ _) (below1 _ _)), But.of_below (bthen (below1 _ _) (below1 _ _)), by simp, two1 (Below.refl _ _), two2 (Below.refl _ _), World.ownsRow_nil _ _ _ _, World.ownsRow_nil _ _ _ _⟩
  case round =>
    obtain ⟨j, info, rev, ma, mc, ra, rc, hij, hj, hil, hrl, HRUN, HRr, HB, hsz, KB, KT, HOM, HOR⟩ := hrel
    have hMEAS : (match wr.cell? ⟨R, 3, none⟩ with | some (.int _ n) => n.toNat | _ => 0) = 24 - j := by rw [(box4 HRr.out).1.2.2.2]; simp
    rw [hMEAS]
    have HBW1 : Hid (Below w0.heap.size w0 wr) := HB.out.below HBW.out HBW.out.size hR0
    by_cases hend : j = 24
    · subst hend
      have HNO : Hid (runT (logOf d p0) seq i (txOf seq) = none) := by rw [Hid, HRUN.out, runT, dif_neg (by rw [logOf_length]; omega)]
      clear hMEAS
      go_wp2_with fail
      refine (rmark_end R a c a' c' d p0 seq _ HRr.out).mono ?_
      rintro e w1 ⟨rfl, hb1⟩
      have HB1 : Hid (But R w.heap.size w w1) := HB.out.trans (But.of_below hb1) HB.out.size
      have KB1 := hide (boxKeep hb1 (by omega) KB.out)
      have hsz1 : w.heap.size + 1 < w1.heap.size := Nat.lt_of_lt_of_le hsz hb1.size
      have hsz1' : w.heap.size < w1.heap.size := by omega
      clear hb1 HRr KB KT HOM HOR HB
      obtain ⟨⟨z0, z1, z2, z3, z4, z5, z6, z7, z8, z9⟩, zf⟩ := box10 KB1.out
      go_wp2
      obtain ⟨W, hW⟩ : ∃ W, W = (((((((((((w1.setCell ⟨w.heap.size, 0, none⟩ (.int .i64 0)).setCell ⟨w.heap.size, 1, none⟩ (.slice none 0 0)).setCell ⟨w.heap.size, 2, none⟩ (.slice none 0 0)).setCell ⟨w.heap.size, 3, none⟩ (.slice none 0 0)).setCell ⟨w.heap.size, 4, none⟩ (.bool false)).setCell ⟨w.heap.size, 5, none⟩ (.int .i64 0)).setCell ⟨w.heap.size, 6, none⟩ (.bool false)).setCell ⟨w.heap.size, 7, none⟩ (.int .i64 0)).setCell ⟨w.heap.size, 8, none⟩ (.bool false)).setCell ⟨w.heap.size, 9, none⟩ (.int .i64 0)).alloc (.cells #[.int .i64 0, .int .i64 0, .int .i64 0, .slice none 0 0, .slice none 0 0] 58)) := ⟨_, rfl⟩
      have hbx := stored10a KB1.out (.int .i64 0) (.slice none 0 0) (.slice none 0 0) (.slice none 0 0) (.bool false) (.int .i64 0) (.bool false) (.int .i64 0) (.bool false) (.int .i64 0) (.cells #[.int .i64 0, .int .i64 0, .int .i64 0, .slice none 0 0, .slice none 0 0] 58)
      rw [← hW] at hbx
      obtain ⟨⟨y0, y1, y2, y3, y4, y5, y6, y7, y8, y9⟩, _⟩ := box10 hbx
      have HW := hide hW
      rw [← hW]
      clear hW hbx z0 z1 z2 z3 z4 z5 z6 z7 z8 z9 zf
      refine bodyPost_ret (v := .tuple #[.agg #[.int .i64 0, .slice none 0 0, .slice none 0 0, .slice none 0 0, .bool false, .int .i64 0, .bool false, .int .i64 0, .bool false, .int .i64 0], .bool false]) (by simp [results, Try.results17, go_sem, y0, y1, y2, y3, y4, y5, y6, y7, y8, y9]) rfl ?_
      unfold TEnd
      refine ⟨_, false, rfl, ?_, ?_⟩
      · rw [HW.out]
        exact (But.trans ((((((((((HB1.out.setNew (p := ⟨w.heap.size, 0, none⟩) (Nat.le_refl _) _).setNew (p := ⟨w.heap.size, 1, none⟩) (Nat.le_refl _) _).setNew (p := ⟨w.heap.size, 2, none⟩) (Nat.le_refl _) _).setNew (p := ⟨w.heap.size, 3, none⟩) (Nat.le_refl _) _).setNew (p := ⟨w.heap.size, 4, none⟩) (Nat.le_refl _) _).setNew (p := ⟨w.heap.size, 5, none⟩) (Nat.le_refl _) _).setNew (p := ⟨w.heap.size, 6, none⟩) (Nat.le_refl _) _).setNew (p := ⟨w.heap.size, 7, none⟩) (Nat.le_refl _) _).setNew (p := ⟨w.heap.size, 8, none⟩) (Nat.le_refl _) _).setNew (p := ⟨w.heap.size, 9, none⟩) (Nat.le_refl _) _) (But.of_below (below1 _ _)) (by simp [World.setCell]; omega))
      · rw [TPost, HNO.out]
        exact ⟨rfl, rfl⟩
    · have hlt : j < 24 := by omega
      clear hMEAS
      go_wp2_with fail
      refine (rmark_next R a c a' c' d p0 j seq _ w0 HRr.out hlt HD.out hg HBW1.out).mono ?_
      rintro e w1 ⟨v2, rfl, hN, hR1, hb1⟩
      obtain ⟨M, hM⟩ : ∃ M, M = stampDec ((logOf d p0).getD j ByteArray.empty) := ⟨_, rfl⟩
      rw [← hM] at hN ⊢
      obtain ⟨mk, er⟩ := M
      have HSTEP := hide (runT_step (log := logOf d p0) (j := j) (by rw [logOf_length]; exact hlt) seq (txW seq info rev) hM)
      have hgm : er = 0 → goodM mk = 0 := by
        intro he
        have := dec_good (s := (logOf d p0).getD j ByteArray.empty) (by rw [← hM]; exact he)
        rw [← hM] at this
        exact this
      have HGM := hide hgm
      clear hM hgm
      obtain ⟨a2, c2, a3, c3, rfl, hT, hI, n1, n2, t1, t2⟩ := hN
      have hs1 := hb1.size
      have HR1 := hide hR1
      have HT := hide hT
      have HI := hide hI
      have HTR : Hid (∀ b off, a2 = some ⟨b, off, none⟩ → b ≠ R) := fun b off e => by have := t1 b off e; omega
      have KB1 : Hid (w1.heap[w.heap.size]? = _) := (hb1.block _ (by omega) (by omega)).trans KB.out
      have KT1 : Hid (w1.heap[w.heap.size + 1]? = _) := (hb1.block _ (by omega) (by omega)).trans KT.out
      have HB1 : Hid (But R w.heap.size w w1) := HB.out.trans hb1 (by omega)
      have HM1 := hide (owns_but HOM.out hb1 (by omega))
      have HV1 := hide (owns_but HOR.out hb1 (by omega))
      have hsz1 : w.heap.size + 1 < w1.heap.size := by omega
      have hsz1' : w.heap.size < w1.heap.size := by omega
      clear hR1 hT hI t1 t2 hb1 KB KT HB HOM HOR HRr HBW1 n1 n2
      by_cases hok : er = 0 ∧ mk.seq = seq
      · obtain ⟨rfl, hq⟩ := hok
        have hfl : (decide ((0 : Int) = 0) && decide (mk.seq = seq)) = true := by simp [hq]
        dsimp only
        rw [hfl]
        obtain ⟨hkind, hk2, hk3, hk4, hk5⟩ := good_kind (HGM.out rfl)
        have HK2 := hide hk2
        have HK3 := hide hk3
        clear hfl hk2 hk3 HGM
        rcases hkind with hk | hk | hk | hk
        · have HNO : Hid (runT (logOf d p0) seq i (txOf seq) = none) := by rw [Hid, HRUN.out, HSTEP.out, if_pos (.inr (.inr hk))]
          clear HSTEP HRUN
          obtain ⟨⟨z0, z1, z2, z3, z4, z5, z6, z7, z8, z9⟩, zf⟩ := box10 KB1.out
          go_wp2
          obtain ⟨W, hW⟩ : ∃ W, W = (((((((((((w1.setCell ⟨w.heap.size, 0, none⟩ (.int .i64 0)).setCell ⟨w.heap.size, 1, none⟩ (.slice none 0 0)).setCell ⟨w.heap.size, 2, none⟩ (.slice none 0 0)).setCell ⟨w.heap.size, 3, none⟩ (.slice none 0 0)).setCell ⟨w.heap.size, 4, none⟩ (.bool false)).setCell ⟨w.heap.size, 5, none⟩ (.int .i64 0)).setCell ⟨w.heap.size, 6, none⟩ (.bool false)).setCell ⟨w.heap.size, 7, none⟩ (.int .i64 0)).setCell ⟨w.heap.size, 8, none⟩ (.bool false)).setCell ⟨w.heap.size, 9, none⟩ (.int .i64 0)).alloc (.cells #[.int .i64 1, .int .i64 seq, .int .i64 mk.pos, .slice a2 mk.tags.length c2, .slice a3 mk.blocks.length c3] 58)) := ⟨_, rfl⟩
          have hbx := stored10a KB1.out (.int .i64 0) (.slice none 0 0) (.slice none 0 0) (.slice none 0 0) (.bool false) (.int .i64 0) (.bool false) (.int .i64 0) (.bool false) (.int .i64 0) (.cells #[.int .i64 1, .int .i64 seq, .int .i64 mk.pos, .slice a2 mk.tags.length c2, .slice a3 mk.blocks.length c3] 58)
          rw [← hW] at hbx
          obtain ⟨⟨y0, y1, y2, y3, y4, y5, y6, y7, y8, y9⟩, _⟩ := box10 hbx
          have HW := hide hW
          rw [← hW]
          clear hW hbx z0 z1 z2 z3 z4 z5 z6 z7 z8 z9 zf
          refine bodyPost_ret (v := .tuple #[.agg #[.int .i64 0, .slice none 0 0, .slice none 0 0, .slice none 0 0, .bool false, .int .i64 0, .bool false, .int .i64 0, .bool false, .int .i64 0], .bool false]) (by simp [results, Try.results17, go_sem, y0, y1, y2, y3, y4, y5, y6, y7, y8, y9]) rfl ?_
          unfold TEnd
          refine ⟨_, false, rfl, ?_, ?_⟩
          · rw [HW.out]
            exact (But.trans ((((((((((HB1.out.setNew (p := ⟨w.heap.size, 0, none⟩) (Nat.le_refl _) _).setNew (p := ⟨w.heap.size, 1, none⟩) (Nat.le_refl _) _).setNew (p := ⟨w.heap.size, 2, none⟩) (Nat.le_refl _) _).setNew (p := ⟨w.heap.size, 3, none⟩) (Nat.le_refl _) _).setNew (p := ⟨w.heap.size, 4, none⟩) (Nat.le_refl _) _).setNew (p := ⟨w.heap.size, 5, none⟩) (Nat.le_refl _) _).setNew (p := ⟨w.heap.size, 6, none⟩) (Nat.le_refl _) _).setNew (p := ⟨w.heap.size, 7, none⟩) (Nat.le_refl _) _).setNew (p := ⟨w.heap.size, 8, none⟩) (Nat.le_refl _) _).setNew (p := ⟨w.heap.size, 9, none⟩) (Nat.le_refl _) _) (But.of_below (below1 _ _)) (by simp [World.setCell]; omega))
          · rw [TPost, HNO.out]
            exact ⟨rfl, rfl⟩
        · have htl := hk4 hk
          have hbl : mk.blocks = [] := HK3.out (by omega)
          have HST : Hid (runT (logOf d p0) seq j (txW seq info rev) = if j + 1 + mk.tags.length ≤ 24 then runT (logOf d p0) seq (j + 1 + mk.tags.length) (txW seq (info ++ copiesAt (logOf d p0) (j + 1) mk.tags) rev) else none) := by
            rw [Hid, HSTEP.out, if_neg (by simp [hq, hk]), if_neg (by omega), txW_more, hbl, List.append_nil, logOf_length]
          clear HSTEP hbl
          go_wp2_with fail
          refine (rcopies_any R a c a' c' d p0 (j + 1) a2 c2 mk.tags _ w0 (HR1.out.below (below1 _ _)) (by omega) HD.out hg (bthen (HB1.out.below HBW.out HBW.out.size hR0) (below1 _ _)) hR0 (HT.out.below (below1 _ _)) HTR.out).mono ?_
          rintro e w2 ⟨v2, b2, rfl, hC⟩
          have hs2 : w1.heap.size + 1 ≤ w2.heap.size := by have := hC.1.size; simpa using this
          have KB2 : Hid (w2.heap[w.heap.size]? = _) := (hC.1.block _ (by simp; omega) (by omega)).trans (boxKeep (below1 _ _) hsz1' KB1.out)
          have KT2 : Hid (w2.heap[w.heap.size + 1]? = _) := (hC.1.block _ (by simp; omega) (by omega)).trans (boxKeep (below1 _ _) hsz1 KT1.out)
          have HB2 : Hid (But R w.heap.size w w2) := (HB1.out.trans (But.of_below (below1 _ _)) (by omega)).trans hC.1 (by simp; omega)
          have HM2 := hide (owns_but (owns_keep HM1.out (below1 _ _)) hC.1 (by omega))
          have HV2 := hide (owns_but (owns_keep HV1.out (below1 _ _)) hC.1 (by omega))
          have hsz2 : w.heap.size + 1 < w2.heap.size := by omega
          have hsz2' : w.heap.size < w2.heap.size := by omega
          have HCP := hide hC.2
          clear hC HT HI HTR HR1 HB1 KB1 KT1 HM1 HV1
          by_cases hle : j + 1 + mk.tags.length ≤ 24
          · have hc := HCP.out
            rw [if_pos hle] at hc
            obtain ⟨rfl, hown, hRd⟩ := hc
            have HRUN2 : Hid (runT (logOf d p0) seq i (txOf seq) = runT (logOf d p0) seq (j + 1 + mk.tags.length) (txW seq (info ++ copiesAt (logOf d p0) (j + 1) mk.tags) rev)) := by rw [Hid, HRUN.out, HST.out, if_pos hle]
            obtain ⟨ca, cc, rfl, hS, _⟩ := SegC.of_owns hown
            have HS := hide hS
            have HR2 := hide hRd
            have hcl := copiesAt_length (logOf d p0) (j + 1) mk.tags
            have HCL := hide hcl
            clear hown hS hRd HCP HST HRUN
            generalize copiesAt (logOf d p0) (j + 1) mk.tags = cp at *
            clear hcl
            obtain ⟨⟨z0, z1, z2, z3, z4, z5, z6, z7, z8, z9⟩, zf⟩ := box10 KT2.out
            go_wp2_with (at_builtin; refine wpList_appCs _ (w.heap.size + 2) rfl _ _ rfl (.slice ma info.length mc) info rfl HM2.out ca cc cp rfl HS.out (by have := HCL.out; omega) (by omega) ?_)
            intro v3 w3 HO3 hg3
            obtain ⟨nf, hnf⟩ : ∃ nf, nf = info ++ cp := ⟨_, rfl⟩
            have hnfl : nf.length ≤ j + 1 + mk.tags.length := by have := HCL.out; rw [hnf, List.length_append]; omega
            replace HO3 := hide (owns_n HO3.out (show _ = nf.length by simp [hnf]))
            rw [← hnf] at HO3 HRUN2
            clear hnf
            obtain ⟨ma3, mc3, hv3, _, _⟩ := SegC.of_owns HO3.out
            subst hv3
            have hob : ∀ k, (Value.slice ma info.length mc).ownBlock = some k → w.heap.size + 2 ≤ k := fun k hk => (HM2.out.lt k hk).1
            have hob3 : ∀ k, (Value.slice ma3 nf.length mc3).ownBlock = some k → w.heap.size + 2 ≤ k := fun k hk => (HO3.out.lt k hk).1
            have hobv : ∀ k, (Value.slice ra rev.length rc).ownBlock = some k → w.heap.size + 2 ≤ k := fun k hk => (HV2.out.lt k hk).1
            have hs3 := hg3.size
            have KB3 : Hid (w3.heap[w.heap.size]? = _) := (hg3.block _ hsz2' (fun e => by have := hob _ e.symm; omega)).trans KB2.out
            have KT3 : Hid (w3.heap[w.heap.size + 1]? = _) := (hg3.block _ hsz2 (fun e => by have := hob _ e.symm; omega)).trans KT2.out
            have HR3 : Hid (Rd w3 R a c a' c' d p0 (j + 1 + mk.tags.length)) := HR2.out.grown hg3 (fun k hk => by have := hob k hk; omega)
            have HB3 : Hid (But R w.heap.size w w3) := HB2.out.grown hg3 (fun k hk => by have := hob k hk; omega) (by omega)
            have HV3 := hide (owns_other HV2.out HM2.out (by decide) hg3)
            have HOB := hide (And.intro hob3 hobv)
            clear z0 z1 z2 z3 z4 z5 z6 z7 z8 z9 zf hob hob3 hobv hg3 KB2 KT2 HB2 HM2 HV2 HR2 HS
            obtain ⟨⟨z0, z1, z2, z3, z4, z5, z6, z7, z8, z9⟩, zf⟩ := box10 KT3.out
            have hRT : R ≠ w.heap.size + 1 := by omega
            go_wp2
            clear z0 z1 z2 z3 z4 z5 z6 z7 z8 z9 zf
            go_roundw
            case rel => exact ⟨j + 1 + mk.tags.length, nf, rev, ma3, mc3, ra, rc, by omega, hle, hnfl, by omega, HRUN2, HR3.out.setNe hRT _, HB3.out.setNew (p := ⟨w.heap.size + 1, 1, none⟩) (by simp) _, by simp [World.setCell]; omega, (box_setNe (by simp) _).trans KB3.out, heap_setCell_same _ _ 1 _ _ (.slice ma3 nf.length mc3) KT3.out, owns_setNe HO3.out (fun k hk => by have := HOB.out.1 k hk; simp; omega) _, owns_setNe HV3.out (fun k hk => by have := HOB.out.2 k hk; simp; omega) _⟩
            case measure =>
              rw [(box4 (HR3.out.setNe (p := ⟨w.heap.size + 1, 1, none⟩) hRT _)).1.2.2.2]
              simp
              omega
          · have hc := HCP.out
            rw [if_neg hle] at hc
            obtain ⟨rfl, rfl⟩ := hc
            have HNO : Hid (runT (logOf d p0) seq i (txOf seq) = none) := by rw [Hid, HRUN.out, HST.out, if_neg hle]
            clear HCP HST HRUN HM2 HV2 KT2
            obtain ⟨⟨z0, z1, z2, z3, z4, z5, z6, z7, z8, z9⟩, zf⟩ := box10 KB2.out
            go_wp2
            obtain ⟨W, hW⟩ : ∃ W, W = ((((((((((w2.setCell ⟨w.heap.size, 0, none⟩ (.int .i64 0)).setCell ⟨w.heap.size, 1, none⟩ (.slice none 0 0)).setCell ⟨w.heap.size, 2, none⟩ (.slice none 0 0)).setCell ⟨w.heap.size, 3, none⟩ (.slice none 0 0)).setCell ⟨w.heap.size, 4, none⟩ (.bool false)).setCell ⟨w.heap.size, 5, none⟩ (.int .i64 0)).setCell ⟨w.heap.size, 6, none⟩ (.bool false)).setCell ⟨w.heap.size, 7, none⟩ (.int .i64 0)).setCell ⟨w.heap.size, 8, none⟩ (.bool false)).setCell ⟨w.heap.size, 9, none⟩ (.int .i64 0)) := ⟨_, rfl⟩
            have hbx := stored10 KB2.out (.int .i64 0) (.slice none 0 0) (.slice none 0 0) (.slice none 0 0) (.bool false) (.int .i64 0) (.bool false) (.int .i64 0) (.bool false) (.int .i64 0)
            rw [← hW] at hbx
            obtain ⟨⟨y0, y1, y2, y3, y4, y5, y6, y7, y8, y9⟩, _⟩ := box10 hbx
            have HW := hide hW
            rw [← hW]
            clear hW hbx z0 z1 z2 z3 z4 z5 z6 z7 z8 z9 zf
            refine bodyPost_ret (v := .tuple #[.agg #[.int .i64 0, .slice none 0 0, .slice none 0 0, .slice none 0 0, .bool false, .int .i64 0, .bool false, .int .i64 0, .bool false, .int .i64 0], .bool false]) (by simp [results, Try.results17, go_sem, y0, y1, y2, y3, y4, y5, y6, y7, y8, y9]) rfl ?_
            unfold TEnd
            refine ⟨_, false, rfl, ?_, ?_⟩
            · rw [HW.out]
              exact ((((((((((HB2.out.setNew (p := ⟨w.heap.size, 0, none⟩) (Nat.le_refl _) _).setNew (p := ⟨w.heap.size, 1, none⟩) (Nat.le_refl _) _).setNew (p := ⟨w.heap.size, 2, none⟩) (Nat.le_refl _) _).setNew (p := ⟨w.heap.size, 3, none⟩) (Nat.le_refl _) _).setNew (p := ⟨w.heap.size, 4, none⟩) (Nat.le_refl _) _).setNew (p := ⟨w.heap.size, 5, none⟩) (Nat.le_refl _) _).setNew (p := ⟨w.heap.size, 6, none⟩) (Nat.le_refl _) _).setNew (p := ⟨w.heap.size, 7, none⟩) (Nat.le_refl _) _).setNew (p := ⟨w.heap.size, 8, none⟩) (Nat.le_refl _) _).setNew (p := ⟨w.heap.size, 9, none⟩) (Nat.le_refl _) _)
            · rw [TPost, HNO.out]
              exact ⟨rfl, rfl⟩
        · have hbl2 := hk5 hk
          have htg : mk.tags = [] := HK2.out (by omega)
          have HRUN2 : Hid (runT (logOf d p0) seq i (txOf seq) = runT (logOf d p0) seq (j + 1) (txW seq info (rev ++ mk.blocks))) := by
            rw [Hid, HRUN.out, HSTEP.out, if_neg (by simp [hq, hk]), if_neg (by omega), txW_more, htg, if_pos (by rw [logOf_length]; simp; omega)]
            simp [copiesAt]
          clear HSTEP HRUN htg
          obtain ⟨⟨z0, z1, z2, z3, z4, z5, z6, z7, z8, z9⟩, zf⟩ := box10 KT1.out
          go_wp2_with (at_builtin; refine wpList_appIs _ (w.heap.size + 2) rfl _ _ rfl (.slice ra rev.length rc) rev rfl (owns_keep HV1.out (below1 _ _)) a3 c3 mk.blocks rfl (HI.out.below (below1 _ _)) (by omega) (by simp; omega) ?_)
          intro v3 w3 HO3 hg3
          obtain ⟨rv, hrv⟩ : ∃ rv, rv = rev ++ mk.blocks := ⟨_, rfl⟩
          have hrvl : rv.length ≤ 20 * (j + 1) := by rw [hrv, List.length_append]; omega
          replace HO3 := hide (owns_n HO3.out (show _ = rv.length by simp [hrv]))
          rw [← hrv] at HO3 HRUN2
          clear hrv
          obtain ⟨ra3, rc3, hv3, _, _⟩ := SegI.of_owns HO3.out
          subst hv3
          have hB2 : Below w1.heap.size w1 (w1.alloc (.cells #[.int .i64 3, .int .i64 seq, .int .i64 mk.pos, .slice a2 mk.tags.length c2, .slice a3 mk.blocks.length c3] 58)) := below1 _ _
          have hob : ∀ k, (Value.slice ra rev.length rc).ownBlock = some k → w.heap.size + 2 ≤ k := fun k hk => (HV1.out.lt k hk).1
          have hob3 : ∀ k, (Value.slice ra3 rv.length rc3).ownBlock = some k → w.heap.size + 2 ≤ k := fun k hk => (HO3.out.lt k hk).1
          have hobm : ∀ k, (Value.slice ma info.length mc).ownBlock = some k → w.heap.size + 2 ≤ k := fun k hk => (HM1.out.lt k hk).1
          have hs3 : w1.heap.size + 1 ≤ w3.heap.size := by have := hg3.size; simpa using this
          have KB3 : Hid (w3.heap[w.heap.size]? = _) := (hg3.block _ (by simp; omega) (fun e => by have := hob _ e.symm; omega)).trans (boxKeep hB2 hsz1' KB1.out)
          have KT3 : Hid (w3.heap[w.heap.size + 1]? = _) := (hg3.block _ (by simp; omega) (fun e => by have := hob _ e.symm; omega)).trans (boxKeep hB2 hsz1 KT1.out)
          have HR3 : Hid (Rd w3 R a c a' c' d p0 (j + 1)) := (HR1.out.below hB2).grown hg3 (fun k hk => by have := hob k hk; omega)
          have HB3 : Hid (But R w.heap.size w w3) := (HB1.out.trans (But.of_below hB2) (by omega)).grown hg3 (fun k hk => by have := hob k hk; omega) (by simp; omega)
          have HM3 := hide (owns_other (owns_keep HM1.out hB2) (owns_keep HV1.out hB2) (by decide) hg3)
          have HOB := hide (And.intro hob3 hobm)
          clear z0 z1 z2 z3 z4 z5 z6 z7 z8 z9 zf hob hob3 hobm hg3 KB1 KT1 HB1 HM1 HV1 HR1 HT HI HTR hB2
          obtain ⟨⟨z0, z1, z2, z3, z4, z5, z6, z7, z8, z9⟩, zf⟩ := box10 KT3.out
          have hRT : R ≠ w.heap.size + 1 := by omega
          have hsz3 : w.heap.size + 1 < w3.heap.size := by omega
          go_wp2
          clear z0 z1 z2 z3 z4 z5 z6 z7 z8 z9 zf
          go_roundw
          case rel => exact ⟨j + 1, info, rv, ma, mc, ra3, rc3, by omega, by omega, by omega, hrvl, HRUN2, HR3.out.setNe hRT _, HB3.out.setNew (p := ⟨w.heap.size + 1, 3, none⟩) (by simp) _, by simp [World.setCell]; omega, (box_setNe (by simp) _).trans KB3.out, heap_setCell_same _ _ 3 _ _ (.slice ra3 rv.length rc3) KT3.out, owns_setNe HM3.out (fun k hk => by have := HOB.out.2 k hk; simp; omega) _, owns_setNe HO3.out (fun k hk => by have := HOB.out.1 k hk; simp; omega) _⟩
          case measure =>
            rw [(box4 (HR3.out.setNe (p := ⟨w.heap.size + 1, 3, none⟩) hRT _)).1.2.2.2]
            simp
            omega
        · have HYES : Hid (runT (logOf d p0) seq i (txOf seq) = some (j + 1, txW seq info rev)) := by rw [Hid, HRUN.out, HSTEP.out, if_neg (by simp [hq, hk]), if_pos hk]
          have hobv : ∀ k, (Value.slice ra rev.length rc).ownBlock = some k → w.heap.size + 2 ≤ k := fun k hk => (HV1.out.lt k hk).1
          have hobm : ∀ k, (Value.slice ma info.length mc).ownBlock = some k → w.heap.size + 2 ≤ k := fun k hk => (HM1.out.lt k hk).1
          have HOB := hide (And.intro hobm hobv)
          clear HSTEP HRUN hobv hobm HT HI HTR
          obtain ⟨⟨z0, z1, z2, z3, z4, z5, z6, z7, z8, z9⟩, zf⟩ := box10 KB1.out
          obtain ⟨⟨y0, y1, y2, y3, y4, y5, y6, y7, y8, y9⟩, yf⟩ := box10 KT1.out
          go_wp2
          clear y0 y1 y2 y3 y4 y5 y6 y7 y8 y9 yf
          obtain ⟨W, hW⟩ : ∃ W, W = (((((((((((w1.setCell ⟨w.heap.size, 0, none⟩ (.int .i64 seq)).setCell ⟨w.heap.size, 1, none⟩ (.slice ma info.length mc)).setCell ⟨w.heap.size, 2, none⟩ (.slice none 0 0)).setCell ⟨w.heap.size, 3, none⟩ (.slice ra rev.length rc)).setCell ⟨w.heap.size, 4, none⟩ (.bool false)).setCell ⟨w.heap.size, 5, none⟩ (.int .i64 0)).setCell ⟨w.heap.size, 6, none⟩ (.bool false)).setCell ⟨w.heap.size, 7, none⟩ (.int .i64 0)).setCell ⟨w.heap.size, 8, none⟩ (.bool false)).setCell ⟨w.heap.size, 9, none⟩ (.int .i64 0)).alloc (.cells #[.int .i64 4, .int .i64 seq, .int .i64 mk.pos, .slice a2 mk.tags.length c2, .slice a3 mk.blocks.length c3] 58)) := ⟨_, rfl⟩
          have hbx := stored10a KB1.out (.int .i64 seq) (.slice ma info.length mc) (.slice none 0 0) (.slice ra rev.length rc) (.bool false) (.int .i64 0) (.bool false) (.int .i64 0) (.bool false) (.int .i64 0) (.cells #[.int .i64 4, .int .i64 seq, .int .i64 mk.pos, .slice a2 mk.tags.length c2, .slice a3 mk.blocks.length c3] 58)
          rw [← hW] at hbx
          obtain ⟨⟨y0, y1, y2, y3, y4, y5, y6, y7, y8, y9⟩, _⟩ := box10 hbx
          have HW := hide hW
          rw [← hW]
          clear hW hbx z0 z1 z2 z3 z4 z5 z6 z7 z8 z9 zf
          refine bodyPost_ret (v := .tuple #[.agg #[.int .i64 seq, .slice ma info.length mc, .slice none 0 0, .slice ra rev.length rc, .bool false, .int .i64 0, .bool false, .int .i64 0, .bool false, .int .i64 0], .bool true]) (by simp [results, Try.results17, go_sem, y0, y1, y2, y3, y4, y5, y6, y7, y8, y9]) rfl ?_
          unfold TEnd
          refine ⟨_, true, rfl, ?_, ?_⟩
          · rw [HW.out]
            exact (But.trans ((((((((((HB1.out.setNew (p := ⟨w.heap.size, 0, none⟩) (Nat.le_refl _) _).setNew (p := ⟨w.heap.size, 1, none⟩) (Nat.le_refl _) _).setNew (p := ⟨w.heap.size, 2, none⟩) (Nat.le_refl _) _).setNew (p := ⟨w.heap.size, 3, none⟩) (Nat.le_refl _) _).setNew (p := ⟨w.heap.size, 4, none⟩) (Nat.le_refl _) _).setNew (p := ⟨w.heap.size, 5, none⟩) (Nat.le_refl _) _).setNew (p := ⟨w.heap.size, 6, none⟩) (Nat.le_refl _) _).setNew (p := ⟨w.heap.size, 7, none⟩) (Nat.le_refl _) _).setNew (p := ⟨w.heap.size, 8, none⟩) (Nat.le_refl _) _).setNew (p := ⟨w.heap.size, 9, none⟩) (Nat.le_refl _) _) (But.of_below (below1 _ _)) (by simp [World.setCell]; omega))
          · rw [TPost, HYES.out]
            refine ⟨rfl, ?_, _, _, rfl, ⟨?_, ?_, ?_⟩, rfl⟩
            · rw [HW.out]
              refine Rd.below ?_ (below1 _ _)
              repeat refine Rd.setNe ?_ (show R ≠ w.heap.size by omega) _
              exact HR1.out
            · rw [HW.out]
              refine owns_base (owns_keep ?_ (below1 _ _)) (show w.heap.size ≤ w.heap.size + 2 by omega)
              repeat refine owns_setNe ?_ (fun k e => by have := HOB.out.1 k e; simp; omega) _
              exact HM1.out
            · exact World.ownsRow_nil _ _ _ _
            · rw [HW.out]
              refine owns_base (owns_keep ?_ (below1 _ _)) (show w.heap.size ≤ w.heap.size + 2 by omega)
              repeat refine owns_setNe ?_ (fun k e => by have := HOB.out.2 k e; simp; omega) _
              exact HV1.out
      · have hfl : (decide (er = 0) && decide (mk.seq = seq)) = false := by
          rw [Bool.and_eq_false_iff]
          by_cases he : er = 0
          · right; exact decide_eq_false fun hq => hok ⟨he, hq⟩
          · left; exact decide_eq_false he
        have HNO : Hid (runT (logOf d p0) seq i (txOf seq) = none) := by
          rw [Hid, HRUN.out, HSTEP.out, if_pos]
          by_cases he : er = 0
          · exact .inr (.inl fun hq => hok ⟨he, hq⟩)
          · exact .inl he
        dsimp only
        rw [hfl]
        clear HSTEP HRUN hok hfl HGM
        obtain ⟨⟨z0, z1, z2, z3, z4, z5, z6, z7, z8, z9⟩, zf⟩ := box10 KB1.out
        go_wp2
        obtain ⟨W, hW⟩ : ∃ W, W = (((((((((((w1.setCell ⟨w.heap.size, 0, none⟩ (.int .i64 0)).setCell ⟨w.heap.size, 1, none⟩ (.slice none 0 0)).setCell ⟨w.heap.size, 2, none⟩ (.slice none 0 0)).setCell ⟨w.heap.size, 3, none⟩ (.slice none 0 0)).setCell ⟨w.heap.size, 4, none⟩ (.bool false)).setCell ⟨w.heap.size, 5, none⟩ (.int .i64 0)).setCell ⟨w.heap.size, 6, none⟩ (.bool false)).setCell ⟨w.heap.size, 7, none⟩ (.int .i64 0)).setCell ⟨w.heap.size, 8, none⟩ (.bool false)).setCell ⟨w.heap.size, 9, none⟩ (.int .i64 0)).alloc (.cells #[.int .i64 mk.kind, .int .i64 mk.seq, .int .i64 mk.pos, .slice a2 mk.tags.length c2, .slice a3 mk.blocks.length c3] 58)) := ⟨_, rfl⟩
        have hbx := stored10a KB1.out (.int .i64 0) (.slice none 0 0) (.slice none 0 0) (.slice none 0 0) (.bool false) (.int .i64 0) (.bool false) (.int .i64 0) (.bool false) (.int .i64 0) (.cells #[.int .i64 mk.kind, .int .i64 mk.seq, .int .i64 mk.pos, .slice a2 mk.tags.length c2, .slice a3 mk.blocks.length c3] 58)
        rw [← hW] at hbx
        obtain ⟨⟨y0, y1, y2, y3, y4, y5, y6, y7, y8, y9⟩, _⟩ := box10 hbx
        have HW := hide hW
        rw [← hW]
        clear hW hbx z0 z1 z2 z3 z4 z5 z6 z7 z8 z9 zf
        refine bodyPost_ret (v := .tuple #[.agg #[.int .i64 0, .slice none 0 0, .slice none 0 0, .slice none 0 0, .bool false, .int .i64 0, .bool false, .int .i64 0, .bool false, .int .i64 0], .bool false]) (by simp [results, Try.results17, go_sem, y0, y1, y2, y3, y4, y5, y6, y7, y8, y9]) rfl ?_
        unfold TEnd
        refine ⟨_, false, rfl, ?_, ?_⟩
        · rw [HW.out]
          exact (But.trans ((((((((((HB1.out.setNew (p := ⟨w.heap.size, 0, none⟩) (Nat.le_refl _) _).setNew (p := ⟨w.heap.size, 1, none⟩) (Nat.le_refl _) _).setNew (p := ⟨w.heap.size, 2, none⟩) (Nat.le_refl _) _).setNew (p := ⟨w.heap.size, 3, none⟩) (Nat.le_refl _) _).setNew (p := ⟨w.heap.size, 4, none⟩) (Nat.le_refl _) _).setNew (p := ⟨w.heap.size, 5, none⟩) (Nat.le_refl _) _).setNew (p := ⟨w.heap.size, 6, none⟩) (Nat.le_refl _) _).setNew (p := ⟨w.heap.size, 7, none⟩) (Nat.le_refl _) _).setNew (p := ⟨w.heap.size, 8, none⟩) (Nat.le_refl _) _).setNew (p := ⟨w.heap.size, 9, none⟩) (Nat.le_refl _) _) (But.of_below (below1 _ _)) (by simp [World.setCell]; omega))
        · rw [TPost, HNO.out]
          exact ⟨rfl, rfl⟩

end Go.Proofs.Ytjnpndfpajjihac

namespace Go.Proofs.Ytjnpndfpajjihac
open Go.RowKit

theorem stored5b {w : World} {B : Nat} {z0 z1 z2 z3 z4 : Value} {t : TypeId} (h : w.heap[B]? = some (.cells #[z0, z1, z2, z3, z4] t (0, 0))) (v0 v1 v2 v3 v4 : Value) :
    (((((w.setCell ⟨B, 0, none⟩ v0).setCell ⟨B, 1, none⟩ v1).setCell ⟨B, 2, none⟩ v2).setCell ⟨B, 3, none⟩ v3).setCell ⟨B, 4, none⟩ v4).heap[B]? = some (.cells #[v0, v1, v2, v3, v4] t (0, 0)) := by
  have h0 := heap_setCell_same w B 0 _ _ v0 h
  have h1 := heap_setCell_same _ B 1 _ _ v1 h0
  have h2 := heap_setCell_same _ B 2 _ _ v2 h1
  have h3 := heap_setCell_same _ B 3 _ _ v3 h2
  exact heap_setCell_same _ B 4 _ _ v4 h3
theorem stored5a {w : World} {B : Nat} {z0 z1 z2 z3 z4 : Value} {t : TypeId} (h : w.heap[B]? = some (.cells #[z0, z1, z2, z3, z4] t (0, 0))) (v0 v1 v2 v3 v4 : Value) (o : Obj) :
    ((((((w.setCell ⟨B, 0, none⟩ v0).setCell ⟨B, 1, none⟩ v1).setCell ⟨B, 2, none⟩ v2).setCell ⟨B, 3, none⟩ v3).setCell ⟨B, 4, none⟩ v4).alloc o).heap[B]? = some (.cells #[v0, v1, v2, v3, v4] t (0, 0)) := by
  have h4 := stored5b h v0 v1 v2 v3 v4
  exact boxKeep (below1 _ o) (Array.getElem?_eq_some_iff.1 h4).1 h4
/-- What readSuper answers. -/
def SupPost (w w' : World) (d : Dk) (e : Ending) : Prop :=
  ∃ (k q p : Int) (a2 : Option Addr) (n2 c2 : Nat) (a3 : Option Addr) (n3 c3 : Nat), e = .returned (.tuple #[.agg #[.int .i64 k, .int .i64 q, .int .i64 p, .slice a2 n2 c2, .slice a3 n3 c3], .int .i64 (scanE d)]) ∧ True ∧ (scanE d = 0 → q = (superM d).seq ∧ p = (superM d).pos) ∧ Below w.heap.size w w'

set_option maxHeartbeats 4000000 in
set_option maxRecDepth 100000 in
theorem readSuper_any (a : Option Addr) (c : Nat) (a' : Option Addr) (c' : Nat) (d : Dk) (w : World) (hD : IsDk w (.agg #[.slice a d.safe.length c, .slice a' d.wr.length c']) d) :
    Calls Try.prog 16 #[.agg #[.slice a d.safe.length c, .slice a' d.wr.length c']] w fun e w' => SupPost w w' d e := by
  have HD := hide hD
  clear hD
  go_enter Try.func16, Try.ntmps16
  go_wp2_with fail
  refine (read_any _ d 0 _ (HD.out.below (bthen (below1 _ _) (below1 _ _)))).mono ?_
  rintro e w1 ⟨rfl, hb1⟩
  have KB1 := hide (two2 hb1)
  have hs1 : w.heap.size + 1 < w1.heap.size := by have := hb1.size; simp at this; omega
  have HB1 := hide (bthen (bthen (below1 _ _) (below1 _ _)) hb1)
  clear hb1 HD
  by_cases hE : readE d 0 = 0
  · rw [hE]
    have HE := hide hE
    clear hE
    go_wp2_with fail
    refine (stampDecode_any (readT d 0) _).mono ?_
    rintro e w2 ⟨v2, rfl, hN, hb2⟩
    obtain ⟨a2, c2, a3, c3, rfl, _, _, _, _⟩ := hN
    obtain ⟨M, hM⟩ : ∃ M, M = stampDec (readT d 0) := ⟨_, rfl⟩
    rw [← hM]
    obtain ⟨mk, er⟩ := M
    have HSE : Hid (scanE d = if er ≠ 0 ∨ mk.kind ≠ 1 then 1 else 0) := by rw [Hid, scanE, superM, ← hM, HE.out]; simp
    have HSU : Hid (superM d = mk) := by rw [Hid, superM, ← hM]
    clear hM
    have KB2 := hide (boxKeep hb2 hs1 KB1.out)
    have hs2 : w.heap.size + 1 < w2.heap.size := Nat.lt_of_lt_of_le hs1 hb2.size
    have HB2 := hide (bthen HB1.out hb2)
    clear hb2 KB1 HB1
    dsimp only
    by_cases he : er = 0
    · subst he
      by_cases hk : mk.kind = 1
      · have HS0 : Hid (scanE d = 0) := by rw [Hid, HSE.out, if_neg (by simp [hk])]
        clear HSE
        obtain ⟨⟨z0, z1, z2, z3, z4⟩, zf0, zf1, zf2, zf3, zf4⟩ := box5 KB2.out
        go_wp2
        obtain ⟨W, hW⟩ : ∃ W, W = ((((((w2.setCell ⟨w.heap.size + 1, 0, none⟩ (.int .i64 1)).setCell ⟨w.heap.size + 1, 1, none⟩ (.int .i64 mk.seq)).setCell ⟨w.heap.size + 1, 2, none⟩ (.int .i64 mk.pos)).setCell ⟨w.heap.size + 1, 3, none⟩ (.slice a2 mk.tags.length c2)).setCell ⟨w.heap.size + 1, 4, none⟩ (.slice a3 mk.blocks.length c3)).alloc (.cells #[.int .i64 1, .int .i64 mk.seq, .int .i64 mk.pos, .slice a2 mk.tags.length c2, .slice a3 mk.blocks.length c3] 58)) := ⟨_, rfl⟩
        have hbx := stored5a KB2.out (.int .i64 1) (.int .i64 mk.seq) (.int .i64 mk.pos) (.slice a2 mk.tags.length c2) (.slice a3 mk.blocks.length c3) (.cells #[.int .i64 1, .int .i64 mk.seq, .int .i64 mk.pos, .slice a2 mk.tags.length c2, .slice a3 mk.blocks.length c3] 58)
        rw [← hW] at hbx
        obtain ⟨⟨y0, y1, y2, y3, y4⟩, _⟩ := box5 hbx
        have HW := hide hW
        rw [← hW]
        clear hW hbx z0 z1 z2 z3 z4 zf0 zf1 zf2 zf3 zf4
        refine bodyPost_ret (v := .tuple #[.agg #[.int .i64 1, .int .i64 mk.seq, .int .i64 mk.pos, .slice a2 mk.tags.length c2, .slice a3 mk.blocks.length c3], .int .i64 0]) (by simp [results, Try.results16, go_sem, y0, y1, y2, y3, y4]) rfl ?_
        rw [SupPost, HS0.out]
        refine ⟨_, _, _, _, _, _, _, _, _, rfl, ?_, ?_, ?_⟩
        · exact trivial
        · intro h0
          exact ⟨by rw [HSU.out], by rw [HSU.out]⟩
        · rw [HW.out]
          exact ((((((HB2.out.setCell (p := ⟨w.heap.size + 1, 0, none⟩) (by simp) _).setCell (p := ⟨w.heap.size + 1, 1, none⟩) (by simp) _).setCell (p := ⟨w.heap.size + 1, 2, none⟩) (by simp) _).setCell (p := ⟨w.heap.size + 1, 3, none⟩) (by simp) _).setCell (p := ⟨w.heap.size + 1, 4, none⟩) (by simp) _).alloc (by simp [World.setCell]; omega) _)
      · have HS1 : Hid (scanE d = 1) := by rw [Hid, HSE.out, if_pos (.inr hk)]
        have hk' : (mk.kind != 1) = true := by simpa using hk
        clear HSE
        obtain ⟨⟨z0, z1, z2, z3, z4⟩, zf0, zf1, zf2, zf3, zf4⟩ := box5 KB2.out
        go_wp2
        obtain ⟨W, hW⟩ : ∃ W, W = ((((((w2.setCell ⟨w.heap.size + 1, 0, none⟩ (.int .i64 0)).setCell ⟨w.heap.size + 1, 1, none⟩ (.int .i64 0)).setCell ⟨w.heap.size + 1, 2, none⟩ (.int .i64 0)).setCell ⟨w.heap.size + 1, 3, none⟩ (.slice none 0 0)).setCell ⟨w.heap.size + 1, 4, none⟩ (.slice none 0 0)).alloc (.cells #[.int .i64 mk.kind, .int .i64 mk.seq, .int .i64 mk.pos, .slice a2 mk.tags.length c2, .slice a3 mk.blocks.length c3] 58)) := ⟨_, rfl⟩
        have hbx := stored5a KB2.out (.int .i64 0) (.int .i64 0) (.int .i64 0) (.slice none 0 0) (.slice none 0 0) (.cells #[.int .i64 mk.kind, .int .i64 mk.seq, .int .i64 mk.pos, .slice a2 mk.tags.length c2, .slice a3 mk.blocks.length c3] 58)
        rw [← hW] at hbx
        obtain ⟨⟨y0, y1, y2, y3, y4⟩, _⟩ := box5 hbx
        have HW := hide hW
        rw [← hW]
        clear hW hbx z0 z1 z2 z3 z4 zf0 zf1 zf2 zf3 zf4
        refine bodyPost_ret (v := .tuple #[.agg #[.int .i64 0, .int .i64 0, .int .i64 0, .slice none 0 0, .slice none 0 0], .int .i64 (1)]) (by simp [results, Try.results16, go_sem, y0, y1, y2, y3, y4]) rfl ?_
        rw [SupPost, HS1.out]
        refine ⟨_, _, _, _, _, _, _, _, _, rfl, ?_, ?_, ?_⟩
        · exact trivial
        · intro h0
          cases h0
        · rw [HW.out]
          exact ((((((HB2.out.setCell (p := ⟨w.heap.size + 1, 0, none⟩) (by simp) _).setCell (p := ⟨w.heap.size + 1, 1, none⟩) (by simp) _).setCell (p := ⟨w.heap.size + 1, 2, none⟩) (by simp) _).setCell (p := ⟨w.heap.size + 1, 3, none⟩) (by simp) _).setCell (p := ⟨w.heap.size + 1, 4, none⟩) (by simp) _).alloc (by simp [World.setCell]; omega) _)
    · have HS1 : Hid (scanE d = 1) := by rw [Hid, HSE.out, if_pos (.inl he)]
      have he' : (er != 0) = true := by simpa using he
      clear HSE
      obtain ⟨⟨z0, z1, z2, z3, z4⟩, zf0, zf1, zf2, zf3, zf4⟩ := box5 KB2.out
      go_wp2
      obtain ⟨W, hW⟩ : ∃ W, W = ((((((w2.setCell ⟨w.heap.size + 1, 0, none⟩ (.int .i64 0)).setCell ⟨w.heap.size + 1, 1, none⟩ (.int .i64 0)).setCell ⟨w.heap.size + 1, 2, none⟩ (.int .i64 0)).setCell ⟨w.heap.size + 1, 3, none⟩ (.slice none 0 0)).setCell ⟨w.heap.size + 1, 4, none⟩ (.slice none 0 0)).alloc (.cells #[.int .i64 mk.kind, .int .i64 mk.seq, .int .i64 mk.pos, .slice a2 mk.tags.length c2, .slice a3 mk.blocks.length c3] 58)) := ⟨_, rfl⟩
      have hbx := stored5a KB2.out (.int .i64 0) (.int .i64 0) (.int .i64 0) (.slice none 0 0) (.slice none 0 0) (.cells #[.int .i64 mk.kind, .int .i64 mk.seq, .int .i64 mk.pos, .slice a2 mk.tags.length c2, .slice a3 mk.blocks.length c3] 58)
      rw [← hW] at hbx
      obtain ⟨⟨y0, y1, y2, y3, y4⟩, _⟩ := box5 hbx
      have HW := hide hW
      rw [← hW]
      clear hW hbx z0 z1 z2 z3 z4 zf0 zf1 zf2 zf3 zf4
      refine bodyPost_ret (v := .tuple #[.agg #[.int .i64 0, .int .i64 0, .int .i64 0, .slice none 0 0, .slice none 0 0], .int .i64 (1)]) (by simp [results, Try.results16, go_sem, y0, y1, y2, y3, y4]) rfl ?_
      rw [SupPost, HS1.out]
      refine ⟨_, _, _, _, _, _, _, _, _, rfl, ?_, ?_, ?_⟩
      · exact trivial
      · intro h0
        cases h0
      · rw [HW.out]
        exact ((((((HB2.out.setCell (p := ⟨w.heap.size + 1, 0, none⟩) (by simp) _).setCell (p := ⟨w.heap.size + 1, 1, none⟩) (by simp) _).setCell (p := ⟨w.heap.size + 1, 2, none⟩) (by simp) _).setCell (p := ⟨w.heap.size + 1, 3, none⟩) (by simp) _).setCell (p := ⟨w.heap.size + 1, 4, none⟩) (by simp) _).alloc (by simp [World.setCell]; omega) _)
  · have HS1 : Hid (scanE d = readE d 0) := by rw [Hid, scanE, if_pos hE]
    have hE' : (readE d 0 != 0) = true := by simpa using hE
    have HE := hide hE
    generalize readE d 0 = E at *
    clear hE
    obtain ⟨⟨z0, z1, z2, z3, z4⟩, zf0, zf1, zf2, zf3, zf4⟩ := box5 KB1.out
    go_wp2
    obtain ⟨W, hW⟩ : ∃ W, W = (((((w1.setCell ⟨w.heap.size + 1, 0, none⟩ (.int .i64 0)).setCell ⟨w.heap.size + 1, 1, none⟩ (.int .i64 0)).setCell ⟨w.heap.size + 1, 2, none⟩ (.int .i64 0)).setCell ⟨w.heap.size + 1, 3, none⟩ (.slice none 0 0)).setCell ⟨w.heap.size + 1, 4, none⟩ (.slice none 0 0)) := ⟨_, rfl⟩
    have hbx := stored5b KB1.out (.int .i64 0) (.int .i64 0) (.int .i64 0) (.slice none 0 0) (.slice none 0 0)
    rw [← hW] at hbx
    obtain ⟨⟨y0, y1, y2, y3, y4⟩, _⟩ := box5 hbx
    have HW := hide hW
    rw [← hW]
    clear hW hbx z0 z1 z2 z3 z4 zf0 zf1 zf2 zf3 zf4
    refine bodyPost_ret (v := .tuple #[.agg #[.int .i64 0, .int .i64 0, .int .i64 0, .slice none 0 0, .slice none 0 0], .int .i64 (E)]) (by simp [results, Try.results16, go_sem, y0, y1, y2, y3, y4]) rfl ?_
    rw [SupPost, HS1.out]
    refine ⟨_, _, _, _, _, _, _, _, _, rfl, ?_, ?_, ?_⟩
    · exact trivial
    · intro h0
      exact absurd h0 HE.out
    · rw [HW.out]
      exact (((((HB1.out.setCell (p := ⟨w.heap.size + 1, 0, none⟩) (by simp) _).setCell (p := ⟨w.heap.size + 1, 1, none⟩) (by simp) _).setCell (p := ⟨w.heap.size + 1, 2, none⟩) (by simp) _).setCell (p := ⟨w.heap.size + 1, 3, none⟩) (by simp) _).setCell (p := ⟨w.heap.size + 1, 4, none⟩) (by simp) _)

end Go.Proofs.Ytjnpndfpajjihac

namespace Go.Proofs.Ytjnpndfpajjihac
open Go.RowKit

theorem box3 {w : World} {B : Nat} {v0 v1 v2 : Value} {t : TypeId} (h : w.heap[B]? = some (.cells #[v0, v1, v2] t (0, 0))) :
    (w.cell? ⟨B, 0, none⟩ = some v0 ∧ w.cell? ⟨B, 1, none⟩ = some v1 ∧ w.cell? ⟨B, 2, none⟩ = some v2) ∧ ∀ k, w.frozen? ⟨B, k, none⟩ = false := by
  refine ⟨⟨?_, ?_, ?_⟩, fun k => frozen_of_row w _ _ _ _ h⟩ <;> (rw [cell_of_row w _ _ _ _ _ h]; rfl)
theorem stored3 {w : World} {B : Nat} {z0 z1 z2 : Value} {t : TypeId} (h : w.heap[B]? = some (.cells #[z0, z1, z2] t (0, 0))) (v0 v1 v2 : Value) :
    (((w.setCell ⟨B, 0, none⟩ v0).setCell ⟨B, 1, none⟩ v1).setCell ⟨B, 2, none⟩ v2).heap[B]? = some (.cells #[v0, v1, v2] t (0, 0)) := by
  have h0 := heap_setCell_same w B 0 _ _ v0 h
  have h1 := heap_setCell_same _ B 1 _ _ v1 h0
  exact heap_setCell_same _ B 2 _ _ v2 h1
theorem stored3a {w : World} {B : Nat} {z0 z1 z2 : Value} {t : TypeId} (h : w.heap[B]? = some (.cells #[z0, z1, z2] t (0, 0))) (v0 v1 v2 : Value) (o : Obj) :
    ((((w.setCell ⟨B, 0, none⟩ v0).setCell ⟨B, 1, none⟩ v1).setCell ⟨B, 2, none⟩ v2).alloc o).heap[B]? = some (.cells #[v0, v1, v2] t (0, 0)) := by
  have h4 := stored3 h v0 v1 v2
  exact boxKeep (below1 _ o) (Array.getElem?_eq_some_iff.1 h4).1 h4
theorem owns_set3 {w : World} {base : Nat} {e : TypeId} {size : Nat} {v : Value} {n : Nat} {xs : List Value} {B : Nat} {v0 v1 v2 : Value} (h : w.ownsRow base e size v n xs) (hb : ∀ k, v.ownBlock = some k → k ≠ B) : (((w.setCell ⟨B, 0, none⟩ v0).setCell ⟨B, 1, none⟩ v1).setCell ⟨B, 2, none⟩ v2).ownsRow base e size v n xs :=
  owns_setNe (owns_setNe (owns_setNe h (p := ⟨B, 0, none⟩) hb v0) (p := ⟨B, 1, none⟩) hb v1) (p := ⟨B, 2, none⟩) hb v2
theorem OwnR.ne {w : World} {base : Nat} {x : RX} (h : OwnR w base x) {B : Nat} (hB : B < base) : (∀ k, x.m.ownBlock = some k → k ≠ B) ∧ (∀ k, x.d.ownBlock = some k → k ≠ B) ∧ ∀ k, x.r.ownBlock = some k → k ≠ B :=
  ⟨fun k hk => by have := (h.1.lt k hk).1; omega, fun k hk => by have := (h.2.1.lt k hk).1; omega, fun k hk => by have := (h.2.2.lt k hk).1; omega⟩
theorem OwnR.set3 {w : World} {base B : Nat} {x : RX} {v0 v1 v2 : Value} (h : OwnR w base x) (hB : B < base) : OwnR (((w.setCell ⟨B, 0, none⟩ v0).setCell ⟨B, 1, none⟩ v1).setCell ⟨B, 2, none⟩ v2) base x :=
  ⟨owns_set3 h.1 (h.ne hB).1, owns_set3 h.2.1 (h.ne hB).2.1, owns_set3 h.2.2 (h.ne hB).2.2⟩
theorem OwnR.base {w : World} {b b' : Nat} {x : RX} (h : OwnR w b x) (hb : b' ≤ b) : OwnR w b' x := ⟨owns_base h.1 hb, owns_base h.2.1 hb, owns_base h.2.2 hb⟩
theorem OwnR.but {R base : Nat} {w w' : World} {x : RX} (h : OwnR w base x) (hb : But R w.heap.size w w') (hR : R < base) : OwnR w' base x := ⟨owns_but h.1 hb hR, owns_but h.2.1 hb hR, owns_but h.2.2 hb hR⟩
/-- How many blocks a reader has left. -/
def leftAt (w : World) (R : Nat) : Nat := match w.cell? ⟨R, 3, none⟩ with | some (.int _ n) => n.toNat | _ => 0
theorem Rd.left {w : World} {R : Nat} {a : Option Addr} {c : Nat} {a' : Option Addr} {c' : Nat} {d : Dk} {p0 i : Nat} (h : Rd w R a c a' c' d p0 i) : leftAt w R = 24 - i := by
  rw [leftAt, (box4 h).1.2.2.2]; simp
/-- What Scan answers. -/
def ScPost (w w' : World) (d : Dk) (e : Ending) : Prop :=
  ∃ v, e = .returned (.tuple #[v, .int .i64 (scanE d)]) ∧ Below w.heap.size w w' ∧ (scanE d ≠ 0 → v = .agg #[.slice none 0 0, .int .i64 0, .int .i64 0]) ∧
    (scanE d = 0 → ∃ (q : List RX) (va : Option Addr) (vc : Nat), v = .agg #[.slice va q.length vc, .int .i64 ((superM d).seq + (q.length : Int)), .int .i64 ((((superM d).pos.toNat + (scanL d).2) % 24 : Nat) : Int)] ∧ q.map (·.t) = (scanL d).1 ∧ w'.ownsRow w.heap.size 50 10 (.slice va q.length vc) q.length (cellsX q) ∧ ∀ x ∈ q, OwnR w' w.heap.size x)

set_option maxHeartbeats 8000000 in
set_option maxRecDepth 100000 in
theorem scan_any (a : Option Addr) (c : Nat) (a' : Option Addr) (c' : Nat) (d : Dk) (w : World) (hD : IsDk w (.agg #[.slice a d.safe.length c, .slice a' d.wr.length c']) d) :
    Calls Try.prog 6 #[.agg #[.slice a d.safe.length c, .slice a' d.wr.length c']] w fun e w' => ScPost w w' d e := by
  have HD := hide hD
  clear hD
  go_enter Try.func6, Try.ntmps6
  go_wp2_with fail
  refine (readSuper_any a c a' c' d _ (HD.out.below (bthen (below1 _ _) (below1 _ _)))).mono ?_
  rintro e w1 ⟨k, q0, p, a2, n2, c2, a3, n3, c3, rfl, _, hsu, hb1⟩
  have K0 := hide (two1 hb1)
  have KB := hide (two2 hb1)
  have hs1 : w.heap.size + 1 < w1.heap.size := by have := hb1.size; simp at this; omega
  have hs1' : w.heap.size < w1.heap.size := by omega
  have HB1 := hide (bthen (bthen (below1 _ _) (below1 _ _)) hb1)
  clear hb1
  by_cases hE : scanE d = 0
  · obtain ⟨rfl, rfl⟩ := hsu hE
    rw [hE]
    have HS0 := hide hE
    -- the disk is good, the super block too
    have hgd : goodB d = true ∧ (1 ≤ (superM d).seq ∧ (superM d).seq ≤ 2147483647) ∧ 0 ≤ (superM d).pos ∧ (superM d).pos ≤ 23 := by
      have h := hE
      unfold scanE at h
      split at h
      · rename_i h1; exact absurd h h1
      · rename_i h1
        split at h
        · cases h
        · rename_i h2
          have h3 : (stampDec (readT d 0)).2 = 0 := by
            by_cases hx : (stampDec (readT d 0)).2 = 0
            · exact hx
            · exact absurd (.inl hx) h2
          have h4 := dec_good h3
          have h5 : readE d 0 = 0 := by
            by_cases hx : readE d 0 = 0
            · exact hx
            · exact absurd hx h1
          refine ⟨?_, ?_⟩
          · unfold readE at h5
            split at h5
            · rename_i hx; exact (Bool.and_eq_true_iff.1 hx).1
            · cases h5
          · unfold goodM at h4
            split at h4
            · cases h4
            · split at h4
              · cases h4
              · rename_i hx
                show (1 ≤ (stampDec (readT d 0)).1.seq ∧ _) ∧ _
                unfold superM
                omega
    obtain ⟨hg, ⟨hq0, hq1⟩, hp0, hp1⟩ := hgd
    have HL : Hid (scanL d = scanP (logOf d (superM d).pos) 0 (superM d).seq []) := rfl
    obtain ⟨p0, hp⟩ : ∃ p0 : Nat, (superM d).pos = (p0 : Int) := ⟨(superM d).pos.toNat, by omega⟩
    have HPOS : Hid ((superM d).pos.toNat = p0) := by rw [Hid, hp]; rfl
    rw [hp] at HL ⊢
    have hp24 : p0 < 24 := by omega
    have HP0 := hide hp
    generalize hsq0 : (superM d).seq = q0 at *
    have HSQ := hide hsq0
    clear hE hsu hp hp0 hp1 hsq0
    obtain ⟨⟨x0, x1⟩, xf⟩ := box2 K0.out
    go_wp2
    clear x0 x1 xf
    obtain ⟨W0, hW0⟩ : ∃ W0, W0 = ((w1.alloc (.cells #[.int .i64 k, .int .i64 q0, .int .i64 (p0 : Int), .slice a2 n2 c2, .slice a3 n3 c3] 58)).alloc (.cells #[.slice none 0 0, .int .i64 q0, .int .i64 (p0 : Int)] 32)).alloc (.cells #[.slice a d.safe.length c, .slice a' d.wr.length c', .int .i64 (p0 : Int), .int .i64 24] 63) := ⟨_, rfl⟩
    have hb0 : Below w1.heap.size w1 W0 := by rw [hW0]; exact bthen (bthen (below1 _ _) (below1 _ _)) (below1 _ _)
    have hthree : W0.heap[w1.heap.size + 1]? = some (.cells #[.slice none 0 0, .int .i64 q0, .int .i64 (p0 : Int)] 32 (0, 0)) ∧ W0.heap[w1.heap.size + 1 + 1]? = some (.cells #[.slice a d.safe.length c, .slice a' d.wr.length c', .int .i64 (p0 : Int), .int .i64 24] 63 (0, 0)) ∧ w1.heap.size + 1 + 1 < W0.heap.size := by
      rw [hW0]
      obtain ⟨_, K2, K3, hs⟩ := three1 (Below.refl _ _)
      exact ⟨K2, K3, hs⟩
    rw [← hW0]
    clear hW0
    have KF0 := hide hthree.1
    have hm0 : (p0 + 0) % 24 = p0 := by omega
    have HR0 : Hid (Rd W0 (w1.heap.size + 1 + 1) a c a' c' d p0 0) := by rw [Hid, Rd, hm0]; exact hthree.2.1
    have hsW := hthree.2.2
    have KB0 := hide (boxKeep hb0 hs1 KB.out)
    have HB0 := hide (bthen HB1.out hb0)
    have HLP : Hid (scanP (logOf d p0) 0 (q0 + (([] : List RX).length : Int)) (([] : List RX).map (·.t)) = scanL d) := by rw [Hid, HL.out]; simp
    clear hthree hb0 KB HB1 K0 HL
    go_loopw [9] (fun _ wr => ∃ (pos : Nat) (sq : Int) (q : List RX) (va : Option Addr) (vc : Nat), pos ≤ 24 ∧ sq = q0 + (q.length : Int) ∧ q.length ≤ pos ∧ Hid (scanP (logOf d p0) pos sq (q.map (·.t)) = scanL d) ∧ Hid (Rd wr (w1.heap.size + 1 + 1) a c a' c' d p0 pos) ∧ Hid (Below w.heap.size w wr) ∧ w1.heap.size + 1 + 1 < wr.heap.size ∧ Hid (wr.heap[w.heap.size + 1]? = some (.cells #[.slice none 0 0, .int .i64 0, .int .i64 0] 32 (0, 0))) ∧
        Hid (wr.heap[w1.heap.size + 1]? = some (.cells #[.slice va q.length vc, .int .i64 sq, .int .i64 (((p0 + pos) % 24 : Nat) : Int)] 32 (0, 0))) ∧ Hid (wr.ownsRow (w1.heap.size + 3) 50 10 (.slice va q.length vc) q.length (cellsX q)) ∧ Hid (∀ x ∈ q, OwnR wr (w1.heap.size + 3) x))
      (fun _ wr => leftAt wr (w1.heap.size + 1 + 1))
    case atStart => exact ⟨0, q0 + (([] : List RX).length : Int), [], none, 0, Nat.zero_le _, rfl, Nat.zero_le _, HLP, HR0, HB0, hsW, KB0, by rw [hm0]; simpa using KF0, World.ownsRow_nil _ _ _ _, fun x hx => (by cases hx)⟩
    case round =>
      clear KF0 HR0 hsW KB0 HB0 HLP
      obtain ⟨pos, sq, q, va, vc, hpos, hsq, hql, HLP, HRr, HB, hsz, KB, KF, HO, HX⟩ := hrel
      rw [HRr.out.left]
      have HQS := hide hsq
      clear hsq
      have hRR : w.heap.size ≤ w1.heap.size + 1 + 1 := by omega
      by_cases hlt : sq < 2147483647
      · obtain ⟨⟨x0, x1, x2⟩, xf⟩ := box3 KF.out
        go_wp2_with fail
        refine (rtrans_any (w1.heap.size + 1 + 1) a c a' c' d p0 pos sq wr w HRr.out hpos HD.out hg HB.out hRR).mono ?_
        rintro e w2 ⟨v, b, rfl, hBut, hT⟩
        have hs2 := hBut.size
        have KB3 : Hid (w2.heap[w.heap.size + 1]? = _) := (hBut.block _ (by omega) (by omega)).trans KB.out
        have KF3 : Hid (w2.heap[w1.heap.size + 1]? = _) := (hBut.block _ (by omega) (by omega)).trans KF.out
        have HB2 : Hid (Below w.heap.size w w2) := hBut.below HB.out HB.out.size hRR
        have HO3 := hide (owns_but HO.out hBut (by omega))
        have HX3 : Hid (∀ x ∈ q, OwnR w2 (w1.heap.size + 3) x) := fun x hx => (HX.out x hx).but hBut (by omega)
        clear x0 x1 x2 xf KB KF HB HO HX HRr
        cases hrun : runT (logOf d p0) sq pos (txOf sq) with
        | none =>
          rw [TPost, hrun] at hT
          obtain ⟨rfl, rfl⟩ := hT
          have HEND : Hid (scanL d = (q.map (·.t), pos)) := by rw [Hid, ← HLP.out, scanP, dif_pos hlt, hrun]
          clear hrun HLP hBut
          have hz2 : w.heap.size + 1 < w2.heap.size := by omega
          have hz3 : w1.heap.size + 1 < w2.heap.size := by omega
          obtain ⟨m3, hm3⟩ : ∃ m3 : Nat, m3 = (p0 + pos) % 24 := ⟨_, rfl⟩
          rw [← hm3] at KF3
          have HM3 := hide hm3
          clear hm3
          obtain ⟨⟨z0, z1, z2⟩, zf⟩ := box3 KB3.out
          obtain ⟨⟨x0, x1, x2⟩, xf⟩ := box3 KF3.out
          go_wp2
          clear x0 x1 x2 xf
          obtain ⟨W, hW⟩ : ∃ W, W = ((((w2.setCell ⟨w.heap.size + 1, 0, none⟩ (.slice va q.length vc)).setCell ⟨w.heap.size + 1, 1, none⟩ (.int .i64 sq)).setCell ⟨w.heap.size + 1, 2, none⟩ (.int .i64 (m3 : Int))).alloc (.cells #[.int .i64 0, .slice none 0 0, .slice none 0 0, .slice none 0 0, .bool false, .int .i64 0, .bool false, .int .i64 0, .bool false, .int .i64 0] 50)) := ⟨_, rfl⟩
          have hbx := stored3a KB3.out (.slice va q.length vc) (.int .i64 sq) (.int .i64 (m3 : Int)) (.cells #[.int .i64 0, .slice none 0 0, .slice none 0 0, .slice none 0 0, .bool false, .int .i64 0, .bool false, .int .i64 0, .bool false, .int .i64 0] 50)
          rw [← hW] at hbx
          obtain ⟨⟨y0, y1, y2⟩, _⟩ := box3 hbx
          have HW := hide hW
          rw [← hW]
          clear hW hbx z0 z1 z2 zf
          refine bodyPost_ret (v := .tuple #[.agg #[.slice va q.length vc, .int .i64 sq, .int .i64 (m3 : Int)], .int .i64 0]) (by simp [results, Try.results6, go_sem, y0, y1, y2]) rfl ?_
          rw [ScPost, HS0.out]
          refine ⟨_, rfl, ?_, fun h => absurd rfl h, fun _ => ⟨q, va, vc, ?_, ?_, ?_, ?_⟩⟩
          · rw [HW.out]
            exact (((HB2.out.setCell (p := ⟨w.heap.size + 1, 0, none⟩) (by simp) _).setCell (p := ⟨w.heap.size + 1, 1, none⟩) (by simp) _).setCell (p := ⟨w.heap.size + 1, 2, none⟩) (by simp) _).alloc (by simp [World.setCell]; omega) _
          · rw [HPOS.out, HEND.out, HSQ.out, ← HQS.out, HM3.out]
          · rw [HEND.out]
          · rw [HW.out]
            refine owns_base (owns_keep (owns_set3 HO3.out ?_) (below1 _ _)) (show w.heap.size ≤ w1.heap.size + 3 by omega)
            intro k hk
            have := (HO3.out.lt k hk).1
            omega
          · intro x hx
            rw [HW.out]
            exact OwnR.base (OwnR.below (OwnR.set3 (HX3.out x hx) (by omega)) (below1 _ _)) (by omega)
        | some nt =>
          obtain ⟨n, t⟩ := nt
          rw [TPost, hrun] at hT
          obtain ⟨rfl, hR2, tm, tr, rfl, hOt, ht⟩ := hT
          have hn := runT_bound (logOf d p0) sq 24 pos (txOf sq) n t (by rw [logOf_length]; omega) hrun
          rw [logOf_length] at hn
          have HLP2 : Hid (scanP (logOf d p0) n (sq + 1) (q.map (·.t) ++ [t]) = scanL d) := by rw [Hid, ← HLP.out, scanP.eq_def (logOf d p0) pos, dif_pos hlt, hrun]
          have HOT : Hid (OwnR w2 (w1.heap.size + 3) ⟨tm, .slice none 0 0, tr, t⟩) := hOt.base (by omega)
          obtain ⟨ti, tv, ht2⟩ : ∃ ti tv, t = txW sq ti tv := ⟨_, _, ht⟩
          subst ht2
          obtain ⟨ma, mc, _, _, ra, rc, e1, _, e3, _⟩ := HOT.out.tx
          simp only at e1 e3
          subst e1 e3
          have HR2 := hide hR2
          clear hrun HLP hBut hOt ht hR2
          have hz2 : w.heap.size + 1 < w2.heap.size := by omega
          have hz3 : w1.heap.size + 1 < w2.heap.size := by omega
          have hql2 : q.length ≤ 24 := by omega
          obtain ⟨⟨x0, x1, x2⟩, xf⟩ := box3 KF3.out
          go_wp2_with (at_builtin; refine wpList_appX rfl _ _ rfl (w1.heap.size + 3) _ q rfl (owns_keep HO3.out (bthen (below1 _ _) (below1 _ _))) (w2.heap.size + 1) ⟨.slice ma (txW sq ti tv).info.length mc, .slice none 0 0, .slice ra (txW sq ti tv).rev.length rc, txW sq ti tv⟩ rfl (news10 (by simp [go_sem, txW]) (by simp [go_sem, txW]) (by simp [go_sem, txW]) (by simp [go_sem, txW]) (by simp [go_sem, txW]) (by simp [go_sem, txW]) (by simp [go_sem, txW]) (by simp [go_sem, txW]) (by simp [go_sem, txW]) (by simp [go_sem, txW])) HOT.out.one (by omega) (by simp; omega) ?_)
          intro v3 w3 hO4 hg4
          obtain ⟨qn, hqn⟩ : ∃ qn, qn = q ++ [(⟨.slice ma (txW sq ti tv).info.length mc, .slice none 0 0, .slice ra (txW sq ti tv).rev.length rc, txW sq ti tv⟩ : RX)] := ⟨_, rfl⟩
          have hqnl : qn.length = q.length + 1 := by rw [hqn]; simp
          have hO5 := owns_n hO4 (show _ = qn.length by simp [hqn])
          rw [← hqn] at hO5
          have hB2 : Below w2.heap.size w2 _ := bthen (below1 w2 (.cells #[.int .i64 sq, .slice ma ti.length mc, .slice none 0 0, .slice ra tv.length rc, .bool false, .int .i64 0, .bool false, .int .i64 0, .bool false, .int .i64 0] 50 (0, 0))) (below1 _ (.cells #[.int .i64 sq, .slice ma ti.length mc, .slice none 0 0, .slice ra tv.length rc, .bool false, .int .i64 0, .bool false, .int .i64 0, .bool false, .int .i64 0] 50 (0, 0)))
          have hob : ∀ k, (Value.slice va q.length vc).ownBlock = some k → w1.heap.size + 3 ≤ k := fun k hk => (HO3.out.lt k hk).1
          have hs3 : w2.heap.size + 2 ≤ w3.heap.size := by have := hg4.size; simpa using this
          have HX4 : Hid (∀ x ∈ qn, OwnR w3 (w1.heap.size + 3) x) := by
            intro x hx
            rw [hqn] at hx
            have hx2 : OwnR w2 (w1.heap.size + 3) x := by
              rcases List.mem_append.1 hx with h | h
              · exact HX3.out x h
              · rw [List.mem_singleton.1 h]; exact HOT.out
            exact (hx2.below hB2).grown (owns_keep HO3.out hB2) hg4
          have HLP4 : Hid (scanP (logOf d p0) n (sq + 1) (qn.map (·.t)) = scanL d) := by rw [Hid, hqn, List.map_append]; exact HLP2.out
          have HQ4 : Hid (sq + 1 = q0 + (qn.length : Int)) := by rw [Hid, hqnl, HQS.out]; omega
          have KB4 : Hid (w3.heap[w.heap.size + 1]? = _) := (hg4.block _ (by simp; omega) (fun e => by have := hob _ e.symm; omega)).trans (boxKeep hB2 hz2 KB3.out)
          have KF4 : Hid (w3.heap[w1.heap.size + 1]? = _) := (hg4.block _ (by simp; omega) (fun e => by have := hob _ e.symm; omega)).trans (boxKeep hB2 hz3 KF3.out)
          have HR4 : Hid (Rd w3 (w1.heap.size + 1 + 1) a c a' c' d p0 n) := (HR2.out.below hB2).grown hg4 (fun k hk => by have := hob k hk; omega)
          have HB4 : Hid (Below w.heap.size w w3) := (bthen HB2.out hB2).grown hg4 (bthen HB2.out hB2).size (fun k hk => by have := hob k hk; omega)
          have HO5 := hide hO5
          obtain ⟨va3, vc3, hv3⟩ : ∃ va3 vc3, v3 = .slice va3 qn.length vc3 := by
            rcases hO5.2 with ⟨e, h0⟩ | ⟨g, cap, cur, e, _⟩
            · exact absurd h0 (by omega)
            · exact ⟨_, _, e⟩
          subst hv3
          obtain ⟨m3, hm3⟩ : ∃ m3 : Nat, m3 = (p0 + n) % 24 := ⟨_, rfl⟩
          have HM3 := hide hm3
          have hR5 := HR4.out
          rw [Rd, ← hm3] at hR5
          obtain ⟨⟨r0, r1, r2, r3⟩, rf⟩ := box4 hR5
          have hsw : IntKind.i64.wrap (sq + 1) = sq + 1 := by rw [IntKind.wrap_i64]; have := HQS.out; omega
          clear x0 x1 x2 xf hqn hO4 hO5 hB2 hob hg4 HX3 HOT HLP2 KB3 KF3 HR2 HB2 HO3 hm3 hR5 hqnl
          obtain ⟨⟨x0, x1, x2⟩, xf⟩ := box3 KF4.out
          have hz4 : w1.heap.size + 1 < w3.heap.size := by omega
          have hz5 : w1.heap.size + 1 + 1 < w3.heap.size := by omega
          have hqn24 : qn.length ≤ n := by have h1 := HQ4.out; have h2 := HQS.out; omega
          go_wp2
          clear x0 x1 x2 xf r0 r1 r2 r3 rf
          refine ⟨⟨_, _, _, _, _, _, _, _, _, _, _, _, _, _, _, _, _, _, _, _, _, _, _, _, _, _, _, _, _, ?rel, rfl⟩, ?measure⟩
          case rel => exact ⟨n, sq + 1, qn, va3, vc3, hn.2, HQ4.out, hqn24, HLP4, ((HR4.out.setNe (p := ⟨w1.heap.size + 1, 0, none⟩) (by simp) _).setNe (p := ⟨w1.heap.size + 1, 1, none⟩) (by simp) _).setNe (p := ⟨w1.heap.size + 1, 2, none⟩) (by simp) _, ((HB4.out.setCell (p := ⟨w1.heap.size + 1, 0, none⟩) (by simp; omega) _).setCell (p := ⟨w1.heap.size + 1, 1, none⟩) (by simp; omega) _).setCell (p := ⟨w1.heap.size + 1, 2, none⟩) (by simp; omega) _, by simp [World.setCell]; omega, (box_setNe (p := ⟨w1.heap.size + 1, 2, none⟩) (by simp; omega) _).trans ((box_setNe (p := ⟨w1.heap.size + 1, 1, none⟩) (by simp; omega) _).trans ((box_setNe (p := ⟨w1.heap.size + 1, 0, none⟩) (by simp; omega) _).trans KB4.out)), by rw [← HM3.out]; exact stored3 KF4.out _ _ _, owns_set3 HO5.out (fun k hk => by have := (HO5.out.lt k hk).1; omega), fun x hx => (HX4.out x hx).set3 (by omega)⟩
          case measure =>
            rw [(((HR4.out.setNe (p := ⟨w1.heap.size + 1, 0, none⟩) (by simp) _).setNe (p := ⟨w1.heap.size + 1, 1, none⟩) (by simp) _).setNe (p := ⟨w1.heap.size + 1, 2, none⟩) (by simp) _).left]
            omega
      · have HEND : Hid (scanL d = (q.map (·.t), pos)) := by rw [Hid, ← HLP.out, scanP, dif_neg hlt]
        have KB3 := KB
        have KF3 := KF
        have HO3 := HO
        have HX3 := HX
        clear KB KF HO HX HLP
        have hz2 : w.heap.size + 1 < wr.heap.size := by omega
        have hz3 : w1.heap.size + 1 < wr.heap.size := by omega
        obtain ⟨m3, hm3⟩ : ∃ m3 : Nat, m3 = (p0 + pos) % 24 := ⟨_, rfl⟩
        rw [← hm3] at KF3
        have HM3 := hide hm3
        clear hm3
        obtain ⟨⟨z0, z1, z2⟩, zf⟩ := box3 KB3.out
        obtain ⟨⟨x0, x1, x2⟩, xf⟩ := box3 KF3.out
        go_wp2
        clear x0 x1 x2 xf
        obtain ⟨W, hW⟩ : ∃ W, W = (((wr.setCell ⟨w.heap.size + 1, 0, none⟩ (.slice va q.length vc)).setCell ⟨w.heap.size + 1, 1, none⟩ (.int .i64 sq)).setCell ⟨w.heap.size + 1, 2, none⟩ (.int .i64 (m3 : Int))) := ⟨_, rfl⟩
        have hbx := stored3 KB3.out (.slice va q.length vc) (.int .i64 sq) (.int .i64 (m3 : Int))
        rw [← hW] at hbx
        obtain ⟨⟨y0, y1, y2⟩, _⟩ := box3 hbx
        have HW := hide hW
        rw [← hW]
        clear hW hbx z0 z1 z2 zf
        refine bodyPost_ret (v := .tuple #[.agg #[.slice va q.length vc, .int .i64 sq, .int .i64 (m3 : Int)], .int .i64 0]) (by simp [results, Try.results6, go_sem, y0, y1, y2]) rfl ?_
        rw [ScPost, HS0.out]
        refine ⟨_, rfl, ?_, fun h => absurd rfl h, fun _ => ⟨q, va, vc, ?_, ?_, ?_, ?_⟩⟩
        · rw [HW.out]
          exact ((HB.out.setCell (p := ⟨w.heap.size + 1, 0, none⟩) (by simp) _).setCell (p := ⟨w.heap.size + 1, 1, none⟩) (by simp) _).setCell (p := ⟨w.heap.size + 1, 2, none⟩) (by simp) _
        · rw [HPOS.out, HEND.out, HSQ.out, ← HQS.out, HM3.out]
        · rw [HEND.out]
        · rw [HW.out]
          refine owns_base (owns_set3 HO3.out ?_) (show w.heap.size ≤ w1.heap.size + 3 by omega)
          intro k hk
          have := (HO3.out.lt k hk).1
          omega
        · intro x hx
          rw [HW.out]
          exact OwnR.base (OwnR.set3 (HX3.out x hx) (by omega)) (by omega)
  · have hE' : (scanE d != 0) = true := by simpa using hE
    have HE := hide hE
    clear hsu hE
    generalize hEE : scanE d = E at *
    have HEE := hide hEE
    clear hEE
    obtain ⟨⟨z0, z1, z2⟩, zf⟩ := box3 KB.out
    go_wp2
    obtain ⟨W, hW⟩ : ∃ W, W = ((((w1.setCell ⟨w.heap.size + 1, 0, none⟩ (.slice none 0 0)).setCell ⟨w.heap.size + 1, 1, none⟩ (.int .i64 0)).setCell ⟨w.heap.size + 1, 2, none⟩ (.int .i64 0)).alloc (.cells #[.int .i64 k, .int .i64 q0, .int .i64 p, .slice a2 n2 c2, .slice a3 n3 c3] 58)) := ⟨_, rfl⟩
    have hbx := stored3a KB.out (.slice none 0 0) (.int .i64 0) (.int .i64 0) (.cells #[.int .i64 k, .int .i64 q0, .int .i64 p, .slice a2 n2 c2, .slice a3 n3 c3] 58)
    rw [← hW] at hbx
    obtain ⟨⟨y0, y1, y2⟩, _⟩ := box3 hbx
    have HW := hide hW
    rw [← hW]
    clear hW hbx z0 z1 z2 zf
    refine bodyPost_ret (v := .tuple #[.agg #[.slice none 0 0, .int .i64 0, .int .i64 0], .int .i64 E]) (by simp [results, Try.results6, go_sem, y0, y1, y2]) rfl ?_
    rw [ScPost, HEE.out]
    refine ⟨_, rfl, ?_, fun _ => rfl, fun h => absurd h HE.out⟩
    rw [HW.out]
    exact (((HB1.out.setCell (p := ⟨w.heap.size + 1, 0, none⟩) (by simp) _).setCell (p := ⟨w.heap.size + 1, 1, none⟩) (by simp) _).setCell (p := ⟨w.heap.size + 1, 2, none⟩) (by simp) _).alloc (by simp [World.setCell]; omega) _

end Go.Proofs.Ytjnpndfpajjihac

namespace Go.Proofs.Ytjnpndfpajjihac
open Go.RowKit

theorem scanP_len (log : List ByteArray) : ∀ (f pos : Nat) (seq : Int) (acc : List Tx), log.length - pos ≤ f → (scanP log pos seq acc).1.length ≤ acc.length + f := by
  intro f
  induction f with
  | zero =>
    intro pos seq acc hf
    rw [scanP]
    split
    · rw [runT, dif_neg (by omega)]
      exact Nat.le_refl _
    · exact Nat.le_refl _
  | succ f ih =>
    intro pos seq acc hf
    rw [scanP]
    split
    · split
      · exact Nat.le_add_right _ _
      · rename_i n t hr
        have hb := runT_bound log seq _ pos _ n t (Nat.le_refl _) hr
        have := ih n (seq + 1) (acc ++ [t]) (by omega)
        rw [List.length_append, List.length_singleton] at this
        omega
    · exact Nat.le_add_right _ _

/-- What is found, as plain data. -/
def fndL (d : Dk) : List Tx := if scanE d = 0 then (scanL d).1 else []
def fndN (d : Dk) : Int := if scanE d = 0 then (superM d).seq + ((scanL d).1.length : Int) else 0
def fndP (d : Dk) : Int := if scanE d = 0 then ((((superM d).pos.toNat + (scanL d).2) % 24 : Nat) : Int) else 0
theorem fndL_len (d : Dk) : (fndL d).length ≤ 24 := by
  unfold fndL
  split
  · have := scanP_len (logOf d (superM d).pos) 24 0 (superM d).seq [] (by rw [logOf_length]; omega)
    simpa [scanL] using this
  · exact Nat.zero_le _
theorem ScPost.found {w w' : World} {d : Dk} {e : Ending} (h : ScPost w w' d e) : ∃ va vc, e = .returned (.tuple #[.agg #[.slice va (fndL d).length vc, .int .i64 (fndN d), .int .i64 (fndP d)], .int .i64 (scanE d)]) ∧ SegTx w' va (fndL d) ∧ Below w.heap.size w w' := by
  obtain ⟨v, rfl, hb, h1, h2⟩ := h
  by_cases hE : scanE d = 0
  · obtain ⟨q, va, vc, rfl, hq, hO, hX⟩ := h2 hE
    obtain ⟨a, c, hv, hS, _⟩ := SegTx.of_owns hO hX
    simp only [Value.slice.injEq] at hv
    obtain ⟨rfl, _, rfl⟩ := hv
    have hl : fndL d = q.map (·.t) := by rw [fndL, if_pos hE, hq]
    have hlen : q.length = (scanL d).1.length := by rw [← hq, List.length_map]
    refine ⟨va, vc, ?_, by rw [hl]; exact hS, hb⟩
    rw [hl, fndN, fndP, if_pos hE, if_pos hE, List.length_map, hlen]
  · rw [h1 hE]
    refine ⟨none, 0, ?_, .inl (by rw [fndL, if_neg hE]), hb⟩
    rw [fndL, fndN, fndP, if_neg hE, if_neg hE, if_neg hE]
    rfl
theorem scan_n (a : Option Addr) (n c : Nat) (a' : Option Addr) (n' c' : Nat) (d : Dk) (w : World) (h1 : n = d.safe.length) (h2 : n' = d.wr.length) (hD : IsDk w (.agg #[.slice a n c, .slice a' n' c']) d) :
    Calls Try.prog 6 #[.agg #[.slice a n c, .slice a' n' c']] w fun e w' => ScPost w w' d e := by
  subst h1 h2
  exact scan_any a c a' c' d w hD

end Go.Proofs.Ytjnpndfpajjihac
