/-
  The walk of package scan's reader: transaction.
-/
import Derived.Test.YtjnpndfpajjihabGreatXScanC
import Derived.Test.YtjnpndfpajjihabGreatTConcatI
import Derived.Test.YtjnpndfpajjihabGreatGrSealWhole18
namespace Go.Proofs.YtjnpndfpajjihabGreat
open Go.RowKit

/-- append of a row onto a row of the call's own. -/
theorem wpList_appIs (w : World) (base : Nat) {ops : Array Oper} {rest : List Oper} {o : Oper} {a : Act} {Q : Exit → Act → World → Prop} (hgd : o.guard = none) (s x : Operand)
    (ho : o.op = .call { callee := .builtin .append, args := #[s, x], argTypes := #[23, 23] })
    (v : Value) (q : List Int) (hs : a.eval s = v) (hown : w.ownsRow base 3 1 v q.length (cellsI q)) (ao : Option Addr) (c : Nat) (l : List Int) (hx : a.eval x = .slice ao l.length c) (hS : SegI w ao l)
    (hn : q.length + l.length ≤ 1000) (hbase : base ≤ w.heap.size)
    (h : ∀ v' w', Hid (w'.ownsRow base 3 1 v' (q ++ l).length (cellsI (q ++ l))) → w.grownBy w' v.ownBlock → wpList Tryz.prog ops Q rest (a.put o.dst v') w') : wpList Tryz.prog ops Q (o :: rest) a w := by
  obtain ⟨i0, hi, hz0, hz1, hz2⟩ := info_parts infoI
  cases ao with
  | none =>
    have h0 : l = [] := by rcases hS with h | ⟨b, off, he, _⟩; exact h; cases he
    subst h0
    refine Lib.wpList_append_run w hgd s x _ _ ho _ _ hs hx v w (run_append_nilI w base o.type v q.length c (cellsI q) hown) (h v w ?_ ⟨rfl, rfl, rfl, Nat.le_refl _, fun _ _ _ => rfl⟩)
    rw [List.append_nil]
    exact hown
  | some ad =>
    refine wpList_append_own w hgd s x 23 ho base 3 i0 (.int .i64 0) 1 8 Tryz.underlying23 hi hz0 hz1 hz2 rfl (by decide) v q.length (cellsI q) hs hown ad l.length c (cellsI l) hx (cellsI_length l) ?_ cellsI_one (by unfold maxLen; omega) (by omega) hbase ?_
    · intro j u hj
      rcases hS with h | ⟨b, off, he, hlt, hc⟩
      · rw [h] at hj; simp [cellsI] at hj
      · cases he
        rw [Addr.add_lit]
        exact SegI.news hc j u hj
    · intro v' w' k1 k2 _
      refine h v' w' ?_ k2
      rw [Hid, cellsI_append, List.length_append]
      exact k1
/-- append of a row onto a row of the call's own. -/
theorem wpList_appCs (w : World) (base : Nat) {ops : Array Oper} {rest : List Oper} {o : Oper} {a : Act} {Q : Exit → Act → World → Prop} (hgd : o.guard = none) (s x : Operand)
    (ho : o.op = .call { callee := .builtin .append, args := #[s, x], argTypes := #[22, 22] })
    (v : Value) (q : List (Int × ByteArray)) (hs : a.eval s = v) (hown : w.ownsRow base 78 2 v q.length (cellsC q)) (ao : Option Addr) (c : Nat) (l : List (Int × ByteArray)) (hx : a.eval x = .slice ao l.length c) (hS : SegW w ao l)
    (hn : q.length + l.length ≤ 1000) (hbase : base ≤ w.heap.size)
    (h : ∀ v' w', Hid (w'.ownsRow base 78 2 v' (q ++ l).length (cellsC (q ++ l))) → w.grownBy w' v.ownBlock → wpList Tryz.prog ops Q rest (a.put o.dst v') w') : wpList Tryz.prog ops Q (o :: rest) a w := by
  obtain ⟨i0, hi, hz0, hz1, hz2⟩ := info_parts infoC
  cases ao with
  | none =>
    have h0 : l = [] := by rcases hS with h | ⟨b, off, he, _⟩; exact h; cases he
    subst h0
    refine Lib.wpList_append_run w hgd s x _ _ ho _ _ hs hx v w (run_append_nilC w base o.type v q.length c (cellsC q) hown) (h v w ?_ ⟨rfl, rfl, rfl, Nat.le_refl _, fun _ _ _ => rfl⟩)
    rw [List.append_nil]
    exact hown
  | some ad =>
    refine wpList_append_own w hgd s x 22 ho base 78 i0 (.agg #[.int .i64 0, .string ⟨#[]⟩]) 2 24 Tryz.underlying22 hi hz0 hz1 hz2 rfl (by decide) v q.length (cellsC q) hs hown ad l.length c (cellsC l) hx (cellsC_length l) ?_ (cellsC_one l) (by unfold maxLen; omega) (by omega) hbase ?_
    · intro j u hj
      rcases hS with h | ⟨b, off, he, hlt, hc⟩
      · rw [h] at hj; simp [cellsC] at hj
      · cases he
        rw [Addr.add_lit]
        exact SegC.news hc j u hj
    · intro v' w' k1 k2 _
      refine h v' w' ?_ k2
      rw [Hid, cellsC_append, List.length_append]
      exact k1

theorem stored10 {w : World} {B : Nat} {u0 u1 u2 u3 u4 u5 u6 u7 u8 u9 : Value} {t : TypeId} (h : w.heap[B]? = some (.cells #[u0, u1, u2, u3, u4, u5, u6, u7, u8, u9] t (0, 0))) (v0 v1 v2 v3 v4 v5 v6 v7 v8 v9 : Value) :
    (((((((((((w.setCell ⟨B, 0, none⟩ v0).setCell ⟨B, 1, none⟩ v1).setCell ⟨B, 2, none⟩ v2).setCell ⟨B, 3, none⟩ v3).setCell ⟨B, 4, none⟩ v4).setCell ⟨B, 5, none⟩ v5).setCell ⟨B, 6, none⟩ v6).setCell ⟨B, 7, none⟩ v7).setCell ⟨B, 8, none⟩ v8).setCell ⟨B, 9, none⟩ v9)).heap[B]? = some (.cells #[v0, v1, v2, v3, v4, v5, v6, v7, v8, v9] t (0, 0)) := by
  have h0 : (w.setCell ⟨B, 0, none⟩ v0).heap[B]? = some (.cells #[v0, u1, u2, u3, u4, u5, u6, u7, u8, u9] t (0, 0)) := heap_setCell_same _ B 0 _ _ v0 h
  have h1 : ((w.setCell ⟨B, 0, none⟩ v0).setCell ⟨B, 1, none⟩ v1).heap[B]? = some (.cells #[v0, v1, u2, u3, u4, u5, u6, u7, u8, u9] t (0, 0)) := heap_setCell_same _ B 1 _ _ v1 h0
  have h2 : (((w.setCell ⟨B, 0, none⟩ v0).setCell ⟨B, 1, none⟩ v1).setCell ⟨B, 2, none⟩ v2).heap[B]? = some (.cells #[v0, v1, v2, u3, u4, u5, u6, u7, u8, u9] t (0, 0)) := heap_setCell_same _ B 2 _ _ v2 h1
  have h3 : ((((w.setCell ⟨B, 0, none⟩ v0).setCell ⟨B, 1, none⟩ v1).setCell ⟨B, 2, none⟩ v2).setCell ⟨B, 3, none⟩ v3).heap[B]? = some (.cells #[v0, v1, v2, v3, u4, u5, u6, u7, u8, u9] t (0, 0)) := heap_setCell_same _ B 3 _ _ v3 h2
  have h4 : (((((w.setCell ⟨B, 0, none⟩ v0).setCell ⟨B, 1, none⟩ v1).setCell ⟨B, 2, none⟩ v2).setCell ⟨B, 3, none⟩ v3).setCell ⟨B, 4, none⟩ v4).heap[B]? = some (.cells #[v0, v1, v2, v3, v4, u5, u6, u7, u8, u9] t (0, 0)) := heap_setCell_same _ B 4 _ _ v4 h3
  have h5 : ((((((w.setCell ⟨B, 0, none⟩ v0).setCell ⟨B, 1, none⟩ v1).setCell ⟨B, 2, none⟩ v2).setCell ⟨B, 3, none⟩ v3).setCell ⟨B, 4, none⟩ v4).setCell ⟨B, 5, none⟩ v5).heap[B]? = some (.cells #[v0, v1, v2, v3, v4, v5, u6, u7, u8, u9] t (0, 0)) := heap_setCell_same _ B 5 _ _ v5 h4
  have h6 : (((((((w.setCell ⟨B, 0, none⟩ v0).setCell ⟨B, 1, none⟩ v1).setCell ⟨B, 2, none⟩ v2).setCell ⟨B, 3, none⟩ v3).setCell ⟨B, 4, none⟩ v4).setCell ⟨B, 5, none⟩ v5).setCell ⟨B, 6, none⟩ v6).heap[B]? = some (.cells #[v0, v1, v2, v3, v4, v5, v6, u7, u8, u9] t (0, 0)) := heap_setCell_same _ B 6 _ _ v6 h5
  have h7 : ((((((((w.setCell ⟨B, 0, none⟩ v0).setCell ⟨B, 1, none⟩ v1).setCell ⟨B, 2, none⟩ v2).setCell ⟨B, 3, none⟩ v3).setCell ⟨B, 4, none⟩ v4).setCell ⟨B, 5, none⟩ v5).setCell ⟨B, 6, none⟩ v6).setCell ⟨B, 7, none⟩ v7).heap[B]? = some (.cells #[v0, v1, v2, v3, v4, v5, v6, v7, u8, u9] t (0, 0)) := heap_setCell_same _ B 7 _ _ v7 h6
  have h8 : (((((((((w.setCell ⟨B, 0, none⟩ v0).setCell ⟨B, 1, none⟩ v1).setCell ⟨B, 2, none⟩ v2).setCell ⟨B, 3, none⟩ v3).setCell ⟨B, 4, none⟩ v4).setCell ⟨B, 5, none⟩ v5).setCell ⟨B, 6, none⟩ v6).setCell ⟨B, 7, none⟩ v7).setCell ⟨B, 8, none⟩ v8).heap[B]? = some (.cells #[v0, v1, v2, v3, v4, v5, v6, v7, v8, u9] t (0, 0)) := heap_setCell_same _ B 8 _ _ v8 h7
  have h9 : ((((((((((w.setCell ⟨B, 0, none⟩ v0).setCell ⟨B, 1, none⟩ v1).setCell ⟨B, 2, none⟩ v2).setCell ⟨B, 3, none⟩ v3).setCell ⟨B, 4, none⟩ v4).setCell ⟨B, 5, none⟩ v5).setCell ⟨B, 6, none⟩ v6).setCell ⟨B, 7, none⟩ v7).setCell ⟨B, 8, none⟩ v8).setCell ⟨B, 9, none⟩ v9).heap[B]? = some (.cells #[v0, v1, v2, v3, v4, v5, v6, v7, v8, v9] t (0, 0)) := heap_setCell_same _ B 9 _ _ v9 h8
  exact h9
theorem stored10a {w : World} {B : Nat} {u0 u1 u2 u3 u4 u5 u6 u7 u8 u9 : Value} {t : TypeId} (h : w.heap[B]? = some (.cells #[u0, u1, u2, u3, u4, u5, u6, u7, u8, u9] t (0, 0))) (v0 v1 v2 v3 v4 v5 v6 v7 v8 v9 : Value) (o : Obj) :
    (((((((((((w.setCell ⟨B, 0, none⟩ v0).setCell ⟨B, 1, none⟩ v1).setCell ⟨B, 2, none⟩ v2).setCell ⟨B, 3, none⟩ v3).setCell ⟨B, 4, none⟩ v4).setCell ⟨B, 5, none⟩ v5).setCell ⟨B, 6, none⟩ v6).setCell ⟨B, 7, none⟩ v7).setCell ⟨B, 8, none⟩ v8).setCell ⟨B, 9, none⟩ v9).alloc o).heap[B]? = some (.cells #[v0, v1, v2, v3, v4, v5, v6, v7, v8, v9] t (0, 0)) := by
  have h9 := stored10 h v0 v1 v2 v3 v4 v5 v6 v7 v8 v9
  exact boxKeep (below1 _ o) (Array.getElem?_eq_some_iff.1 h9).1 h9
theorem owns_n {w : World} {base : Nat} {e : TypeId} {size : Nat} {v : Value} {n m : Nat} {xs : List Value} (h : w.ownsRow base e size v n xs) (hn : n = m) : w.ownsRow base e size v m xs := hn ▸ h
theorem box_setNe {w : World} {B : Nat} {p : Addr} (h : B ≠ p.block) (u : Value) : (w.setCell p u).heap[B]? = w.heap[B]? := by
  rw [World.setCell]
  simp only [Array.getElem?_modify]
  rw [if_neg (fun x => h x.symm)]
theorem runT_step {log : List ByteArray} {j : Nat} (h : j < log.length) (seq : Int) (t : Tx) {mk : Mk} {er : Int} (hM : (mk, er) = stampDec (log.getD j ByteArray.empty)) :
    runT log seq j t = if er ≠ 0 ∨ mk.seq ≠ seq ∨ mk.kind = 1 then none else if mk.kind = 4 then some (j + 1, t) else if j + 1 + mk.tags.length ≤ log.length then runT log seq (j + 1 + mk.tags.length) (more log j t mk) else none := by
  rw [runT, dif_pos h, ← hM]
/-- A transaction of a number with these copies and these revoked. -/
def txW (seq : Int) (info : List (Int × ByteArray)) (rev : List Int) : Tx := ⟨seq, info, [], rev, ⟨false, 0⟩, ⟨false, 0⟩, ⟨false, 0⟩⟩
theorem txW_more (log : List ByteArray) (i : Nat) (seq : Int) (info : List (Int × ByteArray)) (rev : List Int) (m : Mk) : more log i (txW seq info rev) m = txW seq (info ++ copiesAt log (i + 1) m.tags) (rev ++ m.blocks) := rfl
/-- A mark that is read: what a good one is. -/
theorem dec_good {s : ByteArray} (h : (stampDec s).2 = 0) : goodM (stampDec s).1 = 0 := by
  unfold stampDec at h ⊢
  split at h
  · rename_i hc
    rw [if_pos hc]
    exact hc.2.1
  · cases h
theorem good_kind {m : Mk} (h : goodM m = 0) : (m.kind = 1 ∨ m.kind = 2 ∨ m.kind = 3 ∨ m.kind = 4) ∧ (m.kind ≠ 2 → m.tags = []) ∧ (m.kind ≠ 3 → m.blocks = []) ∧ (m.kind = 2 → m.tags.length ≤ 10) ∧ (m.kind = 3 → m.blocks.length ≤ 20) := by
  unfold goodM at h
  split at h
  · cases h
  · split at h
    · cases h
    · split at h
      · cases h
      · split at h
        · cases h
        · rename_i h1 _ h3 h4
          refine ⟨by omega, fun hk => ?_, fun hk => ?_, fun hk => ?_, fun hk => ?_⟩
          · by_cases ht : m.tags = []
            · exact ht
            · exact absurd (.inr (.inl ⟨hk, ht⟩)) h3
          · by_cases ht : m.blocks = []
            · exact ht
            · exact absurd (.inr (.inr ⟨hk, ht⟩)) h3
          · by_cases ht : m.tags.length ≤ 10
            · exact ht
            · exact absurd (.inl ⟨hk, .inr (by omega)⟩) h4
          · by_cases ht : m.blocks.length ≤ 20
            · exact ht
            · exact absurd (.inr (.inl ⟨hk, .inr (by omega)⟩)) h4
/-- What transaction answers. -/
def TPost (w w' : World) (R : Nat) (a : Option Addr) (c : Nat) (a' : Option Addr) (c' : Nat) (d : Dk) (p0 i : Nat) (seq : Int) (v : Value) (b : Bool) : Prop :=
  match runT (logOf d p0) seq i (txOf seq) with
  | none => b = false ∧ v = .agg #[.int .i64 0, .slice none 0 0, .slice none 0 0, .slice none 0 0, .bool false, .int .i64 0, .bool false, .int .i64 0, .bool false, .int .i64 0]
  | some (n, t) => b = true ∧ Rd w' R a c a' c' d p0 n ∧ ∃ m r, v = .agg #[.int .i64 seq, m, .slice none 0 0, r, .bool false, .int .i64 0, .bool false, .int .i64 0, .bool false, .int .i64 0] ∧ OwnR w' w.heap.size ⟨m, .slice none 0 0, r, t⟩ ∧ t = txW seq t.info t.rev

def TEnd (w w' : World) (R : Nat) (a : Option Addr) (c : Nat) (a' : Option Addr) (c' : Nat) (d : Dk) (p0 i : Nat) (seq : Int) (e : Ending) : Prop := ∃ v b, e = .returned (.tuple #[v, .bool b]) ∧ But R w.heap.size w w' ∧ TPost w w' R a c a' c' d p0 i seq v b

set_option maxHeartbeats 8000000 in
set_option maxRecDepth 100000 in
theorem rtrans_any (R : Nat) (a : Option Addr) (c : Nat) (a' : Option Addr) (c' : Nat) (d : Dk) (p0 i : Nat) (seq : Int) (w w0 : World) (hR : Rd w R a c a' c' d p0 i) (hi : i ≤ 24) (hD : IsDk w0 (.agg #[.slice a d.safe.length c, .slice a' d.wr.length c']) d) (hg : goodB d = true) (hb : Below w0.heap.size w0 w) (hR0 : w0.heap.size ≤ R) :
    Calls Tryz.prog 81 #[.pointer (some ⟨R, 0, none⟩), .int .i64 seq] w fun e w' => TEnd w w' R a c a' c' d p0 i seq e := by
  have hRl := hR.lt
  have HD := hide hD
  have HBW := hide hb
  have HR := hide hR
  clear hD hb hR
  go_enter Tryz.func81, Tryz.ntmps81
  go_wp2
  go_loopw [8] (fun _ wr => ∃ (j : Nat) (info : List (Int × ByteArray)) (rev : List Int) (ma : Option Addr) (mc : Nat) (ra : Option Addr) (rc : Nat), i ≤ j ∧ j ≤ 24 ∧ info.length ≤ j ∧ rev.length ≤ 20 * j ∧ Hid (runT (logOf d p0) seq i (txOf seq) = runT (logOf d p0) seq j (txW seq info rev)) ∧ Hid (Rd wr R a c a' c' d p0 j) ∧ Hid (But R w.heap.size w wr) ∧ w.heap.size + 1 < wr.heap.size ∧
      Hid (wr.heap[w.heap.size]? = some (.cells #[.int .i64 0, .slice none 0 0, .slice none 0 0, .slice none 0 0, .bool false, .int .i64 0, .bool false, .int .i64 0, .bool false, .int .i64 0] 28 (0, 0))) ∧ Hid (wr.heap[w.heap.size + 1]? = some (.cells #[.int .i64 seq, .slice ma info.length mc, .slice none 0 0, .slice ra rev.length rc, .bool false, .int .i64 0, .bool false, .int .i64 0, .bool false, .int .i64 0] 28 (0, 0))) ∧ Hid (wr.ownsRow (w.heap.size + 2) 78 2 (.slice ma info.length mc) info.length (cellsC info)) ∧ Hid (wr.ownsRow (w.heap.size + 2) 3 1 (.slice ra rev.length rc) rev.length (cellsI rev)))
    (fun _ wr => match wr.cell? ⟨R, 3, none⟩ with | some (.int _ n) => n.toNat | _ => 0)
  case atStart => exact ⟨i, [], [], none, 0, none, 0, Nat.le_refl _, hi, Nat.zero_le _, Nat.zero_le _, rfl, HR.out.below (bthen (below1 _ _) (below1 _ _)), But.of_below (bthen (below1 _ _) (below1 _ _)), by simp, two1 (Below.refl _ _), two2 (Below.refl _ _), World.ownsRow_nil _ _ _ _, World.ownsRow_nil _ _ _ _⟩
  case round =>
    obtain ⟨j, info, rev, ma, mc, ra, rc, hij, hj, hil, hrl, HRUN, HRr, HB, hsz, KB, KT, HOM, HOR⟩ := hrel
    have hMEAS : (match wr.cell? ⟨R, 3, none⟩ with | some (.int _ n) => n.toNat | _ => 0) = 24 - j := by rw [(box4 HRr.out).1.2.2.2]; simp
    rw [hMEAS]
    have HBW1 : Hid (Below w0.heap.size w0 wr) := HB.out.below HBW.out HBW.out.size hR0
    by_cases hend : j = 24
    · subst hend
      have HNO : Hid (runT (logOf d p0) seq i (txOf seq) = none) := by rw [Hid, HRUN.out, runT, dif_neg (by rw [logOf_length]; omega)]
      clear hMEAS
      go_wp2_with fail
      refine (rmark_end R a c a' c' d p0 seq _ HRr.out).mono ?_
      rintro e w1 ⟨rfl, hb1⟩
      have HB1 : Hid (But R w.heap.size w w1) := HB.out.trans (But.of_below hb1) HB.out.size
      have KB1 := hide (boxKeep hb1 (by omega) KB.out)
      have hsz1 : w.heap.size + 1 < w1.heap.size := Nat.lt_of_lt_of_le hsz hb1.size
      have hsz1' : w.heap.size < w1.heap.size := by omega
      clear hb1 HRr KB KT HOM HOR HB
      obtain ⟨⟨z0, z1, z2, z3, z4, z5, z6, z7, z8, z9⟩, zf⟩ := box10 KB1.out
      go_wp2
      obtain ⟨W, hW⟩ : ∃ W, W = (((((((((((w1.setCell ⟨w.heap.size, 0, none⟩ (.int .i64 0)).setCell ⟨w.heap.size, 1, none⟩ (.slice none 0 0)).setCell ⟨w.heap.size, 2, none⟩ (.slice none 0 0)).setCell ⟨w.heap.size, 3, none⟩ (.slice none 0 0)).setCell ⟨w.heap.size, 4, none⟩ (.bool false)).setCell ⟨w.heap.size, 5, none⟩ (.int .i64 0)).setCell ⟨w.heap.size, 6, none⟩ (.bool false)).setCell ⟨w.heap.size, 7, none⟩ (.int .i64 0)).setCell ⟨w.heap.size, 8, none⟩ (.bool false)).setCell ⟨w.heap.size, 9, none⟩ (.int .i64 0)).alloc (.cells #[.int .i64 0, .int .i64 0, .int .i64 0, .slice none 0 0, .slice none 0 0] 103)) := ⟨_, rfl⟩
      have hbx := stored10a KB1.out (.int .i64 0) (.slice none 0 0) (.slice none 0 0) (.slice none 0 0) (.bool false) (.int .i64 0) (.bool false) (.int .i64 0) (.bool false) (.int .i64 0) (.cells #[.int .i64 0, .int .i64 0, .int .i64 0, .slice none 0 0, .slice none 0 0] 103)
      rw [← hW] at hbx
      obtain ⟨⟨y0, y1, y2, y3, y4, y5, y6, y7, y8, y9⟩, _⟩ := box10 hbx
      have HW := hide hW
      rw [← hW]
      clear hW hbx z0 z1 z2 z3 z4 z5 z6 z7 z8 z9 zf
      refine bodyPost_ret (v := .tuple #[.agg #[.int .i64 0, .slice none 0 0, .slice none 0 0, .slice none 0 0, .bool false, .int .i64 0, .bool false, .int .i64 0, .bool false, .int .i64 0], .bool false]) (by simp [results, Tryz.results81, go_sem, y0, y1, y2, y3, y4, y5, y6, y7, y8, y9]) rfl ?_
      unfold TEnd
      refine ⟨_, false, rfl, ?_, ?_⟩
      · rw [HW.out]
        exact (But.trans ((((((((((HB1.out.setNew (p := ⟨w.heap.size, 0, none⟩) (Nat.le_refl _) _).setNew (p := ⟨w.heap.size, 1, none⟩) (Nat.le_refl _) _).setNew (p := ⟨w.heap.size, 2, none⟩) (Nat.le_refl _) _).setNew (p := ⟨w.heap.size, 3, none⟩) (Nat.le_refl _) _).setNew (p := ⟨w.heap.size, 4, none⟩) (Nat.le_refl _) _).setNew (p := ⟨w.heap.size, 5, none⟩) (Nat.le_refl _) _).setNew (p := ⟨w.heap.size, 6, none⟩) (Nat.le_refl _) _).setNew (p := ⟨w.heap.size, 7, none⟩) (Nat.le_refl _) _).setNew (p := ⟨w.heap.size, 8, none⟩) (Nat.le_refl _) _).setNew (p := ⟨w.heap.size, 9, none⟩) (Nat.le_refl _) _) (But.of_below (below1 _ _)) (by simp [World.setCell]; omega))
      · rw [TPost, HNO.out]
        exact ⟨rfl, rfl⟩
    · have hlt : j < 24 := by omega
      clear hMEAS
      go_wp2_with fail
      refine (rmark_next R a c a' c' d p0 j seq _ w0 HRr.out hlt HD.out hg HBW1.out).mono ?_
      rintro e w1 ⟨v2, rfl, hN, hR1, hb1⟩
      obtain ⟨M, hM⟩ : ∃ M, M = stampDec ((logOf d p0).getD j ByteArray.empty) := ⟨_, rfl⟩
      rw [← hM] at hN ⊢
      obtain ⟨mk, er⟩ := M
      have HSTEP := hide (runT_step (log := logOf d p0) (j := j) (by rw [logOf_length]; exact hlt) seq (txW seq info rev) hM)
      have hgm : er = 0 → goodM mk = 0 := by
        intro he
        have := dec_good (s := (logOf d p0).getD j ByteArray.empty) (by rw [← hM]; exact he)
        rw [← hM] at this
        exact this
      have HGM := hide hgm
      clear hM hgm
      obtain ⟨a2, c2, a3, c3, rfl, hT, hI, n1, n2, t1, t2⟩ := hN
      have hs1 := hb1.size
      have HR1 := hide hR1
      have HT := hide hT
      have HI := hide hI
      have HTR : Hid (∀ b off, a2 = some ⟨b, off, none⟩ → b ≠ R) := fun b off e => by have := t1 b off e; omega
      have KB1 : Hid (w1.heap[w.heap.size]? = _) := (hb1.block _ (by omega) (by omega)).trans KB.out
      have KT1 : Hid (w1.heap[w.heap.size + 1]? = _) := (hb1.block _ (by omega) (by omega)).trans KT.out
      have HB1 : Hid (But R w.heap.size w w1) := HB.out.trans hb1 (by omega)
      have HM1 := hide (owns_but HOM.out hb1 (by omega))
      have HV1 := hide (owns_but HOR.out hb1 (by omega))
      have hsz1 : w.heap.size + 1 < w1.heap.size := by omega
      have hsz1' : w.heap.size < w1.heap.size := by omega
      clear hR1 hT hI t1 t2 hb1 KB KT HB HOM HOR HRr HBW1 n1 n2
      by_cases hok : er = 0 ∧ mk.seq = seq
      · obtain ⟨rfl, hq⟩ := hok
        have hfl : (decide ((0 : Int) = 0) && decide (mk.seq = seq)) = true := by simp [hq]
        dsimp only
        rw [hfl]
        obtain ⟨hkind, hk2, hk3, hk4, hk5⟩ := good_kind (HGM.out rfl)
        have HK2 := hide hk2
        have HK3 := hide hk3
        clear hfl hk2 hk3 HGM
        rcases hkind with hk | hk | hk | hk
        · have HNO : Hid (runT (logOf d p0) seq i (txOf seq) = none) := by rw [Hid, HRUN.out, HSTEP.out, if_pos (.inr (.inr hk))]
          clear HSTEP HRUN
          obtain ⟨⟨z0, z1, z2, z3, z4, z5, z6, z7, z8, z9⟩, zf⟩ := box10 KB1.out
          go_wp2
          obtain ⟨W, hW⟩ : ∃ W, W = (((((((((((w1.setCell ⟨w.heap.size, 0, none⟩ (.int .i64 0)).setCell ⟨w.heap.size, 1, none⟩ (.slice none 0 0)).setCell ⟨w.heap.size, 2, none⟩ (.slice none 0 0)).setCell ⟨w.heap.size, 3, none⟩ (.slice none 0 0)).setCell ⟨w.heap.size, 4, none⟩ (.bool false)).setCell ⟨w.heap.size, 5, none⟩ (.int .i64 0)).setCell ⟨w.heap.size, 6, none⟩ (.bool false)).setCell ⟨w.heap.size, 7, none⟩ (.int .i64 0)).setCell ⟨w.heap.size, 8, none⟩ (.bool false)).setCell ⟨w.heap.size, 9, none⟩ (.int .i64 0)).alloc (.cells #[.int .i64 1, .int .i64 seq, .int .i64 mk.pos, .slice a2 mk.tags.length c2, .slice a3 mk.blocks.length c3] 103)) := ⟨_, rfl⟩
          have hbx := stored10a KB1.out (.int .i64 0) (.slice none 0 0) (.slice none 0 0) (.slice none 0 0) (.bool false) (.int .i64 0) (.bool false) (.int .i64 0) (.bool false) (.int .i64 0) (.cells #[.int .i64 1, .int .i64 seq, .int .i64 mk.pos, .slice a2 mk.tags.length c2, .slice a3 mk.blocks.length c3] 103)
          rw [← hW] at hbx
          obtain ⟨⟨y0, y1, y2, y3, y4, y5, y6, y7, y8, y9⟩, _⟩ := box10 hbx
          have HW := hide hW
          rw [← hW]
          clear hW hbx z0 z1 z2 z3 z4 z5 z6 z7 z8 z9 zf
          refine bodyPost_ret (v := .tuple #[.agg #[.int .i64 0, .slice none 0 0, .slice none 0 0, .slice none 0 0, .bool false, .int .i64 0, .bool false, .int .i64 0, .bool false, .int .i64 0], .bool false]) (by simp [results, Tryz.results81, go_sem, y0, y1, y2, y3, y4, y5, y6, y7, y8, y9]) rfl ?_
          unfold TEnd
          refine ⟨_, false, rfl, ?_, ?_⟩
          · rw [HW.out]
            exact (But.trans ((((((((((HB1.out.setNew (p := ⟨w.heap.size, 0, none⟩) (Nat.le_refl _) _).setNew (p := ⟨w.heap.size, 1, none⟩) (Nat.le_refl _) _).setNew (p := ⟨w.heap.size, 2, none⟩) (Nat.le_refl _) _).setNew (p := ⟨w.heap.size, 3, none⟩) (Nat.le_refl _) _).setNew (p := ⟨w.heap.size, 4, none⟩) (Nat.le_refl _) _).setNew (p := ⟨w.heap.size, 5, none⟩) (Nat.le_refl _) _).setNew (p := ⟨w.heap.size, 6, none⟩) (Nat.le_refl _) _).setNew (p := ⟨w.heap.size, 7, none⟩) (Nat.le_refl _) _).setNew (p := ⟨w.heap.size, 8, none⟩) (Nat.le_refl _) _).setNew (p := ⟨w.heap.size, 9, none⟩) (Nat.le_refl _) _) (But.of_below (below1 _ _)) (by simp [World.setCell]; omega))
          · rw [TPost, HNO.out]
            exact ⟨rfl, rfl⟩
        · have htl := hk4 hk
          have hbl : mk.blocks = [] := HK3.out (by omega)
          have HST : Hid (runT (logOf d p0) seq j (txW seq info rev) = if j + 1 + mk.tags.length ≤ 24 then runT (logOf d p0) seq (j + 1 + mk.tags.length) (txW seq (info ++ copiesAt (logOf d p0) (j + 1) mk.tags) rev) else none) := by
            rw [Hid, HSTEP.out, if_neg (by simp [hq, hk]), if_neg (by omega), txW_more, hbl, List.append_nil, logOf_length]
          clear HSTEP hbl
          go_wp2_with fail
          refine (rcopies_any R a c a' c' d p0 (j + 1) a2 c2 mk.tags _ w0 (HR1.out.below (below1 _ _)) (by omega) HD.out hg (bthen (HB1.out.below HBW.out HBW.out.size hR0) (below1 _ _)) hR0 (HT.out.below (below1 _ _)) HTR.out).mono ?_
          rintro e w2 ⟨v2, b2, rfl, hC⟩
          have hs2 : w1.heap.size + 1 ≤ w2.heap.size := by have := hC.1.size; simpa using this
          have KB2 : Hid (w2.heap[w.heap.size]? = _) := (hC.1.block _ (by simp; omega) (by omega)).trans (boxKeep (below1 _ _) hsz1' KB1.out)
          have KT2 : Hid (w2.heap[w.heap.size + 1]? = _) := (hC.1.block _ (by simp; omega) (by omega)).trans (boxKeep (below1 _ _) hsz1 KT1.out)
          have HB2 : Hid (But R w.heap.size w w2) := (HB1.out.trans (But.of_below (below1 _ _)) (by omega)).trans hC.1 (by simp; omega)
          have HM2 := hide (owns_but (owns_keep HM1.out (below1 _ _)) hC.1 (by omega))
          have HV2 := hide (owns_but (owns_keep HV1.out (below1 _ _)) hC.1 (by omega))
          have hsz2 : w.heap.size + 1 < w2.heap.size := by omega
          have hsz2' : w.heap.size < w2.heap.size := by omega
          have HCP := hide hC.2
          clear hC HT HI HTR HR1 HB1 KB1 KT1 HM1 HV1
          by_cases hle : j + 1 + mk.tags.length ≤ 24
          · have hc := HCP.out
            rw [if_pos hle] at hc
            obtain ⟨rfl, hown, hRd⟩ := hc
            have HRUN2 : Hid (runT (logOf d p0) seq i (txOf seq) = runT (logOf d p0) seq (j + 1 + mk.tags.length) (txW seq (info ++ copiesAt (logOf d p0) (j + 1) mk.tags) rev)) := by rw [Hid, HRUN.out, HST.out, if_pos hle]
            obtain ⟨ca, cc, rfl, hS, _⟩ := SegC.of_owns hown
            have HS := hide hS
            have HR2 := hide hRd
            have hcl := copiesAt_length (logOf d p0) (j + 1) mk.tags
            have HCL := hide hcl
            clear hown hS hRd HCP HST HRUN
            generalize copiesAt (logOf d p0) (j + 1) mk.tags = cp at *
            clear hcl
            obtain ⟨⟨z0, z1, z2, z3, z4, z5, z6, z7, z8, z9⟩, zf⟩ := box10 KT2.out
            go_wp2_with (at_builtin; refine wpList_appCs _ (w.heap.size + 2) rfl _ _ rfl (.slice ma info.length mc) info rfl HM2.out ca cc cp rfl HS.out (by have := HCL.out; omega) (by omega) ?_)
            intro v3 w3 HO3 hg3
            obtain ⟨nf, hnf⟩ : ∃ nf, nf = info ++ cp := ⟨_, rfl⟩
            have hnfl : nf.length ≤ j + 1 + mk.tags.length := by have := HCL.out; rw [hnf, List.length_append]; omega
            replace HO3 := hide (owns_n HO3.out (show _ = nf.length by simp [hnf]))
            rw [← hnf] at HO3 HRUN2
            clear hnf
            obtain ⟨ma3, mc3, hv3, _, _⟩ := SegC.of_owns HO3.out
            subst hv3
            have hob : ∀ k, (Value.slice ma info.length mc).ownBlock = some k → w.heap.size + 2 ≤ k := fun k hk => (HM2.out.lt k hk).1
            have hob3 : ∀ k, (Value.slice ma3 nf.length mc3).ownBlock = some k → w.heap.size + 2 ≤ k := fun k hk => (HO3.out.lt k hk).1
            have hobv : ∀ k, (Value.slice ra rev.length rc).ownBlock = some k → w.heap.size + 2 ≤ k := fun k hk => (HV2.out.lt k hk).1
            have hs3 := hg3.size
            have KB3 : Hid (w3.heap[w.heap.size]? = _) := (hg3.block _ hsz2' (fun e => by have := hob _ e.symm; omega)).trans KB2.out
            have KT3 : Hid (w3.heap[w.heap.size + 1]? = _) := (hg3.block _ hsz2 (fun e => by have := hob _ e.symm; omega)).trans KT2.out
            have HR3 : Hid (Rd w3 R a c a' c' d p0 (j + 1 + mk.tags.length)) := HR2.out.grown hg3 (fun k hk => by have := hob k hk; omega)
            have HB3 : Hid (But R w.heap.size w w3) := HB2.out.grown hg3 (fun k hk => by have := hob k hk; omega) (by omega)
            have HV3 := hide (owns_other HV2.out HM2.out (by decide) hg3)
            have HOB := hide (And.intro hob3 hobv)
            clear z0 z1 z2 z3 z4 z5 z6 z7 z8 z9 zf hob hob3 hobv hg3 KB2 KT2 HB2 HM2 HV2 HR2 HS
            obtain ⟨⟨z0, z1, z2, z3, z4, z5, z6, z7, z8, z9⟩, zf⟩ := box10 KT3.out
            have hRT : R ≠ w.heap.size + 1 := by omega
            go_wp2
            clear z0 z1 z2 z3 z4 z5 z6 z7 z8 z9 zf
            go_roundw
            case rel => exact ⟨j + 1 + mk.tags.length, nf, rev, ma3, mc3, ra, rc, by omega, hle, hnfl, by omega, HRUN2, HR3.out.setNe hRT _, HB3.out.setNew (p := ⟨w.heap.size + 1, 1, none⟩) (by simp) _, by simp [World.setCell]; omega, (box_setNe (by simp) _).trans KB3.out, heap_setCell_same _ _ 1 _ _ (.slice ma3 nf.length mc3) KT3.out, owns_setNe HO3.out (fun k hk => by have := HOB.out.1 k hk; simp; omega) _, owns_setNe HV3.out (fun k hk => by have := HOB.out.2 k hk; simp; omega) _⟩
            case measure =>
              rw [(box4 (HR3.out.setNe (p := ⟨w.heap.size + 1, 1, none⟩) hRT _)).1.2.2.2]
              simp
              omega
          · have hc := HCP.out
            rw [if_neg hle] at hc
            obtain ⟨rfl, rfl⟩ := hc
            have HNO : Hid (runT (logOf d p0) seq i (txOf seq) = none) := by rw [Hid, HRUN.out, HST.out, if_neg hle]
            clear HCP HST HRUN HM2 HV2 KT2
            obtain ⟨⟨z0, z1, z2, z3, z4, z5, z6, z7, z8, z9⟩, zf⟩ := box10 KB2.out
            go_wp2
            obtain ⟨W, hW⟩ : ∃ W, W = ((((((((((w2.setCell ⟨w.heap.size, 0, none⟩ (.int .i64 0)).setCell ⟨w.heap.size, 1, none⟩ (.slice none 0 0)).setCell ⟨w.heap.size, 2, none⟩ (.slice none 0 0)).setCell ⟨w.heap.size, 3, none⟩ (.slice none 0 0)).setCell ⟨w.heap.size, 4, none⟩ (.bool false)).setCell ⟨w.heap.size, 5, none⟩ (.int .i64 0)).setCell ⟨w.heap.size, 6, none⟩ (.bool false)).setCell ⟨w.heap.size, 7, none⟩ (.int .i64 0)).setCell ⟨w.heap.size, 8, none⟩ (.bool false)).setCell ⟨w.heap.size, 9, none⟩ (.int .i64 0)) := ⟨_, rfl⟩
            have hbx := stored10 KB2.out (.int .i64 0) (.slice none 0 0) (.slice none 0 0) (.slice none 0 0) (.bool false) (.int .i64 0) (.bool false) (.int .i64 0) (.bool false) (.int .i64 0)
            rw [← hW] at hbx
            obtain ⟨⟨y0, y1, y2, y3, y4, y5, y6, y7, y8, y9⟩, _⟩ := box10 hbx
            have HW := hide hW
            rw [← hW]
            clear hW hbx z0 z1 z2 z3 z4 z5 z6 z7 z8 z9 zf
            refine bodyPost_ret (v := .tuple #[.agg #[.int .i64 0, .slice none 0 0, .slice none 0 0, .slice none 0 0, .bool false, .int .i64 0, .bool false, .int .i64 0, .bool false, .int .i64 0], .bool false]) (by simp [results, Tryz.results81, go_sem, y0, y1, y2, y3, y4, y5, y6, y7, y8, y9]) rfl ?_
            unfold TEnd
            refine ⟨_, false, rfl, ?_, ?_⟩
            · rw [HW.out]
              exact ((((((((((HB2.out.setNew (p := ⟨w.heap.size, 0, none⟩) (Nat.le_refl _) _).setNew (p := ⟨w.heap.size, 1, none⟩) (Nat.le_refl _) _).setNew (p := ⟨w.heap.size, 2, none⟩) (Nat.le_refl _) _).setNew (p := ⟨w.heap.size, 3, none⟩) (Nat.le_refl _) _).setNew (p := ⟨w.heap.size, 4, none⟩) (Nat.le_refl _) _).setNew (p := ⟨w.heap.size, 5, none⟩) (Nat.le_refl _) _).setNew (p := ⟨w.heap.size, 6, none⟩) (Nat.le_refl _) _).setNew (p := ⟨w.heap.size, 7, none⟩) (Nat.le_refl _) _).setNew (p := ⟨w.heap.size, 8, none⟩) (Nat.le_refl _) _).setNew (p := ⟨w.heap.size, 9, none⟩) (Nat.le_refl _) _)
            · rw [TPost, HNO.out]
              exact ⟨rfl, rfl⟩
        · have hbl2 := hk5 hk
          have htg : mk.tags = [] := HK2.out (by omega)
          have HRUN2 : Hid (runT (logOf d p0) seq i (txOf seq) = runT (logOf d p0) seq (j + 1) (txW seq info (rev ++ mk.blocks))) := by
            rw [Hid, HRUN.out, HSTEP.out, if_neg (by simp [hq, hk]), if_neg (by omega), txW_more, htg, if_pos (by rw [logOf_length]; simp; omega)]
            simp [copiesAt]
          clear HSTEP HRUN htg
          obtain ⟨⟨z0, z1, z2, z3, z4, z5, z6, z7, z8, z9⟩, zf⟩ := box10 KT1.out
          go_wp2_with (at_builtin; refine wpList_appIs _ (w.heap.size + 2) rfl _ _ rfl (.slice ra rev.length rc) rev rfl (owns_keep HV1.out (below1 _ _)) a3 c3 mk.blocks rfl (HI.out.below (below1 _ _)) (by omega) (by simp; omega) ?_)
          intro v3 w3 HO3 hg3
          obtain ⟨rv, hrv⟩ : ∃ rv, rv = rev ++ mk.blocks := ⟨_, rfl⟩
          have hrvl : rv.length ≤ 20 * (j + 1) := by rw [hrv, List.length_append]; omega
          replace HO3 := hide (owns_n HO3.out (show _ = rv.length by simp [hrv]))
          rw [← hrv] at HO3 HRUN2
          clear hrv
          obtain ⟨ra3, rc3, hv3, _, _⟩ := SegI.of_owns HO3.out
          subst hv3
          have hB2 : Below w1.heap.size w1 (w1.alloc (.cells #[.int .i64 3, .int .i64 seq, .int .i64 mk.pos, .slice a2 mk.tags.length c2, .slice a3 mk.blocks.length c3] 103)) := below1 _ _
          have hob : ∀ k, (Value.slice ra rev.length rc).ownBlock = some k → w.heap.size + 2 ≤ k := fun k hk => (HV1.out.lt k hk).1
          have hob3 : ∀ k, (Value.slice ra3 rv.length rc3).ownBlock = some k → w.heap.size + 2 ≤ k := fun k hk => (HO3.out.lt k hk).1
          have hobm : ∀ k, (Value.slice ma info.length mc).ownBlock = some k → w.heap.size + 2 ≤ k := fun k hk => (HM1.out.lt k hk).1
          have hs3 : w1.heap.size + 1 ≤ w3.heap.size := by have := hg3.size; simpa using this
          have KB3 : Hid (w3.heap[w.heap.size]? = _) := (hg3.block _ (by simp; omega) (fun e => by have := hob _ e.symm; omega)).trans (boxKeep hB2 hsz1' KB1.out)
          have KT3 : Hid (w3.heap[w.heap.size + 1]? = _) := (hg3.block _ (by simp; omega) (fun e => by have := hob _ e.symm; omega)).trans (boxKeep hB2 hsz1 KT1.out)
          have HR3 : Hid (Rd w3 R a c a' c' d p0 (j + 1)) := (HR1.out.below hB2).grown hg3 (fun k hk => by have := hob k hk; omega)
          have HB3 : Hid (But R w.heap.size w w3) := (HB1.out.trans (But.of_below hB2) (by omega)).grown hg3 (fun k hk => by have := hob k hk; omega) (by simp; omega)
          have HM3 := hide (owns_other (owns_keep HM1.out hB2) (owns_keep HV1.out hB2) (by decide) hg3)
          have HOB := hide (And.intro hob3 hobm)
          clear z0 z1 z2 z3 z4 z5 z6 z7 z8 z9 zf hob hob3 hobm hg3 KB1 KT1 HB1 HM1 HV1 HR1 HT HI HTR hB2
          obtain ⟨⟨z0, z1, z2, z3, z4, z5, z6, z7, z8, z9⟩, zf⟩ := box10 KT3.out
          have hRT : R ≠ w.heap.size + 1 := by omega
          have hsz3 : w.heap.size + 1 < w3.heap.size := by omega
          go_wp2
          clear z0 z1 z2 z3 z4 z5 z6 z7 z8 z9 zf
          go_roundw
          case rel => exact ⟨j + 1, info, rv, ma, mc, ra3, rc3, by omega, by omega, by omega, hrvl, HRUN2, HR3.out.setNe hRT _, HB3.out.setNew (p := ⟨w.heap.size + 1, 3, none⟩) (by simp) _, by simp [World.setCell]; omega, (box_setNe (by simp) _).trans KB3.out, heap_setCell_same _ _ 3 _ _ (.slice ra3 rv.length rc3) KT3.out, owns_setNe HM3.out (fun k hk => by have := HOB.out.2 k hk; simp; omega) _, owns_setNe HO3.out (fun k hk => by have := HOB.out.1 k hk; simp; omega) _⟩
          case measure =>
            rw [(box4 (HR3.out.setNe (p := ⟨w.heap.size + 1, 3, none⟩) hRT _)).1.2.2.2]
            simp
            omega
        · have HYES : Hid (runT (logOf d p0) seq i (txOf seq) = some (j + 1, txW seq info rev)) := by rw [Hid, HRUN.out, HSTEP.out, if_neg (by simp [hq, hk]), if_pos hk]
          have hobv : ∀ k, (Value.slice ra rev.length rc).ownBlock = some k → w.heap.size + 2 ≤ k := fun k hk => (HV1.out.lt k hk).1
          have hobm : ∀ k, (Value.slice ma info.length mc).ownBlock = some k → w.heap.size + 2 ≤ k := fun k hk => (HM1.out.lt k hk).1
          have HOB := hide (And.intro hobm hobv)
          clear HSTEP HRUN hobv hobm HT HI HTR
          obtain ⟨⟨z0, z1, z2, z3, z4, z5, z6, z7, z8, z9⟩, zf⟩ := box10 KB1.out
          obtain ⟨⟨y0, y1, y2, y3, y4, y5, y6, y7, y8, y9⟩, yf⟩ := box10 KT1.out
          go_wp2
          clear y0 y1 y2 y3 y4 y5 y6 y7 y8 y9 yf
          obtain ⟨W, hW⟩ : ∃ W, W = (((((((((((w1.setCell ⟨w.heap.size, 0, none⟩ (.int .i64 seq)).setCell ⟨w.heap.size, 1, none⟩ (.slice ma info.length mc)).setCell ⟨w.heap.size, 2, none⟩ (.slice none 0 0)).setCell ⟨w.heap.size, 3, none⟩ (.slice ra rev.length rc)).setCell ⟨w.heap.size, 4, none⟩ (.bool false)).setCell ⟨w.heap.size, 5, none⟩ (.int .i64 0)).setCell ⟨w.heap.size, 6, none⟩ (.bool false)).setCell ⟨w.heap.size, 7, none⟩ (.int .i64 0)).setCell ⟨w.heap.size, 8, none⟩ (.bool false)).setCell ⟨w.heap.size, 9, none⟩ (.int .i64 0)).alloc (.cells #[.int .i64 4, .int .i64 seq, .int .i64 mk.pos, .slice a2 mk.tags.length c2, .slice a3 mk.blocks.length c3] 103)) := ⟨_, rfl⟩
          have hbx := stored10a KB1.out (.int .i64 seq) (.slice ma info.length mc) (.slice none 0 0) (.slice ra rev.length rc) (.bool false) (.int .i64 0) (.bool false) (.int .i64 0) (.bool false) (.int .i64 0) (.cells #[.int .i64 4, .int .i64 seq, .int .i64 mk.pos, .slice a2 mk.tags.length c2, .slice a3 mk.blocks.length c3] 103)
          rw [← hW] at hbx
          obtain ⟨⟨y0, y1, y2, y3, y4, y5, y6, y7, y8, y9⟩, _⟩ := box10 hbx
          have HW := hide hW
          rw [← hW]
          clear hW hbx z0 z1 z2 z3 z4 z5 z6 z7 z8 z9 zf
          refine bodyPost_ret (v := .tuple #[.agg #[.int .i64 seq, .slice ma info.length mc, .slice none 0 0, .slice ra rev.length rc, .bool false, .int .i64 0, .bool false, .int .i64 0, .bool false, .int .i64 0], .bool true]) (by simp [results, Tryz.results81, go_sem, y0, y1, y2, y3, y4, y5, y6, y7, y8, y9]) rfl ?_
          unfold TEnd
          refine ⟨_, true, rfl, ?_, ?_⟩
          · rw [HW.out]
            exact (But.trans ((((((((((HB1.out.setNew (p := ⟨w.heap.size, 0, none⟩) (Nat.le_refl _) _).setNew (p := ⟨w.heap.size, 1, none⟩) (Nat.le_refl _) _).setNew (p := ⟨w.heap.size, 2, none⟩) (Nat.le_refl _) _).setNew (p := ⟨w.heap.size, 3, none⟩) (Nat.le_refl _) _).setNew (p := ⟨w.heap.size, 4, none⟩) (Nat.le_refl _) _).setNew (p := ⟨w.heap.size, 5, none⟩) (Nat.le_refl _) _).setNew (p := ⟨w.heap.size, 6, none⟩) (Nat.le_refl _) _).setNew (p := ⟨w.heap.size, 7, none⟩) (Nat.le_refl _) _).setNew (p := ⟨w.heap.size, 8, none⟩) (Nat.le_refl _) _).setNew (p := ⟨w.heap.size, 9, none⟩) (Nat.le_refl _) _) (But.of_below (below1 _ _)) (by simp [World.setCell]; omega))
          · rw [TPost, HYES.out]
            refine ⟨rfl, ?_, _, _, rfl, ⟨?_, ?_, ?_⟩, rfl⟩
            · rw [HW.out]
              refine Rd.below ?_ (below1 _ _)
              repeat refine Rd.setNe ?_ (show R ≠ w.heap.size by omega) _
              exact HR1.out
            · rw [HW.out]
              refine owns_base (owns_keep ?_ (below1 _ _)) (show w.heap.size ≤ w.heap.size + 2 by omega)
              repeat refine owns_setNe ?_ (fun k e => by have := HOB.out.1 k e; simp; omega) _
              exact HM1.out
            · exact World.ownsRow_nil _ _ _ _
            · rw [HW.out]
              refine owns_base (owns_keep ?_ (below1 _ _)) (show w.heap.size ≤ w.heap.size + 2 by omega)
              repeat refine owns_setNe ?_ (fun k e => by have := HOB.out.2 k e; simp; omega) _
              exact HV1.out
      · have hfl : (decide (er = 0) && decide (mk.seq = seq)) = false := by
          rw [Bool.and_eq_false_iff]
          by_cases he : er = 0
          · right; exact decide_eq_false fun hq => hok ⟨he, hq⟩
          · left; exact decide_eq_false he
        have HNO : Hid (runT (logOf d p0) seq i (txOf seq) = none) := by
          rw [Hid, HRUN.out, HSTEP.out, if_pos]
          by_cases he : er = 0
          · exact .inr (.inl fun hq => hok ⟨he, hq⟩)
          · exact .inl he
        dsimp only
        rw [hfl]
        clear HSTEP HRUN hok hfl HGM
        obtain ⟨⟨z0, z1, z2, z3, z4, z5, z6, z7, z8, z9⟩, zf⟩ := box10 KB1.out
        go_wp2
        obtain ⟨W, hW⟩ : ∃ W, W = (((((((((((w1.setCell ⟨w.heap.size, 0, none⟩ (.int .i64 0)).setCell ⟨w.heap.size, 1, none⟩ (.slice none 0 0)).setCell ⟨w.heap.size, 2, none⟩ (.slice none 0 0)).setCell ⟨w.heap.size, 3, none⟩ (.slice none 0 0)).setCell ⟨w.heap.size, 4, none⟩ (.bool false)).setCell ⟨w.heap.size, 5, none⟩ (.int .i64 0)).setCell ⟨w.heap.size, 6, none⟩ (.bool false)).setCell ⟨w.heap.size, 7, none⟩ (.int .i64 0)).setCell ⟨w.heap.size, 8, none⟩ (.bool false)).setCell ⟨w.heap.size, 9, none⟩ (.int .i64 0)).alloc (.cells #[.int .i64 mk.kind, .int .i64 mk.seq, .int .i64 mk.pos, .slice a2 mk.tags.length c2, .slice a3 mk.blocks.length c3] 103)) := ⟨_, rfl⟩
        have hbx := stored10a KB1.out (.int .i64 0) (.slice none 0 0) (.slice none 0 0) (.slice none 0 0) (.bool false) (.int .i64 0) (.bool false) (.int .i64 0) (.bool false) (.int .i64 0) (.cells #[.int .i64 mk.kind, .int .i64 mk.seq, .int .i64 mk.pos, .slice a2 mk.tags.length c2, .slice a3 mk.blocks.length c3] 103)
        rw [← hW] at hbx
        obtain ⟨⟨y0, y1, y2, y3, y4, y5, y6, y7, y8, y9⟩, _⟩ := box10 hbx
        have HW := hide hW
        rw [← hW]
        clear hW hbx z0 z1 z2 z3 z4 z5 z6 z7 z8 z9 zf
        refine bodyPost_ret (v := .tuple #[.agg #[.int .i64 0, .slice none 0 0, .slice none 0 0, .slice none 0 0, .bool false, .int .i64 0, .bool false, .int .i64 0, .bool false, .int .i64 0], .bool false]) (by simp [results, Tryz.results81, go_sem, y0, y1, y2, y3, y4, y5, y6, y7, y8, y9]) rfl ?_
        unfold TEnd
        refine ⟨_, false, rfl, ?_, ?_⟩
        · rw [HW.out]
          exact (But.trans ((((((((((HB1.out.setNew (p := ⟨w.heap.size, 0, none⟩) (Nat.le_refl _) _).setNew (p := ⟨w.heap.size, 1, none⟩) (Nat.le_refl _) _).setNew (p := ⟨w.heap.size, 2, none⟩) (Nat.le_refl _) _).setNew (p := ⟨w.heap.size, 3, none⟩) (Nat.le_refl _) _).setNew (p := ⟨w.heap.size, 4, none⟩) (Nat.le_refl _) _).setNew (p := ⟨w.heap.size, 5, none⟩) (Nat.le_refl _) _).setNew (p := ⟨w.heap.size, 6, none⟩) (Nat.le_refl _) _).setNew (p := ⟨w.heap.size, 7, none⟩) (Nat.le_refl _) _).setNew (p := ⟨w.heap.size, 8, none⟩) (Nat.le_refl _) _).setNew (p := ⟨w.heap.size, 9, none⟩) (Nat.le_refl _) _) (But.of_below (below1 _ _)) (by simp [World.setCell]; omega))
        · rw [TPost, HNO.out]
          exact ⟨rfl, rfl⟩

end Go.Proofs.YtjnpndfpajjihabGreat
