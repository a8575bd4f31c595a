/-
  The walk of seal's escape.
-/
import Derived.Test.YtjnpndfpajjihabSEsc
import Derived.Test.YtjnpndfpajjihabERows
import Derived.Test.YtjnpndfpajjihabTDefs
namespace Go.Proofs.Ytjnpndfpajjihab
open Go.RowKit

/-- What a descriptor says of copies, and what stands behind it. -/
def tagsOf (l : List (Int × ByteArray)) : List (Int × Bool) := l.map fun c => (c.1, isMagic c.2)
def textsOf (l : List (Int × ByteArray)) : List ByteArray := l.map fun c => escT c.2
theorem tagsOf_snoc {l : List (Int × ByteArray)} {k : Nat} {x : Int × ByteArray} (h : l[k]? = some x) : tagsOf (l.take (k + 1)) = tagsOf (l.take k) ++ [(x.1, isMagic x.2)] := by
  rw [List.take_add_one, h, tagsOf, tagsOf, List.map_append]; rfl
theorem textsOf_snoc {l : List (Int × ByteArray)} {k : Nat} {x : Int × ByteArray} (h : l[k]? = some x) : textsOf (l.take (k + 1)) = textsOf (l.take k) ++ [escT x.2] := by
  rw [List.take_add_one, h, textsOf, textsOf, List.map_append]; rfl

def cellsG : List (Int × Bool) → List Value
  | [] => []
  | x :: r => .int .i64 x.1 :: .bool x.2 :: cellsG r
theorem cellsG_length (l : List (Int × Bool)) : (cellsG l).length = l.length * 2 := by
  induction l with
  | nil => rfl
  | cons x r ih => simp [cellsG, ih]; omega
theorem cellsG_append (l r : List (Int × Bool)) : cellsG (l ++ r) = cellsG l ++ cellsG r := by
  induction l with
  | nil => rfl
  | cons x r ih => simp [cellsG, ih]
theorem cellsG_one (l : List (Int × Bool)) : ∀ u ∈ cellsG l, u.oneCell' = true := by
  induction l with
  | nil => intro u hu; simp [cellsG] at hu
  | cons x r ih =>
    intro u hu
    simp only [cellsG, List.mem_cons] at hu
    rcases hu with rfl | rfl | hu
    · rfl
    · rfl
    · exact ih u hu
theorem cellsG_at (l : List (Int × Bool)) (i : Nat) (h : i < l.length) : (cellsG l)[i * 2]? = some (.int .i64 (l.getD i (0, false)).1) ∧ (cellsG l)[i * 2 + 1]? = some (.bool (l.getD i (0, false)).2) := by
  induction l generalizing i with
  | nil => simp at h
  | cons x r ih =>
    cases i with
    | zero => exact ⟨rfl, rfl⟩
    | succ i =>
      have e1 : (i + 1) * 2 = i * 2 + 1 + 1 := by omega
      rw [cellsG, e1]
      simpa using ih i (by simpa using h)
theorem SegG.of_owns {w : World} {base n : Nat} {v : Value} {l : List (Int × Bool)} (h : w.ownsRow base 202 2 v n (cellsG l)) : ∃ a c, v = .slice a l.length c ∧ SegT w a l ∧ ∀ b off, a = some ⟨b, off, none⟩ → base ≤ b := by
  have hn : l.length = n := by have := h.1; rw [cellsG_length] at this; omega
  subst hn
  rcases h.2 with ⟨rfl, h0⟩ | ⟨g, cap, cur, rfl, hb, hg, rest⟩
  · exact ⟨none, 0, by rw [h0], .inl (List.eq_nil_of_length_eq_zero h0), fun _ _ h => by cases h⟩
  · refine ⟨_, cap, rfl, .inr ⟨g, 0, rfl, (Array.getElem?_eq_some_iff.1 hg).1, fun i hi => ?_⟩, fun _ _ h => by cases h; exact hb⟩
    have e := cellsG_at l i hi
    rw [Nat.zero_add, h.cellAt (i * 2) (by omega), h.cellAt (i * 2 + 1) (by omega)]
    exact e
theorem infoG : (Try.prog.info? 202).map (fun i => (i.zero, i.size, i.bytes)) = some (some (.agg #[.int .i64 0, .bool false]), 2, 16) := by kernel_rfl
def OwnG (w : World) (base : Nat) (v : Value) (l : List (Int × Bool)) : Prop := w.ownsRow base 202 2 v l.length (cellsG l)
theorem wpList_appG {w : World} {ops : Array Oper} {rest : List Oper} {o : Oper} {a : Act} {Q : Exit → Act → World → Prop} (hgd : o.guard = none) (s x : Operand)
    (ho : o.op = .call { callee := .builtin .append, args := #[s, x], argTypes := #[128, 128] })
    (base : Nat) (v : Value) (l : List (Int × Bool)) (hs : a.eval s = v) (hown : w.ownsRow base 202 2 v l.length (cellsG l)) (b : Nat) (y : Int × Bool) (hx : a.eval x = .slice (some ⟨b, 0, none⟩) 1 1)
    (h0 : w.cell? ⟨b, 0, none⟩ = some (.int .i64 y.1)) (h1 : w.cell? ⟨b, 1, none⟩ = some (.bool y.2)) (h63 : l.length ≤ 1000) (hbase : base ≤ w.heap.size)
    (h : ∀ v' w', OwnG w' base v' (l ++ [y]) → w.grownBy w' v.ownBlock → wpList Try.prog ops Q rest (a.put o.dst v') w') : wpList Try.prog ops Q (o :: rest) a w := by
  obtain ⟨i0, hi, hz0, hz1, hz2⟩ := info_parts infoG
  refine wpList_append_own w hgd s x 128 ho base 202 i0 (.agg #[.int .i64 0, .bool false]) 2 16 Try.underlying128 hi hz0 hz1 hz2 rfl (by decide) v l.length (cellsG l) hs hown ⟨b, 0, none⟩ 1 1 (cellsG [y]) hx rfl ?_ (cellsG_one _) (by unfold maxLen; omega) (by omega) hbase ?_
  · intro j u hj
    rw [Addr.add_lit, Nat.zero_add]
    match j, hj with
    | 0, hj => simp [cellsG] at hj; subst hj; exact h0
    | 1, hj => simp [cellsG] at hj; subst hj; exact h1
    | j + 2, hj => simp [cellsG] at hj
  · intro v' w' k1 k2 _
    refine h v' w' ?_ k2
    rw [OwnG, cellsG_append, List.length_append]
    exact k1

def cellsT1s (l : List ByteArray) : List Value := l.map Value.string
theorem cellsT1s_length (l : List ByteArray) : (cellsT1s l).length = l.length * 1 := by simp [cellsT1s]
theorem cellsT1s_one (l : List ByteArray) : ∀ u ∈ cellsT1s l, u.oneCell' = true := by
  intro u hu
  obtain ⟨s, _, rfl⟩ := List.mem_map.1 hu
  rfl
theorem infoTx : (Try.prog.info? 9).map (fun i => (i.zero, i.size, i.bytes)) = some (some (.string ⟨#[]⟩), 1, 16) := by kernel_rfl
def OwnT (w : World) (base : Nat) (v : Value) (l : List ByteArray) : Prop := w.ownsRow base 9 1 v l.length (cellsT1s l)
theorem SegX.of_owns {w : World} {base : Nat} {v : Value} {l : List ByteArray} (h : OwnT w base v l) : ∃ a c, v = .slice a l.length c ∧ SegS w a l ∧ ∀ b off, a = some ⟨b, off, none⟩ → base ≤ b := by
  rcases h.2 with ⟨rfl, h0⟩ | ⟨g, cap, cur, rfl, hb, hg, rest⟩
  · exact ⟨none, 0, by rw [h0], .inl (List.eq_nil_of_length_eq_zero h0), fun _ _ h => by cases h⟩
  · refine ⟨_, cap, rfl, .inr ⟨g, 0, rfl, (Array.getElem?_eq_some_iff.1 hg).1, fun i hi => ?_⟩, fun _ _ h => by cases h; exact hb⟩
    rw [Nat.zero_add, World.ownsRow.cellAt h i (by omega), cellsT1s, List.getElem?_map, getD_at l i ByteArray.empty hi]
    rfl
theorem wpList_appT {w : World} {ops : Array Oper} {rest : List Oper} {o : Oper} {a : Act} {Q : Exit → Act → World → Prop} (hgd : o.guard = none) (s x : Operand)
    (ho : o.op = .call { callee := .builtin .append, args := #[s, x], argTypes := #[66, 66] })
    (base : Nat) (v : Value) (l : List ByteArray) (hs : a.eval s = v) (hown : OwnT w base v l) (b : Nat) (y : ByteArray) (hx : a.eval x = .slice (some ⟨b, 0, none⟩) 1 1)
    (h0 : w.cell? ⟨b, 0, none⟩ = some (.string y)) (h63 : l.length ≤ 1000) (hbase : base ≤ w.heap.size)
    (h : ∀ v' w', OwnT w' base v' (l ++ [y]) → w.grownBy w' v.ownBlock → wpList Try.prog ops Q rest (a.put o.dst v') w') : wpList Try.prog ops Q (o :: rest) a w := by
  obtain ⟨i0, hi, hz0, hz1, hz2⟩ := info_parts infoTx
  refine wpList_append_own w hgd s x 66 ho base 9 i0 (.string ⟨#[]⟩) 1 16 Try.underlying66 hi hz0 hz1 hz2 rfl (by decide) v l.length (cellsT1s l) hs hown ⟨b, 0, none⟩ 1 1 (cellsT1s [y]) hx rfl ?_ (cellsT1s_one _) (by unfold maxLen; omega) (by omega) hbase ?_
  · intro j u hj
    rw [Addr.add_lit, Nat.zero_add]
    match j, hj with
    | 0, hj => simp [cellsT1s] at hj; subst hj; exact h0
    | j + 1, hj => simp [cellsT1s] at hj
  · intro v' w' k1 k2 _
    refine h v' w' ?_ k2
    rw [OwnT, List.length_append, cellsT1s, List.map_append]
    exact k1

/-- Rows of the call's own of two types lie in two blocks. -/
theorem rows_ne {w : World} {b1 b2 s1 s2 n1 n2 : Nat} {e1 e2 : TypeId} {v1 v2 : Value} {x1 x2 : List Value} (h1 : w.ownsRow b1 e1 s1 v1 n1 x1) (h2 : w.ownsRow b2 e2 s2 v2 n2 x2) (hne : e1 ≠ e2) : v1.ownBlock = none ∨ v1.ownBlock ≠ v2.ownBlock := by
  rcases h1.2 with ⟨rfl, _⟩ | ⟨g, cap, cur, rfl, _, hg, _⟩
  · exact .inl rfl
  · refine .inr fun e => ?_
    rcases h2.2 with ⟨rfl, _⟩ | ⟨g2, cap2, cur2, rfl, _, hg2, _⟩
    · simp [Value.ownBlock] at e
    · simp [Value.ownBlock] at e
      subst e
      rw [hg] at hg2
      simp only [Option.some.injEq, Obj.cells.injEq] at hg2
      exact hne hg2.2.1

set_option maxHeartbeats 2000000 in
set_option maxRecDepth 100000 in
theorem sealEscape_any (a : Option Addr) (c : Nat) (l : List (Int × ByteArray)) (w : World) (h : SegW w a l) (hn : l.length ≤ 500) (hb : ∀ x ∈ l, x.2.size ≤ maxLen) :
    Calls Try.prog 142 #[.slice a l.length c] w fun e w' => ∃ v1 v2, e = .returned (.tuple #[v1, v2]) ∧ OwnG w' w.heap.size v1 (tagsOf l) ∧ OwnT w' w.heap.size v2 (textsOf l) ∧ Below w.heap.size w w' := by
  have HS := hide h
  have HBD := hide hb
  clear h hb
  go_enter Try.func142, Try.ntmps142
  go_wp2
  go_loopw [2, 3, 10] (fun g s i wr => ∃ k : Nat, k ≤ l.length ∧ i = .int .i64 k ∧ Hid (OwnG wr w.heap.size g (tagsOf (l.take k))) ∧ Hid (OwnT wr w.heap.size s (textsOf (l.take k))) ∧ Hid (Below w.heap.size w wr)) (fun _ _ i _ => l.length - (intOf i).toNat)
  case atStart => exact ⟨0, Nat.zero_le _, rfl, World.ownsRow_nil _ _ _ _, World.ownsRow_nil _ _ _ _, Below.refl _ _⟩
  case round =>
    obtain ⟨k, hk, rfl, hg, ht, hbr⟩ := hrel
    by_cases hlt : k < l.length
    · obtain ⟨b2, off, rfl, hb, hc⟩ := HS.out.resolve_left (by intro e; rw [e] at hlt; simp at hlt)
      obtain ⟨x, hx⟩ : ∃ x, x = l.getD k (0, ByteArray.empty) := ⟨_, rfl⟩
      obtain ⟨hc1, hc2⟩ := hc k hlt
      rw [← hx] at hc1 hc2
      have HX : l[k]? = some x := by rw [hx]; exact getD_at _ _ _ hlt
      have hsz := HBD.out x (List.mem_of_getElem? HX)
      have g1 := cellKeep hbr.out hb hc1
      have g2 := cellKeep hbr.out hb hc2
      have HT1 := hide (tagsOf_snoc HX)
      have HT2 := hide (textsOf_snoc HX)
      have hq1 : (tagsOf (l.take k)).length ≤ 500 := by rw [tagsOf, List.length_map, List.length_take]; omega
      have hq2 : (textsOf (l.take k)).length ≤ 500 := by rw [textsOf, List.length_map, List.length_take]; omega
      have hlt' : (k : Int) < (l.length : Int) := by omega
      clear hx hc hc1 hc2 HX
      obtain ⟨n, s⟩ := x
      generalize tagsOf (l.take k) = q1 at *
      generalize textsOf (l.take k) = q2 at *
      have HA := hide (bthen hbr.out (below1 wr (.cells #[.int .i64 n, .string s] 91)))
      go_wp2_with fail
      refine (stampEscape_any s _ hsz).mono ?_
      rintro e w3 ⟨rfl, rfl⟩
      generalize escT s = es at *
      generalize isMagic s = im at *
      go_wp2_with (at_builtin; refine wpList_appG rfl _ _ rfl w.heap.size _ q1 rfl (owns_keep (owns_keep hg.out (below1 _ _)) (below1 _ _)) (wr.heap.size + 1) (n, im) rfl (by simp [go_sem]) (by simp [go_sem]) (by omega) (Nat.le_trans hbr.out.size (by simp; omega)) ?_)
      intro v1 w4 hown1 hg1
      have hB4 : Below w.heap.size w w4 := (HA.out.alloc HA.out.size _).grown hg1 (Nat.le_trans hbr.out.size (by simp; omega)) (fun j hj => (World.ownsRow.lt hg.out j hj).1)
      have HT4 := hide (World.ownsRow.kept (owns_keep (owns_keep ht.out (below1 _ _)) (below1 _ _)) hg1 (rows_ne ht.out hg.out (by decide)))
      have HG4 := hide hown1
      have HB4 := hide hB4
      clear hown1 hg1 hB4 hg ht hbr HA g1 g2
      go_wp2_with (at_builtin; refine wpList_appT rfl _ _ rfl w.heap.size _ q2 rfl (owns_keep HT4.out (below1 _ _)) w4.heap.size es rfl (by simp [go_sem]) (by omega) (Nat.le_trans HB4.out.size (by simp)) ?_)
      intro v2 w5 hown2 hg2
      have hB5 : Below w.heap.size w w5 := (HB4.out.alloc HB4.out.size _).grown hg2 (Nat.le_trans HB4.out.size (by simp)) (fun j hj => (World.ownsRow.lt HT4.out j hj).1)
      have HG5 := hide (World.ownsRow.kept (owns_keep HG4.out (below1 _ _)) hg2 (rows_ne HG4.out HT4.out (by decide)))
      clear hg2
      go_wp2
      go_roundw
      case rel => exact ⟨k + 1, by omega, by go_num, by rw [HT1.out]; exact HG5.out, by rw [HT2.out]; exact hown2, hB5⟩
      case measure => simp [intOf]; omega
    · have e : k = l.length := by omega
      subst e
      rw [List.take_length] at hg ht
      go_wp2
      go_ret2
      exact ⟨_, _, rfl, hg.out, ht.out, hbr.out⟩

end Go.Proofs.Ytjnpndfpajjihab
