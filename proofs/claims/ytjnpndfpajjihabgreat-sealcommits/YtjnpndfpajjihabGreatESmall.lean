/-
  A block as a copy in the log, and back. Nothing of the program is proved here.
  The walks of stamp.Escape and stamp.Unescape, and of the statements' own marks.
  The walks of stamp.Escape and stamp.Unescape, and of the statements' own marks.
  The walk of seal's escape.
  The walks of package seal's write, flush and home.
  The walk of the document's own EscapeBlock.
-/
import Derived.Test.YtjnpndfpajjihabGreatBase
import Derived.Test.YtjnpndfpajjihabGreatSEncode
import Derived.Test.YtjnpndfpajjihabGreatERows
import Derived.Test.YtjnpndfpajjihabGreatTDefs
import Derived.Deep.QuietTactic
import Derived.BigQuiet
namespace Go.Proofs.YtjnpndfpajjihabGreat
open Go.RowKit

/-- Does a text begin with Magic? What Escape and Unescape make of it. -/
def isMagic (s : ByteArray) : Bool := if 4 ≤ s.size then ((s.extract 0 4).toList == [87, 66, 75, 49]) else false
def escT (s : ByteArray) : ByteArray := if isMagic s then (⟨#[0, 0, 0, 0]⟩ : ByteArray) ++ s.extract 4 s.size else s
def unescT (s : ByteArray) (e : Bool) : ByteArray := if e = false ∨ s.size < 4 then s else (⟨#[87, 66, 75, 49]⟩ : ByteArray) ++ s.extract 4 s.size


set_option maxHeartbeats 1000000 in
theorem hasPrefix_magic (s : ByteArray) (w : World) (hn : s.size ≤ maxLen) :
    Calls Tryz.prog 159 #[.string s, .string ⟨#[87, 66, 75, 49]⟩] w fun e w' => e = .returned (.bool (isMagic s)) ∧ w = w' := by
  unfold maxLen at hn
  go_enter Tryz.func159, Tryz.ntmps159
  by_cases h4 : 4 ≤ s.size
  · have h4' : (4 : Int) ≤ (s.size : Int) := by omega
    by_cases hm : ((s.extract 0 4).toList == [87, 66, 75, 49]) = true
    · have HM : Hid (isMagic s = true) := by rw [Hid, isMagic, if_pos h4]; exact hm
      go_wp2
      go_ret
      exact ⟨by rw [HM.out]; rfl, rfl⟩
    · have hm' : ((s.extract 0 4).toList == [87, 66, 75, 49]) = false := by simpa using hm
      have HM : Hid (isMagic s = false) := by rw [Hid, isMagic, if_pos h4]; exact hm'
      clear hm
      go_wp2
      go_ret
      exact ⟨by rw [HM.out]; rfl, rfl⟩
  · have h4' : ¬ (4 : Int) ≤ (s.size : Int) := by omega
    have HM : Hid (isMagic s = false) := by rw [Hid, isMagic, if_neg h4]
    go_wp2
    go_ret
    exact ⟨by rw [HM.out]; rfl, rfl⟩

/-- What is left behind Magic. -/
def cutT (s : ByteArray) : ByteArray := if isMagic s then s.extract 4 s.size else s
theorem magic_four {s : ByteArray} (h : isMagic s = true) : 4 ≤ s.size := by
  by_cases h4 : 4 ≤ s.size
  · exact h4
  · rw [isMagic, if_neg h4] at h; cases h

set_option maxHeartbeats 1000000 in
theorem cutLite_magic (s : ByteArray) (w : World) (hn : s.size ≤ maxLen) :
    Calls Tryz.prog 165 #[.string s, .string ⟨#[87, 66, 75, 49]⟩] w fun e w' => e = .returned (.tuple #[.string (cutT s), .bool (isMagic s)]) ∧ w = w' := by
  have HN := hide hn
  unfold maxLen at hn
  go_enter Tryz.func165, Tryz.ntmps165
  go_wp2_with fail
  refine (hasPrefix_magic s _ HN.out).mono ?_
  rintro e w1 ⟨rfl, rfl⟩
  cases hm : isMagic s with
  | true =>
    have h4 := magic_four hm
    have HM := hide hm
    have HC : Hid (cutT s = s.extract 4 s.size) := by rw [Hid, cutT, if_pos hm]
    clear hm
    go_wp2
    go_ret2
    exact ⟨by rw [HC.out, HM.out]; rfl, rfl⟩
  | false =>
    have HM := hide hm
    have HC : Hid (cutT s = s) := by rw [Hid, cutT, hm]; rfl
    clear hm
    go_wp2
    go_ret2
    exact ⟨by rw [HC.out, HM.out]; rfl, rfl⟩

set_option maxHeartbeats 1000000 in
theorem cut_magic (s : ByteArray) (w : World) (hn : s.size ≤ maxLen) :
    Calls Tryz.prog 150 #[.string s, .string ⟨#[87, 66, 75, 49]⟩] w fun e w' => e = .returned (.tuple #[.string (cutT s), .bool (isMagic s)]) ∧ w = w' := by
  have HN := hide hn
  go_enter Tryz.func150, Tryz.ntmps150
  go_wp2_with fail
  refine (cutLite_magic s _ HN.out).mono ?_
  rintro e w1 ⟨rfl, rfl⟩
  go_wp2
  go_ret2
  exact ⟨rfl, rfl⟩

set_option maxHeartbeats 1000000 in
theorem stampEscape_any (s : ByteArray) (w : World) (hn : s.size ≤ maxLen) :
    Calls Tryz.prog 113 #[.string s] w fun e w' => e = .returned (.tuple #[.string (escT s), .bool (isMagic s)]) ∧ w = w' := by
  have HN := hide hn
  unfold maxLen at hn
  go_enter Tryz.func113, Tryz.ntmps113
  go_wp2_with fail
  refine (cut_magic s _ HN.out).mono ?_
  rintro e w1 ⟨rfl, rfl⟩
  cases hm : isMagic s with
  | true =>
    have h4 := magic_four hm
    have HM := hide hm
    have HC : Hid (cutT s = s.extract 4 s.size) := by rw [Hid, cutT, if_pos hm]
    have HE : Hid (escT s = (⟨#[0, 0, 0, 0]⟩ : ByteArray) ++ s.extract 4 s.size) := by rw [Hid, escT, if_pos hm]
    have hz : (s.extract 4 s.size).size ≤ s.size := by rw [ByteArray.size_extract]; omega
    clear hm
    rw [HC.out]
    go_wp2
    go_ret2
    exact ⟨by rw [HE.out, HM.out]; rfl, rfl⟩
  | false =>
    have HM := hide hm
    have HE : Hid (escT s = s) := by rw [Hid, escT, hm]; rfl
    clear hm
    go_wp2
    go_ret2
    exact ⟨by rw [HE.out, HM.out]; rfl, rfl⟩


/-- What a descriptor says of copies, and what stands behind it. -/
def tagsOf (l : List (Int × ByteArray)) : List (Int × Bool) := l.map fun c => (c.1, isMagic c.2)
def textsOf (l : List (Int × ByteArray)) : List ByteArray := l.map fun c => escT c.2
theorem tagsOf_snoc {l : List (Int × ByteArray)} {k : Nat} {x : Int × ByteArray} (h : l[k]? = some x) : tagsOf (l.take (k + 1)) = tagsOf (l.take k) ++ [(x.1, isMagic x.2)] := by
  rw [List.take_add_one, h, tagsOf, tagsOf, List.map_append]; rfl
theorem textsOf_snoc {l : List (Int × ByteArray)} {k : Nat} {x : Int × ByteArray} (h : l[k]? = some x) : textsOf (l.take (k + 1)) = textsOf (l.take k) ++ [escT x.2] := by
  rw [List.take_add_one, h, textsOf, textsOf, List.map_append]; rfl

def cellsG : List (Int × Bool) → List Value
  | [] => []
  | x :: r => .int .i64 x.1 :: .bool x.2 :: cellsG r
theorem cellsG_length (l : List (Int × Bool)) : (cellsG l).length = l.length * 2 := by
  induction l with
  | nil => rfl
  | cons x r ih => simp [cellsG, ih]; omega
theorem cellsG_append (l r : List (Int × Bool)) : cellsG (l ++ r) = cellsG l ++ cellsG r := by
  induction l with
  | nil => rfl
  | cons x r ih => simp [cellsG, ih]
theorem cellsG_one (l : List (Int × Bool)) : ∀ u ∈ cellsG l, u.oneCell' = true := by
  induction l with
  | nil => intro u hu; simp [cellsG] at hu
  | cons x r ih =>
    intro u hu
    simp only [cellsG, List.mem_cons] at hu
    rcases hu with rfl | rfl | hu
    · rfl
    · rfl
    · exact ih u hu
theorem cellsG_at (l : List (Int × Bool)) (i : Nat) (h : i < l.length) : (cellsG l)[i * 2]? = some (.int .i64 (l.getD i (0, false)).1) ∧ (cellsG l)[i * 2 + 1]? = some (.bool (l.getD i (0, false)).2) := by
  induction l generalizing i with
  | nil => simp at h
  | cons x r ih =>
    cases i with
    | zero => exact ⟨rfl, rfl⟩
    | succ i =>
      have e1 : (i + 1) * 2 = i * 2 + 1 + 1 := by omega
      rw [cellsG, e1]
      simpa using ih i (by simpa using h)
theorem SegG.of_owns {w : World} {base n : Nat} {v : Value} {l : List (Int × Bool)} (h : w.ownsRow base 162 2 v n (cellsG l)) : ∃ a c, v = .slice a l.length c ∧ SegT w a l ∧ ∀ b off, a = some ⟨b, off, none⟩ → base ≤ b := by
  have hn : l.length = n := by have := h.1; rw [cellsG_length] at this; omega
  subst hn
  rcases h.2 with ⟨rfl, h0⟩ | ⟨g, cap, cur, rfl, hb, hg, rest⟩
  · exact ⟨none, 0, by rw [h0], .inl (List.eq_nil_of_length_eq_zero h0), fun _ _ h => by cases h⟩
  · refine ⟨_, cap, rfl, .inr ⟨g, 0, rfl, (Array.getElem?_eq_some_iff.1 hg).1, fun i hi => ?_⟩, fun _ _ h => by cases h; exact hb⟩
    have e := cellsG_at l i hi
    rw [Nat.zero_add, h.cellAt (i * 2) (by omega), h.cellAt (i * 2 + 1) (by omega)]
    exact e
theorem infoG : (Tryz.prog.info? 162).map (fun i => (i.zero, i.size, i.bytes)) = some (some (.agg #[.int .i64 0, .bool false]), 2, 16) := by kernel_rfl
def OwnG (w : World) (base : Nat) (v : Value) (l : List (Int × Bool)) : Prop := w.ownsRow base 162 2 v l.length (cellsG l)
theorem wpList_appG {w : World} {ops : Array Oper} {rest : List Oper} {o : Oper} {a : Act} {Q : Exit → Act → World → Prop} (hgd : o.guard = none) (s x : Operand)
    (ho : o.op = .call { callee := .builtin .append, args := #[s, x], argTypes := #[101, 101] })
    (base : Nat) (v : Value) (l : List (Int × Bool)) (hs : a.eval s = v) (hown : w.ownsRow base 162 2 v l.length (cellsG l)) (b : Nat) (y : Int × Bool) (hx : a.eval x = .slice (some ⟨b, 0, none⟩) 1 1)
    (h0 : w.cell? ⟨b, 0, none⟩ = some (.int .i64 y.1)) (h1 : w.cell? ⟨b, 1, none⟩ = some (.bool y.2)) (h63 : l.length ≤ 1000) (hbase : base ≤ w.heap.size)
    (h : ∀ v' w', OwnG w' base v' (l ++ [y]) → w.grownBy w' v.ownBlock → wpList Tryz.prog ops Q rest (a.put o.dst v') w') : wpList Tryz.prog ops Q (o :: rest) a w := by
  obtain ⟨i0, hi, hz0, hz1, hz2⟩ := info_parts infoG
  refine wpList_append_own w hgd s x 101 ho base 162 i0 (.agg #[.int .i64 0, .bool false]) 2 16 Tryz.underlying101 hi hz0 hz1 hz2 rfl (by decide) v l.length (cellsG l) hs hown ⟨b, 0, none⟩ 1 1 (cellsG [y]) hx rfl ?_ (cellsG_one _) (by unfold maxLen; omega) (by omega) hbase ?_
  · intro j u hj
    rw [Addr.add_lit, Nat.zero_add]
    match j, hj with
    | 0, hj => simp [cellsG] at hj; subst hj; exact h0
    | 1, hj => simp [cellsG] at hj; subst hj; exact h1
    | j + 2, hj => simp [cellsG] at hj
  · intro v' w' k1 k2 _
    refine h v' w' ?_ k2
    rw [OwnG, cellsG_append, List.length_append]
    exact k1

def cellsT1s (l : List ByteArray) : List Value := l.map Value.string
theorem cellsT1s_length (l : List ByteArray) : (cellsT1s l).length = l.length * 1 := by simp [cellsT1s]
theorem cellsT1s_one (l : List ByteArray) : ∀ u ∈ cellsT1s l, u.oneCell' = true := by
  intro u hu
  obtain ⟨s, _, rfl⟩ := List.mem_map.1 hu
  rfl
theorem infoTx : (Tryz.prog.info? 9).map (fun i => (i.zero, i.size, i.bytes)) = some (some (.string ⟨#[]⟩), 1, 16) := by kernel_rfl
def OwnT (w : World) (base : Nat) (v : Value) (l : List ByteArray) : Prop := w.ownsRow base 9 1 v l.length (cellsT1s l)
theorem SegX.of_owns {w : World} {base : Nat} {v : Value} {l : List ByteArray} (h : OwnT w base v l) : ∃ a c, v = .slice a l.length c ∧ SegS w a l ∧ ∀ b off, a = some ⟨b, off, none⟩ → base ≤ b := by
  rcases h.2 with ⟨rfl, h0⟩ | ⟨g, cap, cur, rfl, hb, hg, rest⟩
  · exact ⟨none, 0, by rw [h0], .inl (List.eq_nil_of_length_eq_zero h0), fun _ _ h => by cases h⟩
  · refine ⟨_, cap, rfl, .inr ⟨g, 0, rfl, (Array.getElem?_eq_some_iff.1 hg).1, fun i hi => ?_⟩, fun _ _ h => by cases h; exact hb⟩
    rw [Nat.zero_add, World.ownsRow.cellAt h i (by omega), cellsT1s, List.getElem?_map, getD_at l i ByteArray.empty hi]
    rfl
theorem wpList_appT {w : World} {ops : Array Oper} {rest : List Oper} {o : Oper} {a : Act} {Q : Exit → Act → World → Prop} (hgd : o.guard = none) (s x : Operand)
    (ho : o.op = .call { callee := .builtin .append, args := #[s, x], argTypes := #[55, 55] })
    (base : Nat) (v : Value) (l : List ByteArray) (hs : a.eval s = v) (hown : OwnT w base v l) (b : Nat) (y : ByteArray) (hx : a.eval x = .slice (some ⟨b, 0, none⟩) 1 1)
    (h0 : w.cell? ⟨b, 0, none⟩ = some (.string y)) (h63 : l.length ≤ 1000) (hbase : base ≤ w.heap.size)
    (h : ∀ v' w', OwnT w' base v' (l ++ [y]) → w.grownBy w' v.ownBlock → wpList Tryz.prog ops Q rest (a.put o.dst v') w') : wpList Tryz.prog ops Q (o :: rest) a w := by
  obtain ⟨i0, hi, hz0, hz1, hz2⟩ := info_parts infoTx
  refine wpList_append_own w hgd s x 55 ho base 9 i0 (.string ⟨#[]⟩) 1 16 Tryz.underlying55 hi hz0 hz1 hz2 rfl (by decide) v l.length (cellsT1s l) hs hown ⟨b, 0, none⟩ 1 1 (cellsT1s [y]) hx rfl ?_ (cellsT1s_one _) (by unfold maxLen; omega) (by omega) hbase ?_
  · intro j u hj
    rw [Addr.add_lit, Nat.zero_add]
    match j, hj with
    | 0, hj => simp [cellsT1s] at hj; subst hj; exact h0
    | j + 1, hj => simp [cellsT1s] at hj
  · intro v' w' k1 k2 _
    refine h v' w' ?_ k2
    rw [OwnT, List.length_append, cellsT1s, List.map_append]
    exact k1

/-- Rows of the call's own of two types lie in two blocks. -/
theorem rows_ne {w : World} {b1 b2 s1 s2 n1 n2 : Nat} {e1 e2 : TypeId} {v1 v2 : Value} {x1 x2 : List Value} (h1 : w.ownsRow b1 e1 s1 v1 n1 x1) (h2 : w.ownsRow b2 e2 s2 v2 n2 x2) (hne : e1 ≠ e2) : v1.ownBlock = none ∨ v1.ownBlock ≠ v2.ownBlock := by
  rcases h1.2 with ⟨rfl, _⟩ | ⟨g, cap, cur, rfl, _, hg, _⟩
  · exact .inl rfl
  · refine .inr fun e => ?_
    rcases h2.2 with ⟨rfl, _⟩ | ⟨g2, cap2, cur2, rfl, _, hg2, _⟩
    · simp [Value.ownBlock] at e
    · simp [Value.ownBlock] at e
      subst e
      rw [hg] at hg2
      simp only [Option.some.injEq, Obj.cells.injEq] at hg2
      exact hne hg2.2.1

set_option maxHeartbeats 2000000 in
set_option maxRecDepth 100000 in
theorem sealEscape_any (a : Option Addr) (c : Nat) (l : List (Int × ByteArray)) (w : World) (h : SegW w a l) (hn : l.length ≤ 500) (hb : ∀ x ∈ l, x.2.size ≤ maxLen) :
    Calls Tryz.prog 69 #[.slice a l.length c] w fun e w' => ∃ v1 v2, e = .returned (.tuple #[v1, v2]) ∧ OwnG w' w.heap.size v1 (tagsOf l) ∧ OwnT w' w.heap.size v2 (textsOf l) ∧ Below w.heap.size w w' := by
  have HS := hide h
  have HBD := hide hb
  clear h hb
  go_enter Tryz.func69, Tryz.ntmps69
  go_wp2
  go_loopw [2, 3, 10] (fun g s i wr => ∃ k : Nat, k ≤ l.length ∧ i = .int .i64 k ∧ Hid (OwnG wr w.heap.size g (tagsOf (l.take k))) ∧ Hid (OwnT wr w.heap.size s (textsOf (l.take k))) ∧ Hid (Below w.heap.size w wr)) (fun _ _ i _ => l.length - (intOf i).toNat)
  case atStart => exact ⟨0, Nat.zero_le _, rfl, World.ownsRow_nil _ _ _ _, World.ownsRow_nil _ _ _ _, Below.refl _ _⟩
  case round =>
    obtain ⟨k, hk, rfl, hg, ht, hbr⟩ := hrel
    by_cases hlt : k < l.length
    · obtain ⟨b2, off, rfl, hb, hc⟩ := HS.out.resolve_left (by intro e; rw [e] at hlt; simp at hlt)
      obtain ⟨x, hx⟩ : ∃ x, x = l.getD k (0, ByteArray.empty) := ⟨_, rfl⟩
      obtain ⟨hc1, hc2⟩ := hc k hlt
      rw [← hx] at hc1 hc2
      have HX : l[k]? = some x := by rw [hx]; exact getD_at _ _ _ hlt
      have hsz := HBD.out x (List.mem_of_getElem? HX)
      have g1 := cellKeep hbr.out hb hc1
      have g2 := cellKeep hbr.out hb hc2
      have HT1 := hide (tagsOf_snoc HX)
      have HT2 := hide (textsOf_snoc HX)
      have hq1 : (tagsOf (l.take k)).length ≤ 500 := by rw [tagsOf, List.length_map, List.length_take]; omega
      have hq2 : (textsOf (l.take k)).length ≤ 500 := by rw [textsOf, List.length_map, List.length_take]; omega
      have hlt' : (k : Int) < (l.length : Int) := by omega
      clear hx hc hc1 hc2 HX
      obtain ⟨n, s⟩ := x
      generalize tagsOf (l.take k) = q1 at *
      generalize textsOf (l.take k) = q2 at *
      have HA := hide (bthen hbr.out (below1 wr (.cells #[.int .i64 n, .string s] 78)))
      go_wp2_with fail
      refine (stampEscape_any s _ hsz).mono ?_
      rintro e w3 ⟨rfl, rfl⟩
      generalize escT s = es at *
      generalize isMagic s = im at *
      go_wp2_with (at_builtin; refine wpList_appG rfl _ _ rfl w.heap.size _ q1 rfl (owns_keep (owns_keep hg.out (below1 _ _)) (below1 _ _)) (wr.heap.size + 1) (n, im) rfl (by simp [go_sem]) (by simp [go_sem]) (by omega) (Nat.le_trans hbr.out.size (by simp; omega)) ?_)
      intro v1 w4 hown1 hg1
      have hB4 : Below w.heap.size w w4 := (HA.out.alloc HA.out.size _).grown hg1 (Nat.le_trans hbr.out.size (by simp; omega)) (fun j hj => (World.ownsRow.lt hg.out j hj).1)
      have HT4 := hide (World.ownsRow.kept (owns_keep (owns_keep ht.out (below1 _ _)) (below1 _ _)) hg1 (rows_ne ht.out hg.out (by decide)))
      have HG4 := hide hown1
      have HB4 := hide hB4
      clear hown1 hg1 hB4 hg ht hbr HA g1 g2
      go_wp2_with (at_builtin; refine wpList_appT rfl _ _ rfl w.heap.size _ q2 rfl (owns_keep HT4.out (below1 _ _)) w4.heap.size es rfl (by simp [go_sem]) (by omega) (Nat.le_trans HB4.out.size (by simp)) ?_)
      intro v2 w5 hown2 hg2
      have hB5 : Below w.heap.size w w5 := (HB4.out.alloc HB4.out.size _).grown hg2 (Nat.le_trans HB4.out.size (by simp)) (fun j hj => (World.ownsRow.lt HT4.out j hj).1)
      have HG5 := hide (World.ownsRow.kept (owns_keep HG4.out (below1 _ _)) hg2 (rows_ne HG4.out HT4.out (by decide)))
      clear hg2
      go_wp2
      go_roundw
      case rel => exact ⟨k + 1, by omega, by go_num, by rw [HT1.out]; exact HG5.out, by rw [HT2.out]; exact hown2, hB5⟩
      case measure => simp [intOf]; omega
    · have e : k = l.length := by omega
      subst e
      rw [List.take_length] at hg ht
      go_wp2
      go_ret2
      exact ⟨_, _, rfl, hg.out, ht.out, hbr.out⟩


set_option maxHeartbeats 400000 in
theorem write_any (p : Int) (s : ByteArray) (w : World) :
    Calls Tryz.prog 64 #[.int .i64 p, .string s] w fun e w' => e = .returned (.agg #[.int .i64 1, .int .i64 p, .string s]) ∧ Below w.heap.size w w' := by
  go_enter Tryz.func64, Tryz.ntmps64
  go_wp2
  exact bodyPost_ret (v := .agg #[.int .i64 1, .int .i64 p, .string s]) (by simp [results, Tryz.results64, go_sem]) rfl ⟨rfl, below1 _ _⟩
set_option maxHeartbeats 400000 in
theorem flush1_any (w : World) :
    Calls Tryz.prog 62 #[] w fun e w' => e = .returned (.agg #[.int .i64 2, .int .i64 0, .string ⟨#[]⟩]) ∧ Below w.heap.size w w' := by
  go_enter Tryz.func62, Tryz.ntmps62
  go_wp2
  exact bodyPost_ret (v := .agg #[.int .i64 2, .int .i64 0, .string ⟨#[]⟩]) (by simp [results, Tryz.results62, go_sem]) rfl ⟨rfl, below1 _ _⟩

/-- The steps by which copies go home. -/
def homeM (l : List (Int × ByteArray)) : List St := l.map fun c => writeS (25 + c.1) c.2
def homeS (l : List (Int × ByteArray)) : List St := homeM l ++ (if l.length = 0 then [] else [flushS])
theorem homeM_length (l : List (Int × ByteArray)) : (homeM l).length = l.length := by simp [homeM]
theorem homeM_snoc {l : List (Int × ByteArray)} {k : Nat} {x : Int × ByteArray} (h : l[k]? = some x) : homeM (l.take (k + 1)) = homeM (l.take k) ++ [writeS (25 + x.1) x.2] := by
  rw [List.take_add_one, h, homeM, homeM, List.map_append]; rfl

set_option maxHeartbeats 2000000 in
set_option maxRecDepth 100000 in
theorem home_any (a : Option Addr) (c : Nat) (l : List (Int × ByteArray)) (w : World) (h : SegW w a l) (hn : l.length * 24 ≤ 140737488355328) (hb : ∀ x ∈ l, 0 ≤ x.1 ∧ x.1 ≤ 11) :
    Calls Tryz.prog 60 #[.slice a l.length c] w fun e w' => ∃ v', e = .returned v' ∧ w'.ownsRow w.heap.size 97 3 v' (homeS l).length (cellsSt (homeS l)) ∧ Below w.heap.size w w' := by
  have HS := hide h
  have HBD := hide hb
  clear h hb
  go_enter Tryz.func60, Tryz.ntmps60
  go_wp2
  go_loopw [3, 8] (fun s i wr => ∃ k : Nat, k ≤ l.length ∧ i = .int .i64 k ∧ Hid (wr.ownsRow w.heap.size 97 3 s (homeM (l.take k)).length (cellsSt (homeM (l.take k)))) ∧ Hid (Below w.heap.size w wr)) (fun _ i _ => l.length - (intOf i).toNat)
  case atStart => exact ⟨0, Nat.zero_le _, rfl, World.ownsRow_nil _ _ _ _, Below.refl _ _⟩
  case round =>
    obtain ⟨k, hk, rfl, hown, hbr⟩ := hrel
    by_cases hlt : k < l.length
    · obtain ⟨b2, off, rfl, hb, hc⟩ := HS.out.resolve_left (by intro e; rw [e] at hlt; simp at hlt)
      obtain ⟨x, hx⟩ : ∃ x, x = l.getD k (0, ByteArray.empty) := ⟨_, rfl⟩
      obtain ⟨hc1, hc2⟩ := hc k hlt
      rw [← hx] at hc1 hc2
      have HX : l[k]? = some x := by rw [hx]; exact getD_at _ _ _ hlt
      have hbd := HBD.out x (List.mem_of_getElem? HX)
      have g1 := cellKeep hbr.out hb hc1
      have g2 := cellKeep hbr.out hb hc2
      have HT := hide (homeM_snoc HX)
      have hq : (homeM (l.take k)).length ≤ k := by rw [homeM_length, List.length_take]; omega
      have hlt' : (k : Int) < (l.length : Int) := by omega
      clear hx hc hc1 hc2 HX
      obtain ⟨n, s⟩ := x
      obtain ⟨hb0, hb1⟩ : 0 ≤ n ∧ n ≤ 11 := hbd
      generalize homeM (l.take k) = q at *
      go_wp2_with fail
      refine (write_any (25 + n) s _).mono ?_
      rintro e w3 ⟨rfl, hb3⟩
      have HB3 := hide (bthen (bthen hbr.out (below1 _ _)) hb3)
      have HO3 := hide (owns_keep (owns_keep hown.out (below1 _ _)) hb3)
      clear hb3 hown hbr g1 g2
      go_wp2_with (at_builtin; refine wpList_appSt rfl _ _ rfl w.heap.size _ q rfl (owns_keep HO3.out (below1 _ _)) w3.heap.size (writeS (25 + n) s) rfl (by simp [go_sem, writeS]) (by simp [go_sem, writeS]) (by simp [go_sem, writeS]) (by omega) (Nat.le_trans HB3.out.size (by simp)) ?_)
      intro v' w' hown' hg'
      have hB' : Below w.heap.size w w' := (HB3.out.alloc HB3.out.size _).grown hg' (Nat.le_trans HB3.out.size (by simp)) (fun j hj => (HO3.out.lt j hj).1)
      go_wp2
      go_roundw
      case rel => exact ⟨k + 1, by omega, by go_num, by rw [HT.out]; exact hown', hB'⟩
      case measure => simp [intOf]; omega
    · have e : k = l.length := by omega
      subst e
      rw [List.take_length] at hown
      by_cases h0 : l.length = 0
      · have HE : Hid (homeS l = homeM l) := by rw [Hid, homeS, if_pos h0, List.append_nil]
        have h0' : ¬ ((0 : Int) < (l.length : Int)) := by omega
        go_wp2
        go_ret
        exact ⟨_, rfl, by rw [HE.out]; exact hown.out, hbr.out⟩
      · have HE : Hid (homeS l = homeM l ++ [flushS]) := by rw [Hid, homeS, if_neg h0]
        have h0' : (0 : Int) < (l.length : Int) := by omega
        have hq : (homeM l).length ≤ l.length := by rw [homeM_length]; omega
        generalize homeM l = q at *
        go_wp2_with fail
        refine (flush1_any _).mono ?_
        rintro e w3 ⟨rfl, hb3⟩
        have HB3 := hide (bthen hbr.out hb3)
        have HO3 := hide (owns_keep hown.out hb3)
        clear hb3 hown hbr
        go_wp2_with (at_builtin; refine wpList_appSt rfl _ _ rfl w.heap.size _ q rfl (owns_keep HO3.out (below1 _ _)) w3.heap.size flushS rfl (by simp [go_sem, flushS]) (by simp [go_sem, flushS]) (by simp [go_sem, flushS]) (by omega) (Nat.le_trans HB3.out.size (by simp)) ?_)
        intro v' w' hown' hg'
        have hB' : Below w.heap.size w w' := (HB3.out.alloc HB3.out.size _).grown hg' (Nat.le_trans HB3.out.size (by simp)) (fun j hj => (HO3.out.lt j hj).1)
        go_wp2
        go_ret
        exact ⟨_, rfl, by rw [HE.out]; exact hown', hB'⟩


set_option maxHeartbeats 1000000 in
theorem escape_any (s : ByteArray) (w : World) (hn : s.size ≤ maxLen) :
    Calls Tryz.prog 114 #[.string s] w fun e w' => e = .returned (.tuple #[.string (escT s), .bool (isMagic s)]) ∧ w = w' := by
  unfold maxLen at hn
  go_enter Tryz.func114, Tryz.ntmps114
  by_cases h4 : 4 ≤ s.size
  · by_cases hm : ((s.extract 0 4).toList == [87, 66, 75, 49]) = true
    · have HM : Hid (isMagic s = true) := by rw [Hid, isMagic, if_pos h4]; exact hm
      go_wp2
      go_ret2
      exact ⟨by rw [escT, HM.out]; rfl, rfl⟩
    · have hm' : ((s.extract 0 4).toList == [87, 66, 75, 49]) = false := by simpa using hm
      have HM : Hid (isMagic s = false) := by rw [Hid, isMagic, if_pos h4]; exact hm'
      clear hm
      go_wp2
      go_ret2
      exact ⟨by rw [escT, HM.out]; rfl, rfl⟩
  · have HM : Hid (isMagic s = false) := by rw [Hid, isMagic, if_neg h4]
    go_wp2
    go_ret2
    exact ⟨by rw [escT, HM.out]; rfl, rfl⟩

end Go.Proofs.YtjnpndfpajjihabGreat
