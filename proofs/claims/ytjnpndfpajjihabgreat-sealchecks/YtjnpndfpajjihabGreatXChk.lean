/-
  The walks of package seal's isNoCopy and Check.
  The walks of the document's own among.
  The walks of the document's own TextOf.
  The walks of slices.Grow onto nil and of slices.Concat, at []api.Copy.
  The walks of slices.Grow onto nil and of slices.Concat, at []api.Copy.
  The walks of the document's own isBlock, rest and with.
  The walk of the document's own CheckSteps.
-/
import Derived.Test.YtjnpndfpajjihabGreatESmall
import Derived.Test.YtjnpndfpajjihabGreatSEncode
import Derived.Test.YtjnpndfpajjihabGreatTFind0
import Derived.Test.YtjnpndfpajjihabGreatWithin
import Derived.Test.YtjnpndfpajjihabGreatTDefs
import Derived.Test.YtjnpndfpajjihabGreatTRows
import Derived.Lib.AppendZerosOnto
import Derived.Test.YtjnpndfpajjihabGreatTPure
import Derived.Test.YtjnpndfpajjihabGreatMEncGood
namespace Go.Proofs.YtjnpndfpajjihabGreat
open Go.RowKit

/-- Is it no copy? A super block; what Check answers. -/
def noCopyB (x : Int × ByteArray) : Bool := !(withinB x.1 0 11 && decide (x.2.size = 32))
def superMk (p seq : Int) : Mk := ⟨1, seq, p, [], []⟩
def checkE (l : List (Int × ByteArray)) (p seq : Int) : Int := if goodM (superMk p seq) ≠ 0 then goodM (superMk p seq) else if l.any noCopyB = true then 1 else 0
def checkS (l : List (Int × ByteArray)) (p seq : Int) : List St := if checkE l p seq = 0 then homeS l ++ [writeS 0 (encT (superMk p seq)), flushS] else []

set_option maxHeartbeats 1000000 in
theorem isNoCopy_any (n : Int) (s : ByteArray) (w : World) :
    Calls Tryz.prog 75 #[.agg #[.int .i64 n, .string s]] w fun e w' => e = .returned (.bool (noCopyB (n, s))) ∧ Below w.heap.size w w' := by
  have e0 : noCopyB (n, s) = (decide (n < 0) || decide (12 ≤ n) || ((s.size : Int) != 32)) := by
    unfold noCopyB withinB
    by_cases h0 : n < 0
    · have : ¬ 0 ≤ n := by omega
      simp [h0, this]
    · by_cases h1 : 12 ≤ n
      · have h2 : ¬ n ≤ 11 := by omega
        simp [h1, h2]
      · have h2 : n ≤ 11 := by omega
        have h3 : 0 ≤ n := by omega
        have h4 : ¬ 12 ≤ n := h1
        by_cases h5 : s.size = 32
        · simp [h0, h2, h3, h4, h5]
        · have h6 : ((s.size : Int) != 32) = true := by rw [bne_iff_ne]; omega
          simp [h0, h2, h3, h4, h5, h6]
  have E0 := hide e0
  clear e0
  go_enter Tryz.func75, Tryz.ntmps75
  by_cases h0 : n < 0
  · go_wp2
    go_ret
    exact ⟨by rw [E0.out]; simp [h0], below1 _ _⟩
  · by_cases h1 : 12 ≤ n
    · go_wp2
      go_ret
      exact ⟨by rw [E0.out]; simp [h1], below1 _ _⟩
    · go_wp2
      go_ret
      exact ⟨by rw [E0.out, show decide (n < 0) = false from decide_eq_false (by omega), show decide (12 ≤ n) = false from decide_eq_false (by omega)]; rfl, below1 _ _⟩

theorem news6 {w : World} {b : Nat} {x y : St} (h0 : w.cell? ⟨b, 0, none⟩ = some (.int .i64 x.1)) (h1 : w.cell? ⟨b, 1, none⟩ = some (.int .i64 x.2.1)) (h2 : w.cell? ⟨b, 2, none⟩ = some (.string x.2.2)) (h3 : w.cell? ⟨b, 3, none⟩ = some (.int .i64 y.1)) (h4 : w.cell? ⟨b, 4, none⟩ = some (.int .i64 y.2.1)) (h5 : w.cell? ⟨b, 5, none⟩ = some (.string y.2.2)) :
    ∀ j u, (cellsSt [x, y])[j]? = some u → w.cell? (Addr.add ⟨b, 0, none⟩ j) = some u := by
  intro j u hj
  rw [Addr.add_lit, Nat.zero_add]
  match j, hj with
  | 0, hj => simp [cellsSt] at hj; subst hj; exact h0
  | 1, hj => simp [cellsSt] at hj; subst hj; exact h1
  | 2, hj => simp [cellsSt] at hj; subst hj; exact h2
  | 3, hj => simp [cellsSt] at hj; subst hj; exact h3
  | 4, hj => simp [cellsSt] at hj; subst hj; exact h4
  | 5, hj => simp [cellsSt] at hj; subst hj; exact h5
  | j + 6, hj => simp [cellsSt] at hj
/-- append of two steps onto a row of the call's own. -/
theorem wpList_appSt2 {w : World} {ops : Array Oper} {rest : List Oper} {o : Oper} {a : Act} {Q : Exit → Act → World → Prop} (hgd : o.guard = none) (s x : Operand)
    (ho : o.op = .call { callee := .builtin .append, args := #[s, x], argTypes := #[42, 42] })
    (base : Nat) (v : Value) (l : List St) (hs : a.eval s = v) (hown : w.ownsRow base 97 3 v l.length (cellsSt l)) (b : Nat) (y z : St) (hx : a.eval x = .slice (some ⟨b, 0, none⟩) 2 2)
    (hnews : ∀ j u, (cellsSt [y, z])[j]? = some u → w.cell? (Addr.add ⟨b, 0, none⟩ j) = some u) (h63 : l.length * 24 ≤ 140737488380000) (hbase : base ≤ w.heap.size)
    (h : ∀ v' w', OwnSt w' base v' (l ++ [y, z]) → w.grownBy w' v.ownBlock → wpList Tryz.prog ops Q rest (a.put o.dst v') w') : wpList Tryz.prog ops Q (o :: rest) a w := by
  obtain ⟨i0, hi, hz0, hz1, hz2⟩ := info_parts infoSt
  refine wpList_append_own_wide w hgd s x 42 ho base 97 i0 (.agg #[.int .i64 0, .int .i64 0, .string ⟨#[]⟩]) 3 32 Tryz.underlying42 hi hz0 hz1 hz2 rfl (by decide) v l.length (cellsSt l) hs hown ⟨b, 0, none⟩ 2 2 (cellsSt [y, z]) hx rfl hnews (cellsSt_one _) (by unfold maxLen; omega) (by omega) hbase ?_
  intro v' w' k1 k2 _
  refine h v' w' ?_ k2
  rw [OwnSt, cellsSt_append, List.length_append]
  exact k1
theorem homeS_le (l : List (Int × ByteArray)) : (homeS l).length ≤ l.length + 1 := by
  rw [homeS, List.length_append, homeM_length]; split <;> simp

set_option maxHeartbeats 4000000 in
set_option maxRecDepth 100000 in
theorem check_from (a : Option Addr) (c : Nat) (l : List (Int × ByteArray)) (p seq : Int) (w : World) (h : SegW w a l) (hn : l.length * 24 ≤ 140737488355328) :
    Calls Tryz.prog 20 #[.slice a l.length c, .int .i64 p, .int .i64 seq] w fun e w' => ∃ a2 c2, e = .returned (.tuple #[.slice a2 (checkS l p seq).length c2, .int .i64 (checkE l p seq)]) ∧ (checkS l p seq).length ≤ c2 ∧ SegSt w' a2 (checkS l p seq) ∧ Below w.heap.size w w' ∧ ∀ b off, a2 = some ⟨b, off, none⟩ → w.heap.size ≤ b := by
  have HS := hide h
  clear h
  obtain ⟨m, hm⟩ : ∃ m, m = superMk p seq := ⟨_, rfl⟩
  have HM := hide hm
  have hI : ∀ W, IsMk W (.agg #[.int .i64 1, .int .i64 seq, .int .i64 p, .slice none 0 0, .slice none 0 0]) m := by
    intro W; rw [hm]; exact ⟨none, 0, none, 0, rfl, .inl rfl, .inl rfl, Nat.zero_le _, Nat.zero_le _⟩
  have HI := hide hI
  clear hm hI
  go_enter Tryz.func20, Tryz.ntmps20
  go_wp2_with fail
  refine (stampEncode_any _ m _ (HI.out _)).mono ?_
  rintro e w1 ⟨rfl, hb1⟩
  by_cases hg : goodM m = 0
  · rw [hg]
    have hnl : l.length ≤ maxLen := by unfold maxLen; omega
    obtain ⟨s, hs⟩ : ∃ s, s = encT m := ⟨_, rfl⟩
    rw [← hs]
    have HSE := hide hs
    clear hs
    have HB1 := hide hb1
    clear hb1
    go_wp2_with fail
    refine (containsC_any noCopyB 75 #[] (Go.Proofs.enters_of Tryz.func75 (by kernel_rfl) rfl) a c l _ (HS.out.below HB1.out) hnl (fun x W hb => (isNoCopy_any x.1 x.2 W).mono fun _ _ ⟨h1, h2⟩ => ⟨h1, hb.trans (h2.mono hb.size)⟩)).mono ?_
    rintro e w2 ⟨rfl, hb2⟩
    have HB2 := hide (bthen HB1.out hb2)
    clear hb2 HB1
    cases hc : l.any noCopyB with
    | true =>
      have HE : Hid (checkE l p seq = 1) := by rw [Hid, checkE, ← HM.out, if_neg (by simp [hg]), if_pos hc]
      have HT : Hid (checkS l p seq = []) := by rw [Hid, checkS, HE.out]; rfl
      go_wp2
      exact bodyPost_ret (v := .tuple #[.slice none 0 0, .int .i64 1]) (by simp [results, Tryz.results20, go_sem]) rfl ⟨none, 0, by rw [HE.out, HT.out]; rfl, by rw [HT.out]; exact Nat.le_refl _, by rw [HT.out]; exact .inl rfl, HB2.out, fun _ _ e => by cases e⟩
    | false =>
      have HE : Hid (checkE l p seq = 0) := by rw [Hid, checkE, ← HM.out, if_neg (by simp [hg]), if_neg (by simp [hc])]
      have HT : Hid (checkS l p seq = homeS l ++ [writeS 0 s, flushS]) := by rw [Hid, checkS, if_pos HE.out, ← HM.out, ← HSE.out]
      have HBD : Hid (∀ x ∈ l, 0 ≤ x.1 ∧ x.1 ≤ 11) := by
        intro x hx
        have := List.any_eq_false.1 hc x hx
        simp [noCopyB, withinB] at this
        exact this.1
      have hq := homeS_le l
      clear HSE hc HM HI hg
      go_wp2_with fail
      refine (home_any a c l _ (HS.out.below HB2.out) hn HBD.out).mono ?_
      rintro e w3 ⟨v3, rfl, hO3, hb3⟩
      have HO3 := hide (owns_base hO3 HB2.out.size)
      have HB3 := hide (bthen HB2.out hb3)
      clear hO3 hb3 HB2
      generalize homeS l = L at *
      go_wp2_with fail
      refine (write_any 0 s _).mono ?_
      rintro e w4 ⟨rfl, hb4⟩
      have HO4 := hide (owns_keep HO3.out hb4)
      have HB4 := hide (bthen HB3.out hb4)
      clear hb4 HO3 HB3
      go_wp2_with fail
      refine (flush1_any _).mono ?_
      rintro e w5 ⟨rfl, hb5⟩
      have HO5 := hide (owns_keep HO4.out hb5)
      have HB5 := hide (bthen HB4.out hb5)
      clear hb5 HO4 HB4
      go_wp2_with (at_builtin; refine wpList_appSt2 rfl _ _ rfl w.heap.size _ L rfl (owns_keep HO5.out (below1 _ _)) w5.heap.size (writeS 0 s) flushS rfl (news6 (by simp [go_sem, writeS]) (by simp [go_sem, writeS]) (by simp [go_sem, writeS]) (by simp [go_sem, flushS]) (by simp [go_sem, flushS]) (by simp [go_sem, flushS])) (by omega) (Nat.le_trans HB5.out.size (by simp)) ?_)
      intro v' w' hown' hg'
      have HB' : Hid (Below w.heap.size w w') := (HB5.out.alloc HB5.out.size _).grown hg' (Nat.le_trans HB5.out.size (by simp)) (fun j hj => (HO5.out.lt j hj).1)
      obtain ⟨a2, c2, hv, hS2, hF2⟩ := SegSt.of_owns hown'
      have HF2 := hide hF2
      have HCAP := hide (own_cap hown' hv)
      have HS2 := hide hS2
      subst hv
      clear hown' hg' hS2 hF2 HO5 HB5
      go_wp2
      exact bodyPost_ret (v := .tuple #[.slice a2 (L ++ [writeS 0 s, flushS]).length c2, .int .i64 0]) (by simp [results, Tryz.results20, go_sem]) rfl ⟨a2, c2, by rw [HE.out, HT.out], by rw [HT.out]; exact HCAP.out, by rw [HT.out]; exact HS2.out, HB'.out, HF2.out⟩
  · have HE : Hid (checkE l p seq = goodM m) := by rw [Hid, checkE, ← HM.out, if_pos (by simpa using hg)]
    have HT : Hid (checkS l p seq = []) := by rw [Hid, checkS, HE.out, if_neg hg]
    have hg' : (goodM m != 0) = true := by simpa using hg
    have HB1 := hide hb1
    clear hb1
    generalize goodM m = G at *
    go_wp2
    exact bodyPost_ret (v := .tuple #[.slice none 0 0, .int .i64 G]) (by simp [results, Tryz.results20, go_sem]) rfl ⟨none, 0, by rw [HE.out, HT.out]; rfl, by rw [HT.out]; exact Nat.le_refl _, by rw [HT.out]; exact .inl rfl, HB1.out, fun _ _ e => by cases e⟩
theorem check_cap (a : Option Addr) (c : Nat) (l : List (Int × ByteArray)) (p seq : Int) (w : World) (h : SegW w a l) (hn : l.length * 24 ≤ 140737488355328) :
    Calls Tryz.prog 20 #[.slice a l.length c, .int .i64 p, .int .i64 seq] w fun e w' => ∃ a2 c2, e = .returned (.tuple #[.slice a2 (checkS l p seq).length c2, .int .i64 (checkE l p seq)]) ∧ (checkS l p seq).length ≤ c2 ∧ SegSt w' a2 (checkS l p seq) ∧ Below w.heap.size w w' :=
  (check_from a c l p seq w h hn).mono fun _ _ ⟨a2, c2, h1, h2, h3, h4, _⟩ => ⟨a2, c2, h1, h2, h3, h4⟩
theorem check_any (a : Option Addr) (c : Nat) (l : List (Int × ByteArray)) (p seq : Int) (w : World) (h : SegW w a l) (hn : l.length * 24 ≤ 140737488355328) :
    Calls Tryz.prog 20 #[.slice a l.length c, .int .i64 p, .int .i64 seq] w fun e w' => ∃ a2 c2, e = .returned (.tuple #[.slice a2 (checkS l p seq).length c2, .int .i64 (checkE l p seq)]) ∧ SegSt w' a2 (checkS l p seq) ∧ Below w.heap.size w w' :=
  (check_cap a c l p seq w h hn).mono fun _ _ ⟨a2, c2, h1, _, h3, h4⟩ => ⟨a2, c2, h1, h3, h4⟩


set_option maxHeartbeats 1000000 in
theorem among_any (a : Option Addr) (c : Nat) (l : List Int) (b : Int) (w : World) (h : SegI w a l) (hn : l.length ≤ maxLen) :
    Calls Tryz.prog 47 #[.slice a l.length c, .int .i64 b] w fun e w' => e = .returned (.bool (amongB l b)) ∧ w = w' := by
  unfold maxLen at hn
  have HS := hide h
  clear h
  go_enter Tryz.func47, Tryz.ntmps47
  go_wp2
  go_loop [9] (fun i => ∃ k : Nat, k ≤ l.length ∧ i = .int .i64 k ∧ Hid ((l.take k).any (· == b) = false)) (fun i => l.length - (intOf i).toNat)
  case atStart => exact ⟨0, Nat.zero_le _, rfl, by simp [Hid]⟩
  case round =>
    obtain ⟨k, hk, rfl, hr⟩ := hrel
    by_cases hlt : k < l.length
    · obtain ⟨b2, off, rfl, hb, hc⟩ := HS.out.resolve_left (by intro e; rw [e] at hlt; simp at hlt)
      obtain ⟨x, hx⟩ : ∃ x, x = l.getD k 0 := ⟨_, rfl⟩
      have hck := hc k hlt
      rw [← hx] at hck
      have HX : Hid (l[k]? = some x) := by rw [hx]; exact getD_at _ _ _ hlt
      clear hx hc
      have hlt' : (k : Int) < (l.length : Int) := by omega
      by_cases he : x = b
      · have HA : Hid (amongB l b = true) := any_hit HX.out (by simpa using he)
        subst he
        go_wp2
        go_ret
        exact ⟨by rw [HA.out]; rfl, rfl⟩
      · have HR := hide (any_miss HX.out (show (x == b) = false by simpa using he) hr.out)
        have he' : (x == b) = false := by simpa using he
        clear hr
        go_wp2
        go_round
        case rel => exact ⟨k + 1, by omega, by go_num, HR⟩
        case measure => simp [intOf]; omega
    · have HA : Hid (amongB l b = false) := by have := hr.out; rw [List.take_of_length_le (by omega)] at this; exact this
      clear hr
      go_wp2
      go_ret
      exact ⟨by rw [HA.out]; rfl, rfl⟩


set_option maxHeartbeats 1000000 in
theorem textOf_any (a : Option Addr) (c : Nat) (l : List (Int × ByteArray)) (b : Int) (w : World) (h : SegW w a l) (hn : l.length ≤ maxLen) :
    Calls Tryz.prog 14 #[.slice a l.length c, .int .i64 b] w fun e w' => e = .returned (.tuple #[.string ((textIn b l).getD ⟨#[]⟩), .bool (textIn b l).isSome]) ∧ Below w.heap.size w w' := by
  unfold maxLen at hn
  have HS := hide h
  clear h
  go_enter Tryz.func14, Tryz.ntmps14
  go_wp2
  go_loopw [10] (fun i wr => ∃ k : Nat, k ≤ l.length ∧ i = .int .i64 k ∧ Hid (textIn b (l.take k) = none) ∧ Below w.heap.size w wr) (fun i _ => l.length - (intOf i).toNat)
  case atStart => exact ⟨0, Nat.zero_le _, rfl, rfl, Below.refl _ _⟩
  case round =>
    obtain ⟨k, hk, rfl, hr, hbr⟩ := hrel
    by_cases hlt : k < l.length
    · obtain ⟨b2, off, rfl, hb, hc⟩ := HS.out.resolve_left (by intro e; rw [e] at hlt; simp at hlt)
      obtain ⟨x, hx⟩ : ∃ x, x = l.getD k (0, ByteArray.empty) := ⟨_, rfl⟩
      obtain ⟨hc1, hc2⟩ := hc k hlt
      rw [← hx] at hc1 hc2
      have HX : Hid (l[k]? = some x) := by rw [hx]; exact getD_at _ _ _ hlt
      have g1 := cellKeep hbr hb hc1
      have g2 := cellKeep hbr hb hc2
      clear hx hc hc1 hc2
      obtain ⟨n, t⟩ := x
      have hlt' : (k : Int) < (l.length : Int) := by omega
      have hb4 := hbr.alloc hbr.size (Obj.cells #[.int .i64 n, .string t] 78)
      by_cases he : n = b
      · have HA : Hid (textIn b l = some t) := text_hit HX.out he hr.out
        subst he
        go_wp2
        go_ret2
        exact ⟨by rw [HA.out]; rfl, hb4⟩
      · have HR := hide (text_miss HX.out he hr.out)
        have he' : (n == b) = false := by simpa using he
        clear hr
        go_wp2
        go_roundw
        case rel => exact ⟨k + 1, by omega, by go_num, HR, hb4⟩
        case measure => simp [intOf]; omega
    · have HA : Hid (textIn b l = none) := by have := hr.out; rw [List.take_of_length_le (by omega)] at this; exact this
      clear hr
      go_wp2
      go_ret2
      exact ⟨by rw [HA.out]; rfl, hbr⟩


/-- append of nothing onto a row of the call's own. -/
theorem run_append_nilC (w : World) (base : Nat) (ty : TypeId) (v : Value) (n c : Nat) (xs : List Value) (h : w.ownsRow base 78 2 v n xs) :
    (Builtin.append_ #[22, 22] ty #[v, .slice none 0 c]).run Tryz.prog w = .ok v w := by
  obtain ⟨i0, hi, hz0, hz1, hz2⟩ := info_parts infoC
  rcases h.2 with ⟨rfl, rfl⟩ | ⟨g, cap, cur, rfl, hb, hg, hnc, hcm, hrest⟩
  · exact run_append_none w _ _ _ i0 c Tryz.underlying22 hi
  · simp [Builtin.append_, run_underlying Tryz.underlying22, sizeOf, typeInfo, hi, Builtin.lenOf, Builtin.firstCells, hnc, storeCells]

/-- append of a row onto one of the call's own, as a step of a walk. -/
theorem wpList_appC (w W : World) (base : Nat) {ops : Array Oper} {rest : List Oper} {o : Oper} {a : Act} {Q : Exit → Act → World → Prop} (hgd : o.guard = none) (s x : Operand)
    (ho : o.op = .call { callee := .builtin .append, args := #[s, x], argTypes := #[22, 22] })
    (v : Value) (n : Nat) (xs : List Value) (hs : a.eval s = v) (hown : w.ownsRow base 78 2 v n xs) (ao : Option Addr) (c : Nat) (l : List (Int × ByteArray)) (hx : a.eval x = .slice ao l.length c) (hS : SegW w ao l)
    (hn : n + l.length ≤ 1000) (hbase : base ≤ w.heap.size) (hB : Below base W w)
    (h : ∀ v' w', Hid (w'.ownsRow base 78 2 v' (n + l.length) (xs ++ cellsC l)) → Hid (Below base W w') → wpList Tryz.prog ops Q rest (a.put o.dst v') w') : wpList Tryz.prog ops Q (o :: rest) a w := by
  obtain ⟨i0, hi, hz0, hz1, hz2⟩ := info_parts infoC
  cases ao with
  | none =>
    have h0 : l = [] := by rcases hS with h | ⟨b, off, he, _⟩; exact h; cases he
    subst h0
    refine Lib.wpList_append_run w hgd s x _ _ ho _ _ hs hx v w (run_append_nilC w base o.type v n c xs hown) (h v w ?_ hB)
    show w.ownsRow base 78 2 v (n + 0) (xs ++ [])
    rw [List.append_nil]
    exact hown
  | some ad =>
    refine wpList_append_own w hgd s x 22 ho base 78 i0 (.agg #[.int .i64 0, .string ⟨#[]⟩]) 2 24 Tryz.underlying22 hi hz0 hz1 hz2 rfl (by decide) v n xs hs hown ad l.length c (cellsC l) hx (cellsC_length l) ?_ (cellsC_one l) (by unfold maxLen; omega) (by omega) hbase ?_
    · intro j u hj
      rcases hS with h | ⟨b, off, he, hlt, hc⟩
      · rw [h] at hj; simp [cellsC] at hj
      · cases he
        rw [Addr.add_lit]
        exact SegC.news hc j u hj
    · intro v' w' hown' hgrow _
      exact h v' w' hown' (hB.grown hgrow hbase (fun k hk => (hown.lt k hk).1))

/-- Rows that lie behind one another in a list of lists. -/
def flatC (L : List (Option Addr × Nat × List (Int × ByteArray))) : List (Int × ByteArray) := (L.map (·.2.2)).flatten
theorem flatC_take {L : List (Option Addr × Nat × List (Int × ByteArray))} {k : Nat} {x : Option Addr × Nat × List (Int × ByteArray)} (h : L[k]? = some x) : flatC (L.take (k + 1)) = flatC (L.take k) ++ x.2.2 := by
  rw [List.take_add_one, h]; simp [flatC]
theorem flatC_le (L : List (Option Addr × Nat × List (Int × ByteArray))) (k : Nat) : (flatC (L.take k)).length ≤ (flatC L).length := by
  have : flatC L = flatC (L.take k) ++ flatC (L.drop k) := by rw [flatC, flatC, flatC, ← List.flatten_append, ← List.map_append, List.take_append_drop]
  rw [this, List.length_append]; omega
def SegLC (w : World) (B : Nat) (L : List (Option Addr × Nat × List (Int × ByteArray))) : Prop :=
  B < w.heap.size ∧ ∀ i x, L[i]? = some x → w.cell? ⟨B, i, none⟩ = some (.slice x.1 x.2.2.length x.2.1) ∧ SegW w x.1 x.2.2

set_option maxHeartbeats 2000000 in
set_option maxRecDepth 100000 in
theorem growC_any (n : Nat) (w : World) (hn : n ≤ 1000) :
    Calls Tryz.prog 131 #[.slice none 0 0, .int .i64 n] w fun e w' => ∃ v', e = .returned v' ∧ w'.ownsRow w.heap.size 78 2 v' 0 [] ∧ Below w.heap.size w w' := by
  obtain ⟨i0, hi, hz0, hz1, hz2⟩ := info_parts infoC
  rcases Nat.eq_zero_or_pos n with rfl | hpos
  · go_enter Tryz.func131, Tryz.ntmps131
    go_wp2
    go_ret
    exact ⟨_, rfl, World.ownsRow_nil _ _ _ _, Below.refl _ _⟩
  · obtain ⟨G, hG⟩ : ∃ G, G = grownCap w n 0 78 := ⟨_, rfl⟩
    have hGn : n ≤ G := by rw [hG]; exact grownCap_ge w _ _ _
    have hGm : G ≤ maxLen := by rw [hG]; exact grownCap_le_maxLen w n 0 _ (by unfold maxLen; omega)
    obtain ⟨cur, hcur⟩ : ∃ cur, cur = #[] ++ Builtin.zeroCells (.agg #[.int .i64 0, .string ⟨#[]⟩] : Value).cells n ++ Builtin.zeroCells (.agg #[.int .i64 0, .string ⟨#[]⟩] : Value).cells (G - n) := ⟨_, rfl⟩
    have hsz : cur.size = G * 2 := by
      rw [hcur, Array.size_append, Array.size_append, size_zeroCells, size_zeroCells]
      show 0 + n * 2 + (G - n) * 2 = G * 2
      omega
    have hrz : ∀ ty, (Builtin.append_ #[22, 3] ty #[.slice none 0 0, .int .i64 (n : Int)]).run Tryz.prog w = .ok (.slice (some ⟨w.heap.size, 0, none⟩) n G) (w.drew.alloc (.cells cur 78)) := fun ty => by
      have h := Lib.run_append_grow_zeros (P := Tryz.prog) w 22 3 ty 78 i0 (.agg #[.int .i64 0, .string ⟨#[]⟩]) .i64 .i64 Tryz.underlying22 Tryz.underlying3 hi hz0 none 0 0 [] (run_firstCells_none w.drew i0.size 0 0 0) n hpos (by rw [hz1]; decide) (by omega) (by omega) (by rw [hz2]; omega) (by rw [Nat.zero_add, hz2]; exact growslice_fits (by omega) (by omega))
      rw [Nat.zero_add, ← hG] at h
      rw [h, hcur]
    have HO : Hid ((w.drew.alloc (.cells cur 78)).ownsRow w.heap.size 78 2 (.slice (some ⟨w.heap.size, 0, none⟩) 0 G) 0 []) := World.ownsRow_made w.drew cur G (Nat.le_refl _) hGm hsz
    clear hG hcur hsz
    unfold maxLen at hGm
    have h1 : ¬ ((n : Int) < 0) := by omega
    have h2 : (n : Int) > 0 := by omega
    go_enter Tryz.func131, Tryz.ntmps131
    go_wp2_with (at_builtin; refine Lib.wpList_append_run _ rfl _ _ _ _ rfl _ _ rfl rfl _ _ (hrz _) ?_)
    go_ret
    exact ⟨_, rfl, HO.out, (Below.refl _ _).drew.alloc (by simp) _⟩

set_option maxHeartbeats 2000000 in
set_option maxRecDepth 100000 in
theorem concatC_any (B m c : Nat) (L : List (Option Addr × Nat × List (Int × ByteArray))) (w : World) (hm : L.length = m) (hm2 : m ≤ 1000) (h : SegLC w B L) (hn : (flatC L).length ≤ 1000) :
    Calls Tryz.prog 93 #[.slice (some ⟨B, 0, none⟩) m c] w fun e w' => ∃ v', e = .returned v' ∧ w'.ownsRow w.heap.size 78 2 v' (flatC L).length (cellsC (flatC L)) ∧ Below w.heap.size w w' := by
  subst hm
  have HS := hide h
  clear h
  go_enter Tryz.func93, Tryz.ntmps93
  go_wp2
  go_loop [3, 11] (fun s i => ∃ k : Nat, k ≤ L.length ∧ i = .int .i64 k ∧ s = .int .i64 ((flatC (L.take k)).length : Int)) (fun _ i => L.length - (intOf i).toNat)
  case atStart => exact ⟨0, Nat.zero_le _, rfl, rfl⟩
  case round =>
    obtain ⟨k, hk, rfl, rfl⟩ := hrel
    have hle := flatC_le L k
    by_cases hlt : k < L.length
    · obtain ⟨x, hx⟩ : ∃ x, L[k]? = some x := ⟨_, List.getElem?_eq_getElem hlt⟩
      have hc := (HS.out.2 k x hx).1
      have HF : Hid ((flatC (L.take (k + 1))).length = (flatC (L.take k)).length + x.2.2.length) := by rw [Hid, flatC_take hx, List.length_append]
      have hle2 := flatC_le L (k + 1)
      rw [HF.out] at hle2
      have hlt' : (k : Int) < (L.length : Int) := by omega
      clear hx
      generalize (flatC (L.take k)).length = q at *
      obtain ⟨xa, xc, xl⟩ := x
      dsimp only at hle2 hc HF
      go_wp2
      go_round
      case rel => exact ⟨k + 1, by omega, by go_num, by rw [HF.out]; go_num⟩
      case measure => simp [intOf]; omega
    · have e : k = L.length := by omega
      subst e
      rw [List.take_length]
      clear hle
      obtain ⟨N, hN⟩ : ∃ N, N = (flatC L).length := ⟨_, rfl⟩
      rw [← hN] at hn
      rw [← hN]
      have HN := hide hN
      clear hN
      go_wp2_with fail
      refine (growC_any N w hn).mono ?_
      rintro e w1 ⟨v1, rfl, hown1, hb1⟩
      have HO1 := hide hown1
      have HB1 := hide hb1
      clear hown1 hb1
      go_wp2
      go_loopw [6, 27] (fun s i wr => ∃ (k : Nat), k ≤ L.length ∧ i = .int .i64 k ∧ Hid (wr.ownsRow w.heap.size 78 2 s (flatC (L.take k)).length (cellsC (flatC (L.take k)))) ∧ Hid (Below w.heap.size w wr)) (fun _ i _ => L.length - (intOf i).toNat)
      case atStart => exact ⟨0, Nat.zero_le _, rfl, HO1, HB1⟩
      case round =>
        obtain ⟨k, hk, rfl, hown, hbr⟩ := hrel
        have hle := flatC_le L k
        rw [← HN.out] at hle
        by_cases hlt : k < L.length
        · obtain ⟨x, hx⟩ : ∃ x, L[k]? = some x := ⟨_, List.getElem?_eq_getElem hlt⟩
          have hc := cellKeep hbr.out HS.out.1 (HS.out.2 k x hx).1
          have HX : Hid (SegW wr x.1 x.2.2) := (HS.out.2 k x hx).2.below hbr.out
          have HF : Hid (flatC (L.take (k + 1)) = flatC (L.take k) ++ x.2.2) := flatC_take hx
          have hle2 := flatC_le L (k + 1)
          rw [HF.out, List.length_append, ← HN.out] at hle2
          have hlt' : (k : Int) < (L.length : Int) := by omega
          clear hx
          generalize flatC (L.take k) = q at *
          obtain ⟨xa, xc, xl⟩ := x
          dsimp only at hle2 hc HF HX
          go_wp2_with (at_builtin; refine wpList_appC _ w w.heap.size rfl _ _ rfl _ q.length (cellsC q) rfl hown.out xa xc xl rfl HX.out (by omega) hbr.out.size hbr.out ?_)
          intro v' w' hown' hB'
          clear hown hbr HX hc
          go_wp2
          go_roundw
          case rel => exact ⟨k + 1, by omega, by go_num, by rw [HF.out, List.length_append, cellsC_append]; exact hown', hB'⟩
          case measure => simp [intOf]; omega
        · have e : k = L.length := by omega
          subst e
          rw [List.take_length] at hown
          clear hle
          go_wp2
          go_ret
          exact ⟨_, rfl, hown.out, hbr.out⟩


set_option maxHeartbeats 400000 in
theorem isBlock_any (b : Int) (w : World) :
    Calls Tryz.prog 45 #[.int .i64 b] w fun e w' => e = .returned (.bool (withinB b 0 11)) ∧ w = w' := by
  by_cases h0 : 0 ≤ b <;> by_cases h1 : b < 12
  all_goals
    have e1 : decide (b ≤ 11) = decide (b < 12) := by by_cases h : b < 12 <;> simp [h] <;> omega
    go_enter Tryz.func45, Tryz.ntmps45
    go_wp2
    go_ret
    exact ⟨by simp [withinB, e1, h0, h1], rfl⟩

theorem rest_take {l : List (Int × ByteArray)} {k : Nat} {x : Int × ByteArray} (h : l[k]? = some x) (b : Int) : (l.take (k + 1)).filter (fun y => decide (y.1 ≠ b)) = (l.take k).filter (fun y => decide (y.1 ≠ b)) ++ (if x.1 = b then [] else [x]) := by
  rw [List.take_add_one, h, List.filter_append]
  by_cases e : x.1 = b <;> simp [e]

set_option maxHeartbeats 2000000 in
set_option maxRecDepth 100000 in
theorem rest_any (a : Option Addr) (c : Nat) (l : List (Int × ByteArray)) (b : Int) (w : World) (h : SegW w a l) (hn : l.length ≤ 500) :
    Calls Tryz.prog 49 #[.slice a l.length c, .int .i64 b] w fun e w' => ∃ v', e = .returned v' ∧ w'.ownsRow w.heap.size 78 2 v' (l.filter (fun y => decide (y.1 ≠ b))).length (cellsC (l.filter (fun y => decide (y.1 ≠ b)))) ∧ Below w.heap.size w w' := by
  have HS := hide h
  clear h
  go_enter Tryz.func49, Tryz.ntmps49
  go_wp2
  go_loopw [5, 10] (fun s i wr => ∃ k : Nat, k ≤ l.length ∧ i = .int .i64 k ∧ Hid (wr.ownsRow w.heap.size 78 2 s ((l.take k).filter (fun y => decide (y.1 ≠ b))).length (cellsC ((l.take k).filter (fun y => decide (y.1 ≠ b))))) ∧ Hid (Below w.heap.size w wr)) (fun _ i _ => l.length - (intOf i).toNat)
  case atStart => exact ⟨0, Nat.zero_le _, rfl, World.ownsRow_nil _ _ _ _, Below.refl _ _⟩
  case round =>
    obtain ⟨k, hk, rfl, hown, hbr⟩ := hrel
    by_cases hlt : k < l.length
    · obtain ⟨b2, off, rfl, hb, hc⟩ := HS.out.resolve_left (by intro e; rw [e] at hlt; simp at hlt)
      obtain ⟨x, hx⟩ : ∃ x, x = l.getD k (0, ByteArray.empty) := ⟨_, rfl⟩
      obtain ⟨hc1, hc2⟩ := hc k hlt
      rw [← hx] at hc1 hc2
      have HX : Hid (l[k]? = some x) := by rw [hx]; exact getD_at _ _ _ hlt
      have g1 := cellKeep hbr.out hb hc1
      have g2 := cellKeep hbr.out hb hc2
      clear hx hc hc1 hc2
      obtain ⟨n, s⟩ := x
      have hlt' : (k : Int) < (l.length : Int) := by omega
      have HT := hide (rest_take HX.out b)
      have hq : ((l.take k).filter (fun y => decide (y.1 ≠ b))).length ≤ 500 := Nat.le_trans (List.length_filter_le _ _) (by rw [List.length_take]; omega)
      generalize (l.take k).filter (fun y => decide (y.1 ≠ b)) = q at *
      by_cases he : n = b
      · have HT2 : Hid ((l.take (k + 1)).filter (fun y => decide (y.1 ≠ b)) = q) := by rw [Hid, HT.out, if_pos he, List.append_nil]
        subst he
        have HO : Hid ((wr.alloc (.cells #[.int .i64 n, .string s] 78)).ownsRow w.heap.size 78 2 _ q.length (cellsC q)) := owns_keep hown.out (below1 _ _)
        have HB := hide (bthen hbr.out (below1 wr (.cells #[.int .i64 n, .string s] 78)))
        clear HT hown
        go_wp2
        go_roundw
        case rel => exact ⟨k + 1, by omega, by go_num, by rw [HT2.out]; exact HO, HB⟩
        case measure => simp [intOf]; omega
      · have he' : (n == b) = false := by simpa using he
        have HT2 : Hid ((l.take (k + 1)).filter (fun y => decide (y.1 ≠ b)) = q ++ [(n, s)]) := by rw [Hid, HT.out, if_neg he]
        clear HT
        go_wp2_with (at_builtin; refine wpList_appC _ w w.heap.size rfl _ _ rfl _ q.length (cellsC q) rfl (owns_keep hown.out (bthen (below1 _ _) (below1 _ _))) (some ⟨wr.heap.size + 1, 0, none⟩) 1 [(n, s)] rfl (.inr ⟨wr.heap.size + 1, 0, rfl, by simp, fun i hi => ?_⟩) (by simp; omega) (Nat.le_trans hbr.out.size (by simp; omega)) (bthen hbr.out (bthen (below1 _ _) (below1 _ _))) ?_)
        · have : i = 0 := by simpa using hi
          subst this
          exact ⟨by simp [go_sem], by simp [go_sem]⟩
        · intro v' w' hown' hB'
          clear hown hbr g1 g2
          go_wp2
          go_roundw
          case rel => exact ⟨k + 1, by omega, by go_num, by rw [HT2.out, List.length_append, cellsC_append]; exact hown', hB'⟩
          case measure => simp [intOf]; omega
    · have e : k = l.length := by omega
      subst e
      rw [List.take_length] at hown
      go_wp2
      go_ret
      exact ⟨_, rfl, hown.out, hbr.out⟩

theorem docW_le (l : List (Int × ByteArray)) (b : Int) (s : ByteArray) (j : Nat) : (docW l b s j).length ≤ 1 := by
  unfold docW
  split
  · simp
  · cases textIn j l <;> simp
theorem flat_le {α : Type} (f : Nat → List α) (h : ∀ j, (f j).length ≤ 1) (k : Nat) : ((List.range k).flatMap f).length ≤ k := by
  induction k with
  | zero => simp
  | succ k ih =>
    rw [List.range_succ, List.flatMap_append, List.length_append]
    have := h k
    simp at ih ⊢
    omega
theorem flat_succ {α : Type} (f : Nat → List α) (k : Nat) : (List.range (k + 1)).flatMap f = (List.range k).flatMap f ++ f k := by
  rw [List.range_succ, List.flatMap_append]; simp

set_option maxHeartbeats 2000000 in
set_option maxRecDepth 100000 in
theorem refWith_any (a : Option Addr) (c : Nat) (l : List (Int × ByteArray)) (b : Int) (s : ByteArray) (w : World) (h : SegW w a l) (hn : l.length ≤ maxLen) :
    Calls Tryz.prog 48 #[.slice a l.length c, .int .i64 b, .string s] w fun e w' => ∃ v', e = .returned v' ∧ w'.ownsRow w.heap.size 78 2 v' ((List.range 12).flatMap (docW l b s)).length (cellsC ((List.range 12).flatMap (docW l b s))) ∧ Below w.heap.size w w' := by
  have HS := hide h
  have HN := hide hn
  clear h hn
  go_enter Tryz.func48, Tryz.ntmps48
  go_wp2
  go_loopw [7, 11] (fun v i wr => ∃ k : Nat, k ≤ 12 ∧ i = .int .i64 k ∧ Hid (wr.ownsRow w.heap.size 78 2 v ((List.range k).flatMap (docW l b s)).length (cellsC ((List.range k).flatMap (docW l b s)))) ∧ Hid (Below w.heap.size w wr)) (fun _ i _ => 12 - (intOf i).toNat)
  case atStart => exact ⟨0, Nat.zero_le _, rfl, World.ownsRow_nil _ _ _ _, Below.refl _ _⟩
  case round =>
    obtain ⟨k, hk, rfl, hown, hbr⟩ := hrel
    by_cases hlt : k < 12
    · have hlt' : (k : Int) < 12 := by omega
      have hq := flat_le (docW l b s) (docW_le l b s) k
      have HF := hide (flat_succ (docW l b s) k)
      generalize (List.range k).flatMap (docW l b s) = q at *
      go_wp2_with fail
      refine (textOf_any a c l (k : Int) wr (HS.out.below hbr.out) HN.out).mono ?_
      rintro e w1 ⟨rfl, hb1⟩
      have HO1 := hide (owns_keep hown.out hb1)
      have HB1 := hide (bthen hbr.out hb1)
      clear hown hbr hb1
      by_cases he : (k : Int) = b
      · have he' : ((k : Int) == b) = true := by simpa using he
        have HF2 : Hid ((List.range (k + 1)).flatMap (docW l b s) = q ++ [(b, s)]) := by rw [Hid, HF.out, docW, if_pos he]
        clear HF
        go_wp2_with (at_builtin; refine wpList_appC _ w w.heap.size rfl _ _ rfl _ q.length (cellsC q) rfl (owns_keep HO1.out (below1 _ _)) (some ⟨w1.heap.size, 0, none⟩) 1 [(b, s)] rfl (.inr ⟨w1.heap.size, 0, rfl, by simp, fun i hi => ?_⟩) (by simp; omega) (Nat.le_trans HB1.out.size (by simp)) (bthen HB1.out (below1 _ _)) ?_)
        · have : i = 0 := by simpa using hi
          subst this
          exact ⟨by simp [go_sem], by simp [go_sem]⟩
        · intro v' w' hown' hB'
          clear HO1 HB1
          go_wp2
          go_roundw
          case rel => exact ⟨k + 1, by omega, by go_num, by rw [HF2.out, List.length_append, cellsC_append]; exact hown', hB'⟩
          case measure => simp [intOf]; omega
      · have he' : ((k : Int) == b) = false := by simpa using he
        cases ht : textIn (k : Int) l with
        | none =>
          have HF2 : Hid ((List.range (k + 1)).flatMap (docW l b s) = q) := by rw [Hid, HF.out, docW, if_neg he, ht]; simp
          clear HF
          go_wp2
          go_roundw
          case rel => exact ⟨k + 1, by omega, by go_num, by rw [HF2.out]; exact HO1, HB1⟩
          case measure => simp [intOf]; omega
        | some u =>
          have HF2 : Hid ((List.range (k + 1)).flatMap (docW l b s) = q ++ [((k : Int), u)]) := by rw [Hid, HF.out, docW, if_neg he, ht]; rfl
          clear HF
          go_wp2_with (at_builtin; refine wpList_appC _ w w.heap.size rfl _ _ rfl _ q.length (cellsC q) rfl (owns_keep HO1.out (below1 _ _)) (some ⟨w1.heap.size, 0, none⟩) 1 [((k : Int), u)] rfl (.inr ⟨w1.heap.size, 0, rfl, by simp, fun i hi => ?_⟩) (by simp; omega) (Nat.le_trans HB1.out.size (by simp)) (bthen HB1.out (below1 _ _)) ?_)
          · have : i = 0 := by simpa using hi
            subst this
            exact ⟨by simp [go_sem], by simp [go_sem]⟩
          · intro v' w' hown' hB'
            clear HO1 HB1
            go_wp2
            go_roundw
            case rel => exact ⟨k + 1, by omega, by go_num, by rw [HF2.out, List.length_append, cellsC_append]; exact hown', hB'⟩
            case measure => simp [intOf]; omega
    · have e : k = 12 := by omega
      subst e
      go_wp2
      go_ret
      exact ⟨_, rfl, hown.out, hbr.out⟩


set_option maxHeartbeats 4000000 in
set_option maxRecDepth 100000 in
theorem checkSteps_any (a : Option Addr) (c : Nat) (l : List (Int × ByteArray)) (p seq : Int) (w : World) (h : SegW w a l) (hn : l.length * 24 ≤ 140737488355328) :
    Calls Tryz.prog 21 #[.slice a l.length c, .int .i64 p, .int .i64 seq] w fun e w' => ∃ a2 c2, e = .returned (.tuple #[.slice a2 (checkS l p seq).length c2, .int .i64 (checkE l p seq)]) ∧ SegSt w' a2 (checkS l p seq) ∧ Below w.heap.size w w' := by
  have HS := hide h
  clear h
  obtain ⟨m, hm⟩ : ∃ m, m = superMk p seq := ⟨_, rfl⟩
  have HM := hide hm
  have hI : ∀ W, IsMk W (.agg #[.int .i64 1, .int .i64 seq, .int .i64 p, .slice none 0 0, .slice none 0 0]) m := by
    intro W; rw [hm]; exact ⟨none, 0, none, 0, rfl, .inl rfl, .inl rfl, Nat.zero_le _, Nat.zero_le _⟩
  have HI := hide hI
  have HT0 : Hid (m.tags.length * 8 ≤ 140737488355328) := by rw [hm]; exact Nat.zero_le _
  clear hm hI
  go_enter Tryz.func21, Tryz.ntmps21
  go_wp2_with fail
  refine (encodeMark_any _ m _ (HI.out _) HT0.out).mono ?_
  rintro e w1 ⟨rfl, hb1⟩
  by_cases hg : goodM m = 0
  · rw [hg]
    obtain ⟨s, hs⟩ : ∃ s, s = encT m := ⟨_, rfl⟩
    rw [← hs]
    have HSE := hide hs
    have HG := hide hg
    clear hs hg HI HT0
    have HB1 := hide hb1
    clear hb1
    go_wp2
    go_loopw [10, 25] (fun v i wr => ∃ k : Nat, k ≤ l.length ∧ i = .int .i64 k ∧ Hid ((l.take k).any noCopyB = false) ∧ Hid (wr.ownsRow w.heap.size 97 3 v (homeM (l.take k)).length (cellsSt (homeM (l.take k)))) ∧ Hid (Below w.heap.size w wr)) (fun _ i _ => l.length - (intOf i).toNat)
    case atStart => exact ⟨0, Nat.zero_le _, rfl, rfl, World.ownsRow_nil _ _ _ _, HB1⟩
    case round =>
      clear HB1
      obtain ⟨k, hk, rfl, hA, hown, hbr⟩ := hrel
      by_cases hlt : k < l.length
      · obtain ⟨b2, off, rfl, hb, hc⟩ := HS.out.resolve_left (by intro e; rw [e] at hlt; simp at hlt)
        obtain ⟨x, hx⟩ : ∃ x, x = l.getD k (0, ByteArray.empty) := ⟨_, rfl⟩
        obtain ⟨hc1, hc2⟩ := hc k hlt
        rw [← hx] at hc1 hc2
        have HX : Hid (l[k]? = some x) := by rw [hx]; exact getD_at _ _ _ hlt
        have g1 := cellKeep hbr.out hb hc1
        have g2 := cellKeep hbr.out hb hc2
        have HT := hide (homeM_snoc HX.out)
        have hq : (homeM (l.take k)).length ≤ k := by rw [homeM_length, List.length_take]; omega
        have hlt' : (k : Int) < (l.length : Int) := by omega
        clear hx hc hc1 hc2
        obtain ⟨n, s2⟩ := x
        generalize homeM (l.take k) = q at *
        go_wp2_with fail
        refine (isBlock_any n _).mono ?_
        rintro e w2 ⟨rfl, rfl⟩
        have bad : ∀ hh : noCopyB (n, s2) = true, checkE l p seq = 1 ∧ checkS l p seq = [] := by
          intro hh
          have h1 : l.any noCopyB = true := any_hit HX.out hh
          have h2 : checkE l p seq = 1 := by rw [checkE, ← HM.out, if_neg (by simp [HG.out]), if_pos h1]
          exact ⟨h2, by rw [checkS, h2]; rfl⟩
        by_cases hwb : withinB n 0 11 = true
        · have hwb2 := withinB_iff.1 hwb
          obtain ⟨hn0, hn1⟩ := hwb2
          rw [hwb]
          by_cases h32 : s2.size = 32
          · have HN : Hid ((l.take (k + 1)).any noCopyB = false) := any_miss HX.out (by simp [noCopyB, hwb, h32]) hA.out
            have h32' : ((s2.size : Int) != 32) = false := by rw [bne_eq_false_iff_eq]; omega
            clear bad hA hwb
            go_wp2_with (at_builtin; refine wpList_appSt rfl _ _ rfl w.heap.size _ q rfl (owns_keep hown.out (bthen (below1 _ _) (below1 _ _))) (wr.heap.size + 1) (writeS (25 + n) s2) rfl (by simp [go_sem, writeS]) (by simp [go_sem, writeS]) (by simp [go_sem, writeS]) (by omega) (Nat.le_trans hbr.out.size (by simp; omega)) ?_)
            intro v' w' hown' hg'
            have hB0 := bthen hbr.out (bthen (below1 wr (.cells #[.int .i64 n, .string s2] 78 (0, 0))) (below1 _ (.cells #[.int .i64 1, .int .i64 (25 + n), .string s2] 97 (0, 0))))
            have hB' : Below w.heap.size w w' := hB0.grown hg' hB0.size (fun j hj => (hown.out.lt j hj).1)
            have HO' := hide hown'
            have HBB := hide hB'
            clear hown hbr g1 g2 hown' hg' hB0 hB'
            go_wp2
            go_roundw
            case rel => exact ⟨k + 1, by omega, by go_num, HN, by rw [HT.out]; exact HO', HBB⟩
            case measure => simp [intOf]; omega
          · have HN := hide (bad (by simp [noCopyB, h32]))
            have h32' : ((s2.size : Int) != 32) = true := by rw [bne_iff_ne]; omega
            clear bad hwb
            go_wp2
            exact bodyPost_ret (v := .tuple #[.slice none 0 0, .int .i64 1]) (by simp [results, Tryz.results21, go_sem]) rfl ⟨none, 0, by rw [HN.out.1, HN.out.2]; rfl, by rw [HN.out.2]; exact .inl rfl, bthen hbr.out (below1 _ _)⟩
        · have hwb' : withinB n 0 11 = false := by simpa using hwb
          have HN := hide (bad (by simp [noCopyB, hwb']))
          rw [hwb']
          clear bad hwb
          go_wp2
          exact bodyPost_ret (v := .tuple #[.slice none 0 0, .int .i64 1]) (by simp [results, Tryz.results21, go_sem]) rfl ⟨none, 0, by rw [HN.out.1, HN.out.2]; rfl, by rw [HN.out.2]; exact .inl rfl, bthen hbr.out (below1 _ _)⟩
      · have e : k = l.length := by omega
        subst e
        rw [List.take_length] at hown hA
        have HE : Hid (checkE l p seq = 0) := by rw [Hid, checkE, ← HM.out, if_neg (by simp [HG.out]), if_neg (by simp [hA.out])]
        have HT : Hid (checkS l p seq = homeS l ++ [writeS 0 s, flushS]) := by rw [Hid, checkS, if_pos HE.out, ← HM.out, ← HSE.out]
        have hlt' : ¬ ((l.length : Int) < (l.length : Int)) := by omega
        clear hA HM HSE HG
        by_cases h0 : l.length = 0
        · have HH : Hid (homeS l = homeM l) := by rw [Hid, homeS, if_pos h0, List.append_nil]
          have h0' : ¬ ((0 : Int) < (l.length : Int)) := by omega
          have hq : (homeM l).length ≤ l.length := by rw [homeM_length]; omega
          rw [HH.out] at HT
          clear HH
          generalize homeM l = q at *
          go_wp2_with (at_builtin; refine wpList_appSt2 rfl _ _ rfl w.heap.size _ q rfl (owns_keep hown.out (below1 _ _)) wr.heap.size (writeS 0 s) flushS rfl (news6 (by simp [go_sem, writeS]) (by simp [go_sem, writeS]) (by simp [go_sem, writeS]) (by simp [go_sem, flushS]) (by simp [go_sem, flushS]) (by simp [go_sem, flushS])) (by omega) (Nat.le_trans hbr.out.size (by simp)) ?_)
          intro v' w' hown' hg'
          have HB' : Hid (Below w.heap.size w w') := (hbr.out.alloc hbr.out.size _).grown hg' (Nat.le_trans hbr.out.size (by simp)) (fun j hj => (hown.out.lt j hj).1)
          obtain ⟨a2, c2, hv, hS2, _⟩ := SegSt.of_owns hown'
          have HS2 := hide hS2
          subst hv
          clear hown' hg' hS2 hown hbr
          go_wp2
          exact bodyPost_ret (v := .tuple #[.slice a2 (q ++ [writeS 0 s, flushS]).length c2, .int .i64 0]) (by simp [results, Tryz.results21, go_sem]) rfl ⟨a2, c2, by rw [HE.out, HT.out], by rw [HT.out]; exact HS2.out, HB'.out⟩
        · have HH : Hid (homeS l = homeM l ++ [flushS]) := by rw [Hid, homeS, if_neg h0]
          have h0' : (0 : Int) < (l.length : Int) := by omega
          have hq : (homeM l).length ≤ l.length := by rw [homeM_length]; omega
          rw [HH.out] at HT
          clear HH
          generalize homeM l = q at *
          go_wp2_with (at_builtin; refine wpList_appSt rfl _ _ rfl w.heap.size _ q rfl (owns_keep hown.out (below1 _ _)) wr.heap.size flushS rfl (by simp [go_sem, flushS]) (by simp [go_sem, flushS]) (by simp [go_sem, flushS]) (by omega) (Nat.le_trans hbr.out.size (by simp)) ?_)
          intro v3 w3 hown3 hg3
          have HB3 : Hid (Below w.heap.size w w3) := (hbr.out.alloc hbr.out.size _).grown hg3 (Nat.le_trans hbr.out.size (by simp)) (fun j hj => (hown.out.lt j hj).1)
          have HO3 : Hid (w3.ownsRow w.heap.size 97 3 v3 (q ++ [flushS]).length (cellsSt (q ++ [flushS]))) := hown3
          have hq2 : (q ++ [flushS]).length ≤ l.length + 1 := by simp; omega
          clear hown3 hg3 hown hbr
          generalize q ++ [flushS] = q2 at *
          go_wp2_with (at_builtin; refine wpList_appSt2 rfl _ _ rfl w.heap.size _ q2 rfl (owns_keep HO3.out (below1 _ _)) w3.heap.size (writeS 0 s) flushS rfl (news6 (by simp [go_sem, writeS]) (by simp [go_sem, writeS]) (by simp [go_sem, writeS]) (by simp [go_sem, flushS]) (by simp [go_sem, flushS]) (by simp [go_sem, flushS])) (by omega) (Nat.le_trans HB3.out.size (by simp)) ?_)
          intro v' w' hown' hg'
          have HB' : Hid (Below w.heap.size w w') := (HB3.out.alloc HB3.out.size _).grown hg' (Nat.le_trans HB3.out.size (by simp)) (fun j hj => (HO3.out.lt j hj).1)
          obtain ⟨a2, c2, hv, hS2, _⟩ := SegSt.of_owns hown'
          have HS2 := hide hS2
          subst hv
          clear hown' hg' hS2 HO3 HB3
          go_wp2
          exact bodyPost_ret (v := .tuple #[.slice a2 (q2 ++ [writeS 0 s, flushS]).length c2, .int .i64 0]) (by simp [results, Tryz.results21, go_sem]) rfl ⟨a2, c2, by rw [HE.out, HT.out], by rw [HT.out]; exact HS2.out, HB'.out⟩
  · have HE : Hid (checkE l p seq = goodM m) := by rw [Hid, checkE, ← HM.out, if_pos (by simpa using hg)]
    have HT : Hid (checkS l p seq = []) := by rw [Hid, checkS, HE.out, if_neg hg]
    have hg' : (goodM m != 0) = true := by simpa using hg
    have HB1 := hide hb1
    clear hb1
    generalize goodM m = G at *
    go_wp2
    exact bodyPost_ret (v := .tuple #[.slice none 0 0, .int .i64 G]) (by simp [results, Tryz.results21, go_sem]) rfl ⟨none, 0, by rw [HE.out, HT.out]; rfl, by rw [HT.out]; exact .inl rfl, HB1.out⟩

end Go.Proofs.YtjnpndfpajjihabGreat
