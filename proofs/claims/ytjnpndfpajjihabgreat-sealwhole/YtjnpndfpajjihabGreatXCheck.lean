/-
  The walks of package seal's isNoCopy and Check.
-/
import Derived.Test.YtjnpndfpajjihabGreatGrSealWhole24
import Derived.Test.YtjnpndfpajjihabGreatGrSealWhole12
import Derived.Test.YtjnpndfpajjihabGreatGrSealWhole27
import Derived.Test.YtjnpndfpajjihabGreatGrSealWhole3
namespace Go.Proofs.YtjnpndfpajjihabGreat
open Go.RowKit

/-- Is it no copy? A super block; what Check answers. -/
def noCopyB (x : Int × ByteArray) : Bool := !(withinB x.1 0 11 && decide (x.2.size = 32))
def superMk (p seq : Int) : Mk := ⟨1, seq, p, [], []⟩
def checkE (l : List (Int × ByteArray)) (p seq : Int) : Int := if goodM (superMk p seq) ≠ 0 then goodM (superMk p seq) else if l.any noCopyB = true then 1 else 0
def checkS (l : List (Int × ByteArray)) (p seq : Int) : List St := if checkE l p seq = 0 then homeS l ++ [writeS 0 (encT (superMk p seq)), flushS] else []

set_option maxHeartbeats 1000000 in
theorem isNoCopy_any (n : Int) (s : ByteArray) (w : World) :
    Calls Tryz.prog 75 #[.agg #[.int .i64 n, .string s]] w fun e w' => e = .returned (.bool (noCopyB (n, s))) ∧ Below w.heap.size w w' := by
  have e0 : noCopyB (n, s) = (decide (n < 0) || decide (12 ≤ n) || ((s.size : Int) != 32)) := by
    unfold noCopyB withinB
    by_cases h0 : n < 0
    · have : ¬ 0 ≤ n := by omega
      simp [h0, this]
    · by_cases h1 : 12 ≤ n
      · have h2 : ¬ n ≤ 11 := by omega
        simp [h1, h2]
      · have h2 : n ≤ 11 := by omega
        have h3 : 0 ≤ n := by omega
        have h4 : ¬ 12 ≤ n := h1
        by_cases h5 : s.size = 32
        · simp [h0, h2, h3, h4, h5]
        · have h6 : ((s.size : Int) != 32) = true := by rw [bne_iff_ne]; omega
          simp [h0, h2, h3, h4, h5, h6]
  have E0 := hide e0
  clear e0
  go_enter Tryz.func75, Tryz.ntmps75
  by_cases h0 : n < 0
  · go_wp2
    go_ret
    exact ⟨by rw [E0.out]; simp [h0], below1 _ _⟩
  · by_cases h1 : 12 ≤ n
    · go_wp2
      go_ret
      exact ⟨by rw [E0.out]; simp [h1], below1 _ _⟩
    · go_wp2
      go_ret
      exact ⟨by rw [E0.out, show decide (n < 0) = false from decide_eq_false (by omega), show decide (12 ≤ n) = false from decide_eq_false (by omega)]; rfl, below1 _ _⟩

theorem news6 {w : World} {b : Nat} {x y : St} (h0 : w.cell? ⟨b, 0, none⟩ = some (.int .i64 x.1)) (h1 : w.cell? ⟨b, 1, none⟩ = some (.int .i64 x.2.1)) (h2 : w.cell? ⟨b, 2, none⟩ = some (.string x.2.2)) (h3 : w.cell? ⟨b, 3, none⟩ = some (.int .i64 y.1)) (h4 : w.cell? ⟨b, 4, none⟩ = some (.int .i64 y.2.1)) (h5 : w.cell? ⟨b, 5, none⟩ = some (.string y.2.2)) :
    ∀ j u, (cellsSt [x, y])[j]? = some u → w.cell? (Addr.add ⟨b, 0, none⟩ j) = some u := by
  intro j u hj
  rw [Addr.add_lit, Nat.zero_add]
  match j, hj with
  | 0, hj => simp [cellsSt] at hj; subst hj; exact h0
  | 1, hj => simp [cellsSt] at hj; subst hj; exact h1
  | 2, hj => simp [cellsSt] at hj; subst hj; exact h2
  | 3, hj => simp [cellsSt] at hj; subst hj; exact h3
  | 4, hj => simp [cellsSt] at hj; subst hj; exact h4
  | 5, hj => simp [cellsSt] at hj; subst hj; exact h5
  | j + 6, hj => simp [cellsSt] at hj
/-- append of two steps onto a row of the call's own. -/
theorem wpList_appSt2 {w : World} {ops : Array Oper} {rest : List Oper} {o : Oper} {a : Act} {Q : Exit → Act → World → Prop} (hgd : o.guard = none) (s x : Operand)
    (ho : o.op = .call { callee := .builtin .append, args := #[s, x], argTypes := #[42, 42] })
    (base : Nat) (v : Value) (l : List St) (hs : a.eval s = v) (hown : w.ownsRow base 97 3 v l.length (cellsSt l)) (b : Nat) (y z : St) (hx : a.eval x = .slice (some ⟨b, 0, none⟩) 2 2)
    (hnews : ∀ j u, (cellsSt [y, z])[j]? = some u → w.cell? (Addr.add ⟨b, 0, none⟩ j) = some u) (h63 : l.length * 24 ≤ 140737488380000) (hbase : base ≤ w.heap.size)
    (h : ∀ v' w', OwnSt w' base v' (l ++ [y, z]) → w.grownBy w' v.ownBlock → wpList Tryz.prog ops Q rest (a.put o.dst v') w') : wpList Tryz.prog ops Q (o :: rest) a w := by
  obtain ⟨i0, hi, hz0, hz1, hz2⟩ := info_parts infoSt
  refine wpList_append_own_wide w hgd s x 42 ho base 97 i0 (.agg #[.int .i64 0, .int .i64 0, .string ⟨#[]⟩]) 3 32 Tryz.underlying42 hi hz0 hz1 hz2 rfl (by decide) v l.length (cellsSt l) hs hown ⟨b, 0, none⟩ 2 2 (cellsSt [y, z]) hx rfl hnews (cellsSt_one _) (by unfold maxLen; omega) (by omega) hbase ?_
  intro v' w' k1 k2 _
  refine h v' w' ?_ k2
  rw [OwnSt, cellsSt_append, List.length_append]
  exact k1
theorem homeS_le (l : List (Int × ByteArray)) : (homeS l).length ≤ l.length + 1 := by
  rw [homeS, List.length_append, homeM_length]; split <;> simp

set_option maxHeartbeats 4000000 in
set_option maxRecDepth 100000 in
theorem check_from (a : Option Addr) (c : Nat) (l : List (Int × ByteArray)) (p seq : Int) (w : World) (h : SegW w a l) (hn : l.length * 24 ≤ 140737488355328) :
    Calls Tryz.prog 20 #[.slice a l.length c, .int .i64 p, .int .i64 seq] w fun e w' => ∃ a2 c2, e = .returned (.tuple #[.slice a2 (checkS l p seq).length c2, .int .i64 (checkE l p seq)]) ∧ (checkS l p seq).length ≤ c2 ∧ SegSt w' a2 (checkS l p seq) ∧ Below w.heap.size w w' ∧ ∀ b off, a2 = some ⟨b, off, none⟩ → w.heap.size ≤ b := by
  have HS := hide h
  clear h
  obtain ⟨m, hm⟩ : ∃ m, m = superMk p seq := ⟨_, rfl⟩
  have HM := hide hm
  have hI : ∀ W, IsMk W (.agg #[.int .i64 1, .int .i64 seq, .int .i64 p, .slice none 0 0, .slice none 0 0]) m := by
    intro W; rw [hm]; exact ⟨none, 0, none, 0, rfl, .inl rfl, .inl rfl, Nat.zero_le _, Nat.zero_le _⟩
  have HI := hide hI
  clear hm hI
  go_enter Tryz.func20, Tryz.ntmps20
  go_wp2_with fail
  refine (stampEncode_any _ m _ (HI.out _)).mono ?_
  rintro e w1 ⟨rfl, hb1⟩
  by_cases hg : goodM m = 0
  · rw [hg]
    have hnl : l.length ≤ maxLen := by unfold maxLen; omega
    obtain ⟨s, hs⟩ : ∃ s, s = encT m := ⟨_, rfl⟩
    rw [← hs]
    have HSE := hide hs
    clear hs
    have HB1 := hide hb1
    clear hb1
    go_wp2_with fail
    refine (containsC_any noCopyB 75 #[] (Go.Proofs.enters_of Tryz.func75 (by kernel_rfl) rfl) a c l _ (HS.out.below HB1.out) hnl (fun x W hb => (isNoCopy_any x.1 x.2 W).mono fun _ _ ⟨h1, h2⟩ => ⟨h1, hb.trans (h2.mono hb.size)⟩)).mono ?_
    rintro e w2 ⟨rfl, hb2⟩
    have HB2 := hide (bthen HB1.out hb2)
    clear hb2 HB1
    cases hc : l.any noCopyB with
    | true =>
      have HE : Hid (checkE l p seq = 1) := by rw [Hid, checkE, ← HM.out, if_neg (by simp [hg]), if_pos hc]
      have HT : Hid (checkS l p seq = []) := by rw [Hid, checkS, HE.out]; rfl
      go_wp2
      exact bodyPost_ret (v := .tuple #[.slice none 0 0, .int .i64 1]) (by simp [results, Tryz.results20, go_sem]) rfl ⟨none, 0, by rw [HE.out, HT.out]; rfl, by rw [HT.out]; exact Nat.le_refl _, by rw [HT.out]; exact .inl rfl, HB2.out, fun _ _ e => by cases e⟩
    | false =>
      have HE : Hid (checkE l p seq = 0) := by rw [Hid, checkE, ← HM.out, if_neg (by simp [hg]), if_neg (by simp [hc])]
      have HT : Hid (checkS l p seq = homeS l ++ [writeS 0 s, flushS]) := by rw [Hid, checkS, if_pos HE.out, ← HM.out, ← HSE.out]
      have HBD : Hid (∀ x ∈ l, 0 ≤ x.1 ∧ x.1 ≤ 11) := by
        intro x hx
        have := List.any_eq_false.1 hc x hx
        simp [noCopyB, withinB] at this
        exact this.1
      have hq := homeS_le l
      clear HSE hc HM HI hg
      go_wp2_with fail
      refine (home_any a c l _ (HS.out.below HB2.out) hn HBD.out).mono ?_
      rintro e w3 ⟨v3, rfl, hO3, hb3⟩
      have HO3 := hide (owns_base hO3 HB2.out.size)
      have HB3 := hide (bthen HB2.out hb3)
      clear hO3 hb3 HB2
      generalize homeS l = L at *
      go_wp2_with fail
      refine (write_any 0 s _).mono ?_
      rintro e w4 ⟨rfl, hb4⟩
      have HO4 := hide (owns_keep HO3.out hb4)
      have HB4 := hide (bthen HB3.out hb4)
      clear hb4 HO3 HB3
      go_wp2_with fail
      refine (flush1_any _).mono ?_
      rintro e w5 ⟨rfl, hb5⟩
      have HO5 := hide (owns_keep HO4.out hb5)
      have HB5 := hide (bthen HB4.out hb5)
      clear hb5 HO4 HB4
      go_wp2_with (at_builtin; refine wpList_appSt2 rfl _ _ rfl w.heap.size _ L rfl (owns_keep HO5.out (below1 _ _)) w5.heap.size (writeS 0 s) flushS rfl (news6 (by simp [go_sem, writeS]) (by simp [go_sem, writeS]) (by simp [go_sem, writeS]) (by simp [go_sem, flushS]) (by simp [go_sem, flushS]) (by simp [go_sem, flushS])) (by omega) (Nat.le_trans HB5.out.size (by simp)) ?_)
      intro v' w' hown' hg'
      have HB' : Hid (Below w.heap.size w w') := (HB5.out.alloc HB5.out.size _).grown hg' (Nat.le_trans HB5.out.size (by simp)) (fun j hj => (HO5.out.lt j hj).1)
      obtain ⟨a2, c2, hv, hS2, hF2⟩ := SegSt.of_owns hown'
      have HF2 := hide hF2
      have HCAP := hide (own_cap hown' hv)
      have HS2 := hide hS2
      subst hv
      clear hown' hg' hS2 hF2 HO5 HB5
      go_wp2
      exact bodyPost_ret (v := .tuple #[.slice a2 (L ++ [writeS 0 s, flushS]).length c2, .int .i64 0]) (by simp [results, Tryz.results20, go_sem]) rfl ⟨a2, c2, by rw [HE.out, HT.out], by rw [HT.out]; exact HCAP.out, by rw [HT.out]; exact HS2.out, HB'.out, HF2.out⟩
  · have HE : Hid (checkE l p seq = goodM m) := by rw [Hid, checkE, ← HM.out, if_pos (by simpa using hg)]
    have HT : Hid (checkS l p seq = []) := by rw [Hid, checkS, HE.out, if_neg hg]
    have hg' : (goodM m != 0) = true := by simpa using hg
    have HB1 := hide hb1
    clear hb1
    generalize goodM m = G at *
    go_wp2
    exact bodyPost_ret (v := .tuple #[.slice none 0 0, .int .i64 G]) (by simp [results, Tryz.results20, go_sem]) rfl ⟨none, 0, by rw [HE.out, HT.out]; rfl, by rw [HT.out]; exact Nat.le_refl _, by rw [HT.out]; exact .inl rfl, HB1.out, fun _ _ e => by cases e⟩
theorem check_cap (a : Option Addr) (c : Nat) (l : List (Int × ByteArray)) (p seq : Int) (w : World) (h : SegW w a l) (hn : l.length * 24 ≤ 140737488355328) :
    Calls Tryz.prog 20 #[.slice a l.length c, .int .i64 p, .int .i64 seq] w fun e w' => ∃ a2 c2, e = .returned (.tuple #[.slice a2 (checkS l p seq).length c2, .int .i64 (checkE l p seq)]) ∧ (checkS l p seq).length ≤ c2 ∧ SegSt w' a2 (checkS l p seq) ∧ Below w.heap.size w w' :=
  (check_from a c l p seq w h hn).mono fun _ _ ⟨a2, c2, h1, h2, h3, h4, _⟩ => ⟨a2, c2, h1, h2, h3, h4⟩
theorem check_any (a : Option Addr) (c : Nat) (l : List (Int × ByteArray)) (p seq : Int) (w : World) (h : SegW w a l) (hn : l.length * 24 ≤ 140737488355328) :
    Calls Tryz.prog 20 #[.slice a l.length c, .int .i64 p, .int .i64 seq] w fun e w' => ∃ a2 c2, e = .returned (.tuple #[.slice a2 (checkS l p seq).length c2, .int .i64 (checkE l p seq)]) ∧ SegSt w' a2 (checkS l p seq) ∧ Below w.heap.size w w' :=
  (check_cap a c l p seq w h hn).mono fun _ _ ⟨a2, c2, h1, _, h3, h4⟩ => ⟨a2, c2, h1, h3, h4⟩

end Go.Proofs.YtjnpndfpajjihabGreat
