/-
  The walks of slices.IndexFunc and ContainsFunc at []api.Copy and []api.Handle, of slices.Contains at []int; of package txn's fit, Get, holds, named and Open.
  The walks of package seal's isNoCopy and Check.
-/
import Derived.Test.YtjnpndfpajjihabGreatGrSealWhole29
import Derived.Shelf.Abstract
import Derived.Test.YtjnpndfpajjihabGreatGrSealWhole28
import Derived.Test.YtjnpndfpajjihabGreatSEncode
import Derived.Test.YtjnpndfpajjihabGreatGrSealWhole1
namespace Go.Proofs.YtjnpndfpajjihabGreat
open Go.RowKit

/-- What is told of the first one that is so. -/
def Found {α : Type} (p : α → Bool) (l : List α) (i : Int) : Prop := (i = -1 ∧ l.any p = false) ∨ ∃ (k : Nat) (x : α), i = (k : Int) ∧ l[k]? = some x ∧ p x = true ∧ (l.take k).any p = false
theorem found_any {α : Type} {p : α → Bool} {l : List α} {i : Int} (h : Found p l i) : l.any p = decide (0 ≤ i) := by
  rcases h with ⟨rfl, h⟩ | ⟨k, x, rfl, h, hp, _⟩
  · rw [h]; rfl
  · rw [any_hit h hp]; simp

set_option maxHeartbeats 2000000 in
theorem idxC_any (p : Int × ByteArray → Bool) (g : Nat) (lb : Array Value) (eg : ∀ args w, (callFunc g args).run Tryz.prog w = .ok (.enter g args) w) (a : Option Addr) (c : Nat) (l : List (Int × ByteArray)) (w : World) (h : SegW w a l) (hn : l.length ≤ maxLen)
    (hp : ∀ (x : Int × ByteArray) (W : World), Below w.heap.size w W → Calls Tryz.prog g (#[.agg #[.int .i64 x.1, .string x.2]] ++ lb) W fun e w' => e = .returned (.bool (p x)) ∧ Below w.heap.size w w') :
    Calls Tryz.prog 54 #[.slice a l.length c, .func (.func g) #[] lb] w fun e w' => ∃ i : Int, e = .returned (.int .i64 i) ∧ Found p l i ∧ Below w.heap.size w w' := by
  unfold maxLen at hn
  have HS := hide h
  have HP := hide hp
  clear h hp
  go_enter Tryz.func54, Tryz.ntmps54
  go_wp2
  go_loopw [8] (fun i wr => ∃ k : Nat, k ≤ l.length ∧ i = .int .i64 k ∧ Hid ((l.take k).any p = false) ∧ Below w.heap.size w wr) (fun i _ => l.length - (intOf i).toNat)
  case atStart => exact ⟨0, Nat.zero_le _, rfl, by simp [Hid], Below.refl _ _⟩
  case round =>
    obtain ⟨k, hk, rfl, hr, hbr⟩ := hrel
    by_cases hlt : k < l.length
    · obtain ⟨b2, off, rfl, hb, hc⟩ := HS.out.resolve_left (by intro e; rw [e] at hlt; simp at hlt)
      obtain ⟨x, hx⟩ : ∃ x, x = l.getD k (0, ByteArray.empty) := ⟨_, rfl⟩
      obtain ⟨hc1, hc2⟩ := hc k hlt
      rw [← hx] at hc1 hc2
      have HX : Hid (l[k]? = some x) := by rw [hx]; exact getD_at _ _ _ hlt
      have g1 := cellKeep hbr hb hc1
      have g2 := cellKeep hbr hb hc2
      have hcall := HP.out x wr hbr
      clear hx hc hc1 hc2
      obtain ⟨n, t⟩ := x
      have hlt' : (k : Int) < (l.length : Int) := by omega
      cases hq : p (n, t) with
      | true =>
        have HF : Hid (Found p l (k : Int)) := .inr ⟨k, (n, t), rfl, HX.out, hq, hr.out⟩
        rw [hq] at hcall
        clear hr HP
        go_wp2_with fail
        refine hcall.mono ?_
        rintro e w' ⟨rfl, hb'⟩
        go_wp2
        go_ret
        exact ⟨_, rfl, HF.out, hb'⟩
      | false =>
        have HR := hide (any_miss HX.out hq hr.out)
        rw [hq] at hcall
        clear hr HP
        go_wp2_with fail
        refine hcall.mono ?_
        rintro e w' ⟨rfl, hb'⟩
        go_wp2
        go_roundw
        case rel => exact ⟨k + 1, by omega, by go_num, HR, hb'⟩
        case measure => simp [intOf]; omega
    · have HF : Hid (Found p l (-1)) := .inl ⟨rfl, by have := hr.out; rw [List.take_of_length_le (by omega)] at this; exact this⟩
      clear hr HP
      go_wp2
      go_ret
      exact ⟨_, rfl, HF.out, hbr⟩

set_option maxHeartbeats 2000000 in
theorem containsC_any (p : Int × ByteArray → Bool) (g : Nat) (lb : Array Value) (eg : ∀ args w, (callFunc g args).run Tryz.prog w = .ok (.enter g args) w) (a : Option Addr) (c : Nat) (l : List (Int × ByteArray)) (w : World) (h : SegW w a l) (hn : l.length ≤ maxLen)
    (hp : ∀ (x : Int × ByteArray) (W : World), Below w.heap.size w W → Calls Tryz.prog g (#[.agg #[.int .i64 x.1, .string x.2]] ++ lb) W fun e w' => e = .returned (.bool (p x)) ∧ Below w.heap.size w w') :
    Calls Tryz.prog 74 #[.slice a l.length c, .func (.func g) #[] lb] w fun e w' => e = .returned (.bool (l.any p)) ∧ Below w.heap.size w w' := by
  go_enter Tryz.func74, Tryz.ntmps74
  go_wp2_with fail
  refine (idxC_any p g lb eg a c l w h hn hp).mono ?_
  rintro e w1 ⟨i, rfl, hf, hb⟩
  have HF := hide (found_any hf)
  clear hf
  go_wp2
  go_ret
  exact ⟨by rw [HF.out]; rfl, hb⟩

set_option maxHeartbeats 400000 in
theorem fitLit_any (x : Int × ByteArray) (W : World) :
    Calls Tryz.prog 155 (#[.agg #[.int .i64 x.1, .string x.2]] ++ #[]) W fun e w' => e = .returned (.bool (!fitsB x.2)) ∧ Below W.heap.size W w' := by
  obtain ⟨n, t⟩ := x
  show Calls Tryz.prog 155 #[.agg #[.int .i64 n, .string t]] W _
  go_enter Tryz.func155, Tryz.ntmps155
  go_wp2
  go_ret
  exact ⟨rfl, below1 _ _⟩

theorem fitsAll_any (l : List (Int × ByteArray)) : fitsAll l = !l.any fun x => !fitsB x.2 := by
  simp [fitsAll, List.all_eq_not_any_not]

set_option maxHeartbeats 400000 in
theorem tFit_any (a : Option Addr) (c : Nat) (l : List (Int × ByteArray)) (w : World) (h : SegW w a l) (hn : l.length ≤ maxLen) :
    Calls Tryz.prog 125 #[.slice a l.length c] w fun e w' => e = .returned (.bool (fitsAll l)) ∧ Below w.heap.size w w' := by
  rw [fitsAll_any]
  go_enter Tryz.func125, Tryz.ntmps125
  go_wp2_with fail
  refine (containsC_any (fun x => !fitsB x.2) 155 #[] (Go.Proofs.enters_of Tryz.func155 (by kernel_rfl) rfl) a c l w h hn (fun x W hb => (fitLit_any x W).mono fun _ _ ⟨h1, h2⟩ => ⟨h1, hb.trans (h2.mono hb.size)⟩)).mono ?_
  rintro e w1 ⟨rfl, hb⟩
  go_wp2
  go_ret
  exact ⟨rfl, hb⟩

set_option maxHeartbeats 400000 in
theorem getLit_any (B : Nat) (b : Int) (x : Int × ByteArray) (W : World) (hB : B < W.heap.size) (hc : W.cell? ⟨B, 0, none⟩ = some (.int .i64 b)) :
    Calls Tryz.prog 55 (#[.agg #[.int .i64 x.1, .string x.2]] ++ #[.pointer (some ⟨B, 0, none⟩)]) W fun e w' => e = .returned (.bool (x.1 == b)) ∧ Below W.heap.size W w' := by
  obtain ⟨n, t⟩ := x
  show Calls Tryz.prog 55 #[.agg #[.int .i64 n, .string t], .pointer (some ⟨B, 0, none⟩)] W _
  have hne : B ≠ W.heap.size := by omega
  go_enter Tryz.func55, Tryz.ntmps55
  go_wp2
  go_ret
  exact ⟨rfl, below1 _ _⟩

theorem text_any (l : List (Int × ByteArray)) (b : Int) : (textIn b l).isSome = l.any fun x => x.1 == b := by
  induction l with
  | nil => rfl
  | cons x r ih =>
    rw [textIn, List.any_cons]
    by_cases e : x.1 = b
    · simp [e]
    · rw [if_neg e, ih, show (x.1 == b) = false from by simpa using e]; rfl
theorem text_none {l : List (Int × ByteArray)} {b : Int} (h : (l.any fun x => x.1 == b) = false) : textIn b l = none := by
  have := text_any l b
  rw [h] at this
  cases e : textIn b l with
  | none => rfl
  | some t => rw [e] at this; cases this

set_option maxHeartbeats 1000000 in
theorem tGet_any (a : Option Addr) (c : Nat) (l : List (Int × ByteArray)) (b : Int) (w : World) (h : SegW w a l) (hn : l.length ≤ maxLen) :
    Calls Tryz.prog 13 #[.slice a l.length c, .int .i64 b] w fun e w' => e = .returned (.tuple #[.string ((textIn b l).getD ⟨#[]⟩), .bool (textIn b l).isSome]) ∧ Below w.heap.size w w' := by
  have HS := hide h
  clear h
  go_enter Tryz.func13, Tryz.ntmps13
  go_wp2_with fail
  refine (idxC_any (fun x => x.1 == b) 55 #[.pointer (some ⟨w.heap.size, 0, none⟩)] (Go.Proofs.enters_of Tryz.func55 (by kernel_rfl) rfl) a c l _ (HS.out.below (below1 _ _)) hn (fun x W hb => (getLit_any w.heap.size b x W (by have := hb.size; simp at this; omega) ((hb.cell (p := ⟨w.heap.size, 0, none⟩) (by simp)).trans (by simp [go_sem]))).mono fun _ _ ⟨h1, h2⟩ => ⟨h1, hb.trans (h2.mono hb.size)⟩)).mono ?_
  rintro e w1 ⟨i, rfl, hf, hb1⟩
  have HB := hide (bthen (below1 _ _) hb1)
  have HS1 := hide (HS.out.below HB.out)
  clear hb1
  rcases hf with ⟨rfl, hf⟩ | ⟨k, x, rfl, hx, hp, ht⟩
  · have HT : Hid (textIn b l = none) := text_none hf
    clear hf
    go_wp2
    go_ret2
    exact ⟨by rw [HT.out]; rfl, HB.out⟩
  · have hp' : x.1 = b := by simpa using hp
    have HT : Hid (textIn b l = some x.2) := text_hit hx hp' (text_none ht)
    have hlt : k < l.length := (List.getElem?_eq_some_iff.1 hx).1
    obtain ⟨b2, off, rfl, hb, hc⟩ := HS1.out.resolve_left (by intro e; rw [e] at hlt; simp at hlt)
    have hg := (hc k hlt).2
    have hxx : l.getD k (0, ByteArray.empty) = x := by rw [List.getD, hx]; rfl
    rw [hxx] at hg
    unfold maxLen at hn
    have hlt' : (k : Int) < (l.length : Int) := by omega
    clear hc hx hp ht hp' hxx
    go_wp2
    go_ret2
    exact ⟨by rw [HT.out]; rfl, HB.out⟩
end Go.Proofs.YtjnpndfpajjihabGreat

namespace Go.Proofs.YtjnpndfpajjihabGreat
open Go.RowKit

/-- Is it no copy? A super block; what Check answers. -/
def noCopyB (x : Int × ByteArray) : Bool := !(withinB x.1 0 11 && decide (x.2.size = 32))
def superMk (p seq : Int) : Mk := ⟨1, seq, p, [], []⟩
def checkE (l : List (Int × ByteArray)) (p seq : Int) : Int := if goodM (superMk p seq) ≠ 0 then goodM (superMk p seq) else if l.any noCopyB = true then 1 else 0
def checkS (l : List (Int × ByteArray)) (p seq : Int) : List St := if checkE l p seq = 0 then homeS l ++ [writeS 0 (encT (superMk p seq)), flushS] else []

set_option maxHeartbeats 1000000 in
theorem isNoCopy_any (n : Int) (s : ByteArray) (w : World) :
    Calls Tryz.prog 75 #[.agg #[.int .i64 n, .string s]] w fun e w' => e = .returned (.bool (noCopyB (n, s))) ∧ Below w.heap.size w w' := by
  have e0 : noCopyB (n, s) = (decide (n < 0) || decide (12 ≤ n) || ((s.size : Int) != 32)) := by
    unfold noCopyB withinB
    by_cases h0 : n < 0
    · have : ¬ 0 ≤ n := by omega
      simp [h0, this]
    · by_cases h1 : 12 ≤ n
      · have h2 : ¬ n ≤ 11 := by omega
        simp [h1, h2]
      · have h2 : n ≤ 11 := by omega
        have h3 : 0 ≤ n := by omega
        have h4 : ¬ 12 ≤ n := h1
        by_cases h5 : s.size = 32
        · simp [h0, h2, h3, h4, h5]
        · have h6 : ((s.size : Int) != 32) = true := by rw [bne_iff_ne]; omega
          simp [h0, h2, h3, h4, h5, h6]
  have E0 := hide e0
  clear e0
  go_enter Tryz.func75, Tryz.ntmps75
  by_cases h0 : n < 0
  · go_wp2
    go_ret
    exact ⟨by rw [E0.out]; simp [h0], below1 _ _⟩
  · by_cases h1 : 12 ≤ n
    · go_wp2
      go_ret
      exact ⟨by rw [E0.out]; simp [h1], below1 _ _⟩
    · go_wp2
      go_ret
      exact ⟨by rw [E0.out, show decide (n < 0) = false from decide_eq_false (by omega), show decide (12 ≤ n) = false from decide_eq_false (by omega)]; rfl, below1 _ _⟩

theorem news6 {w : World} {b : Nat} {x y : St} (h0 : w.cell? ⟨b, 0, none⟩ = some (.int .i64 x.1)) (h1 : w.cell? ⟨b, 1, none⟩ = some (.int .i64 x.2.1)) (h2 : w.cell? ⟨b, 2, none⟩ = some (.string x.2.2)) (h3 : w.cell? ⟨b, 3, none⟩ = some (.int .i64 y.1)) (h4 : w.cell? ⟨b, 4, none⟩ = some (.int .i64 y.2.1)) (h5 : w.cell? ⟨b, 5, none⟩ = some (.string y.2.2)) :
    ∀ j u, (cellsSt [x, y])[j]? = some u → w.cell? (Addr.add ⟨b, 0, none⟩ j) = some u := by
  intro j u hj
  rw [Addr.add_lit, Nat.zero_add]
  match j, hj with
  | 0, hj => simp [cellsSt] at hj; subst hj; exact h0
  | 1, hj => simp [cellsSt] at hj; subst hj; exact h1
  | 2, hj => simp [cellsSt] at hj; subst hj; exact h2
  | 3, hj => simp [cellsSt] at hj; subst hj; exact h3
  | 4, hj => simp [cellsSt] at hj; subst hj; exact h4
  | 5, hj => simp [cellsSt] at hj; subst hj; exact h5
  | j + 6, hj => simp [cellsSt] at hj
/-- append of two steps onto a row of the call's own. -/
theorem wpList_appSt2 {w : World} {ops : Array Oper} {rest : List Oper} {o : Oper} {a : Act} {Q : Exit → Act → World → Prop} (hgd : o.guard = none) (s x : Operand)
    (ho : o.op = .call { callee := .builtin .append, args := #[s, x], argTypes := #[42, 42] })
    (base : Nat) (v : Value) (l : List St) (hs : a.eval s = v) (hown : w.ownsRow base 97 3 v l.length (cellsSt l)) (b : Nat) (y z : St) (hx : a.eval x = .slice (some ⟨b, 0, none⟩) 2 2)
    (hnews : ∀ j u, (cellsSt [y, z])[j]? = some u → w.cell? (Addr.add ⟨b, 0, none⟩ j) = some u) (h63 : l.length * 24 ≤ 140737488380000) (hbase : base ≤ w.heap.size)
    (h : ∀ v' w', OwnSt w' base v' (l ++ [y, z]) → w.grownBy w' v.ownBlock → wpList Tryz.prog ops Q rest (a.put o.dst v') w') : wpList Tryz.prog ops Q (o :: rest) a w := by
  obtain ⟨i0, hi, hz0, hz1, hz2⟩ := info_parts infoSt
  refine wpList_append_own_wide w hgd s x 42 ho base 97 i0 (.agg #[.int .i64 0, .int .i64 0, .string ⟨#[]⟩]) 3 32 Tryz.underlying42 hi hz0 hz1 hz2 rfl (by decide) v l.length (cellsSt l) hs hown ⟨b, 0, none⟩ 2 2 (cellsSt [y, z]) hx rfl hnews (cellsSt_one _) (by unfold maxLen; omega) (by omega) hbase ?_
  intro v' w' k1 k2 _
  refine h v' w' ?_ k2
  rw [OwnSt, cellsSt_append, List.length_append]
  exact k1
theorem homeS_le (l : List (Int × ByteArray)) : (homeS l).length ≤ l.length + 1 := by
  rw [homeS, List.length_append, homeM_length]; split <;> simp

set_option maxHeartbeats 4000000 in
set_option maxRecDepth 100000 in
theorem check_cap (a : Option Addr) (c : Nat) (l : List (Int × ByteArray)) (p seq : Int) (w : World) (h : SegW w a l) (hn : l.length * 24 ≤ 140737488355328) :
    Calls Tryz.prog 20 #[.slice a l.length c, .int .i64 p, .int .i64 seq] w fun e w' => ∃ a2 c2, e = .returned (.tuple #[.slice a2 (checkS l p seq).length c2, .int .i64 (checkE l p seq)]) ∧ (checkS l p seq).length ≤ c2 ∧ SegSt w' a2 (checkS l p seq) ∧ Below w.heap.size w w' := by
  have HS := hide h
  clear h
  obtain ⟨m, hm⟩ : ∃ m, m = superMk p seq := ⟨_, rfl⟩
  have HM := hide hm
  have hI : ∀ W, IsMk W (.agg #[.int .i64 1, .int .i64 seq, .int .i64 p, .slice none 0 0, .slice none 0 0]) m := by
    intro W; rw [hm]; exact ⟨none, 0, none, 0, rfl, .inl rfl, .inl rfl, Nat.zero_le _, Nat.zero_le _⟩
  have HI := hide hI
  clear hm hI
  go_enter Tryz.func20, Tryz.ntmps20
  go_wp2_with fail
  refine (stampEncode_any _ m _ (HI.out _)).mono ?_
  rintro e w1 ⟨rfl, hb1⟩
  by_cases hg : goodM m = 0
  · rw [hg]
    have hnl : l.length ≤ maxLen := by unfold maxLen; omega
    obtain ⟨s, hs⟩ : ∃ s, s = encT m := ⟨_, rfl⟩
    rw [← hs]
    have HSE := hide hs
    clear hs
    have HB1 := hide hb1
    clear hb1
    go_wp2_with fail
    refine (containsC_any noCopyB 75 #[] (Go.Proofs.enters_of Tryz.func75 (by kernel_rfl) rfl) a c l _ (HS.out.below HB1.out) hnl (fun x W hb => (isNoCopy_any x.1 x.2 W).mono fun _ _ ⟨h1, h2⟩ => ⟨h1, hb.trans (h2.mono hb.size)⟩)).mono ?_
    rintro e w2 ⟨rfl, hb2⟩
    have HB2 := hide (bthen HB1.out hb2)
    clear hb2 HB1
    cases hc : l.any noCopyB with
    | true =>
      have HE : Hid (checkE l p seq = 1) := by rw [Hid, checkE, ← HM.out, if_neg (by simp [hg]), if_pos hc]
      have HT : Hid (checkS l p seq = []) := by rw [Hid, checkS, HE.out]; rfl
      go_wp2
      exact bodyPost_ret (v := .tuple #[.slice none 0 0, .int .i64 1]) (by simp [results, Tryz.results20, go_sem]) rfl ⟨none, 0, by rw [HE.out, HT.out]; rfl, by rw [HT.out]; exact Nat.le_refl _, by rw [HT.out]; exact .inl rfl, HB2.out⟩
    | false =>
      have HE : Hid (checkE l p seq = 0) := by rw [Hid, checkE, ← HM.out, if_neg (by simp [hg]), if_neg (by simp [hc])]
      have HT : Hid (checkS l p seq = homeS l ++ [writeS 0 s, flushS]) := by rw [Hid, checkS, if_pos HE.out, ← HM.out, ← HSE.out]
      have HBD : Hid (∀ x ∈ l, 0 ≤ x.1 ∧ x.1 ≤ 11) := by
        intro x hx
        have := List.any_eq_false.1 hc x hx
        simp [noCopyB, withinB] at this
        exact this.1
      have hq := homeS_le l
      clear HSE hc HM HI hg
      go_wp2_with fail
      refine (home_any a c l _ (HS.out.below HB2.out) hn HBD.out).mono ?_
      rintro e w3 ⟨v3, rfl, hO3, hb3⟩
      have HO3 := hide (owns_base hO3 HB2.out.size)
      have HB3 := hide (bthen HB2.out hb3)
      clear hO3 hb3 HB2
      generalize homeS l = L at *
      go_wp2_with fail
      refine (write_any 0 s _).mono ?_
      rintro e w4 ⟨rfl, hb4⟩
      have HO4 := hide (owns_keep HO3.out hb4)
      have HB4 := hide (bthen HB3.out hb4)
      clear hb4 HO3 HB3
      go_wp2_with fail
      refine (flush1_any _).mono ?_
      rintro e w5 ⟨rfl, hb5⟩
      have HO5 := hide (owns_keep HO4.out hb5)
      have HB5 := hide (bthen HB4.out hb5)
      clear hb5 HO4 HB4
      go_wp2_with (at_builtin; refine wpList_appSt2 rfl _ _ rfl w.heap.size _ L rfl (owns_keep HO5.out (below1 _ _)) w5.heap.size (writeS 0 s) flushS rfl (news6 (by simp [go_sem, writeS]) (by simp [go_sem, writeS]) (by simp [go_sem, writeS]) (by simp [go_sem, flushS]) (by simp [go_sem, flushS]) (by simp [go_sem, flushS])) (by omega) (Nat.le_trans HB5.out.size (by simp)) ?_)
      intro v' w' hown' hg'
      have HB' : Hid (Below w.heap.size w w') := (HB5.out.alloc HB5.out.size _).grown hg' (Nat.le_trans HB5.out.size (by simp)) (fun j hj => (HO5.out.lt j hj).1)
      obtain ⟨a2, c2, hv, hS2, _⟩ := SegSt.of_owns hown'
      have HCAP := hide (own_cap hown' hv)
      have HS2 := hide hS2
      subst hv
      clear hown' hg' hS2 HO5 HB5
      go_wp2
      exact bodyPost_ret (v := .tuple #[.slice a2 (L ++ [writeS 0 s, flushS]).length c2, .int .i64 0]) (by simp [results, Tryz.results20, go_sem]) rfl ⟨a2, c2, by rw [HE.out, HT.out], by rw [HT.out]; exact HCAP.out, by rw [HT.out]; exact HS2.out, HB'.out⟩
  · have HE : Hid (checkE l p seq = goodM m) := by rw [Hid, checkE, ← HM.out, if_pos (by simpa using hg)]
    have HT : Hid (checkS l p seq = []) := by rw [Hid, checkS, HE.out, if_neg hg]
    have hg' : (goodM m != 0) = true := by simpa using hg
    have HB1 := hide hb1
    clear hb1
    generalize goodM m = G at *
    go_wp2
    exact bodyPost_ret (v := .tuple #[.slice none 0 0, .int .i64 G]) (by simp [results, Tryz.results20, go_sem]) rfl ⟨none, 0, by rw [HE.out, HT.out]; rfl, by rw [HT.out]; exact Nat.le_refl _, by rw [HT.out]; exact .inl rfl, HB1.out⟩

theorem check_any (a : Option Addr) (c : Nat) (l : List (Int × ByteArray)) (p seq : Int) (w : World) (h : SegW w a l) (hn : l.length * 24 ≤ 140737488355328) :
    Calls Tryz.prog 20 #[.slice a l.length c, .int .i64 p, .int .i64 seq] w fun e w' => ∃ a2 c2, e = .returned (.tuple #[.slice a2 (checkS l p seq).length c2, .int .i64 (checkE l p seq)]) ∧ SegSt w' a2 (checkS l p seq) ∧ Below w.heap.size w w' :=
  (check_cap a c l p seq w h hn).mono fun _ _ ⟨a2, c2, h1, _, h3, h4⟩ => ⟨a2, c2, h1, h3, h4⟩

end Go.Proofs.YtjnpndfpajjihabGreat
