/-
  The walks of slices.IndexFunc and ContainsFunc at []api.Copy and []api.Handle, of slices.Contains at []int; of package txn's fit, Get, holds, named and Open.
  The walks of slices.IndexFunc and ContainsFunc at []api.Copy and []api.Handle, of slices.Contains at []int; of package txn's fit, Get, holds, named and Open.
  The walks of package txn's named and Open.
-/
import Derived.Test.YtjnpndfpajjihabGreatGrSealWhole26
import Derived.Shelf.Abstract
namespace Go.Proofs.YtjnpndfpajjihabGreat
open Go.RowKit

/-- What is told of the first one that is so. -/
def Found {α : Type} (p : α → Bool) (l : List α) (i : Int) : Prop := (i = -1 ∧ l.any p = false) ∨ ∃ (k : Nat) (x : α), i = (k : Int) ∧ l[k]? = some x ∧ p x = true ∧ (l.take k).any p = false
theorem found_any {α : Type} {p : α → Bool} {l : List α} {i : Int} (h : Found p l i) : l.any p = decide (0 ≤ i) := by
  rcases h with ⟨rfl, h⟩ | ⟨k, x, rfl, h, hp, _⟩
  · rw [h]; rfl
  · rw [any_hit h hp]; simp

set_option maxHeartbeats 2000000 in
theorem idxC_any (p : Int × ByteArray → Bool) (g : Nat) (lb : Array Value) (eg : ∀ args w, (callFunc g args).run Tryz.prog w = .ok (.enter g args) w) (a : Option Addr) (c : Nat) (l : List (Int × ByteArray)) (w : World) (h : SegW w a l) (hn : l.length ≤ maxLen)
    (hp : ∀ (x : Int × ByteArray) (W : World), Below w.heap.size w W → Calls Tryz.prog g (#[.agg #[.int .i64 x.1, .string x.2]] ++ lb) W fun e w' => e = .returned (.bool (p x)) ∧ Below w.heap.size w w') :
    Calls Tryz.prog 54 #[.slice a l.length c, .func (.func g) #[] lb] w fun e w' => ∃ i : Int, e = .returned (.int .i64 i) ∧ Found p l i ∧ Below w.heap.size w w' := by
  unfold maxLen at hn
  have HS := hide h
  have HP := hide hp
  clear h hp
  go_enter Tryz.func54, Tryz.ntmps54
  go_wp2
  go_loopw [8] (fun i wr => ∃ k : Nat, k ≤ l.length ∧ i = .int .i64 k ∧ Hid ((l.take k).any p = false) ∧ Below w.heap.size w wr) (fun i _ => l.length - (intOf i).toNat)
  case atStart => exact ⟨0, Nat.zero_le _, rfl, by simp [Hid], Below.refl _ _⟩
  case round =>
    obtain ⟨k, hk, rfl, hr, hbr⟩ := hrel
    by_cases hlt : k < l.length
    · obtain ⟨b2, off, rfl, hb, hc⟩ := HS.out.resolve_left (by intro e; rw [e] at hlt; simp at hlt)
      obtain ⟨x, hx⟩ : ∃ x, x = l.getD k (0, ByteArray.empty) := ⟨_, rfl⟩
      obtain ⟨hc1, hc2⟩ := hc k hlt
      rw [← hx] at hc1 hc2
      have HX : Hid (l[k]? = some x) := by rw [hx]; exact getD_at _ _ _ hlt
      have g1 := cellKeep hbr hb hc1
      have g2 := cellKeep hbr hb hc2
      have hcall := HP.out x wr hbr
      clear hx hc hc1 hc2
      obtain ⟨n, t⟩ := x
      have hlt' : (k : Int) < (l.length : Int) := by omega
      cases hq : p (n, t) with
      | true =>
        have HF : Hid (Found p l (k : Int)) := .inr ⟨k, (n, t), rfl, HX.out, hq, hr.out⟩
        rw [hq] at hcall
        clear hr HP
        go_wp2_with fail
        refine hcall.mono ?_
        rintro e w' ⟨rfl, hb'⟩
        go_wp2
        go_ret
        exact ⟨_, rfl, HF.out, hb'⟩
      | false =>
        have HR := hide (any_miss HX.out hq hr.out)
        rw [hq] at hcall
        clear hr HP
        go_wp2_with fail
        refine hcall.mono ?_
        rintro e w' ⟨rfl, hb'⟩
        go_wp2
        go_roundw
        case rel => exact ⟨k + 1, by omega, by go_num, HR, hb'⟩
        case measure => simp [intOf]; omega
    · have HF : Hid (Found p l (-1)) := .inl ⟨rfl, by have := hr.out; rw [List.take_of_length_le (by omega)] at this; exact this⟩
      clear hr HP
      go_wp2
      go_ret
      exact ⟨_, rfl, HF.out, hbr⟩

set_option maxHeartbeats 2000000 in
theorem containsC_any (p : Int × ByteArray → Bool) (g : Nat) (lb : Array Value) (eg : ∀ args w, (callFunc g args).run Tryz.prog w = .ok (.enter g args) w) (a : Option Addr) (c : Nat) (l : List (Int × ByteArray)) (w : World) (h : SegW w a l) (hn : l.length ≤ maxLen)
    (hp : ∀ (x : Int × ByteArray) (W : World), Below w.heap.size w W → Calls Tryz.prog g (#[.agg #[.int .i64 x.1, .string x.2]] ++ lb) W fun e w' => e = .returned (.bool (p x)) ∧ Below w.heap.size w w') :
    Calls Tryz.prog 74 #[.slice a l.length c, .func (.func g) #[] lb] w fun e w' => e = .returned (.bool (l.any p)) ∧ Below w.heap.size w w' := by
  go_enter Tryz.func74, Tryz.ntmps74
  go_wp2_with fail
  refine (idxC_any p g lb eg a c l w h hn hp).mono ?_
  rintro e w1 ⟨i, rfl, hf, hb⟩
  have HF := hide (found_any hf)
  clear hf
  go_wp2
  go_ret
  exact ⟨by rw [HF.out]; rfl, hb⟩

set_option maxHeartbeats 400000 in
theorem fitLit_any (x : Int × ByteArray) (W : World) :
    Calls Tryz.prog 155 (#[.agg #[.int .i64 x.1, .string x.2]] ++ #[]) W fun e w' => e = .returned (.bool (!fitsB x.2)) ∧ Below W.heap.size W w' := by
  obtain ⟨n, t⟩ := x
  show Calls Tryz.prog 155 #[.agg #[.int .i64 n, .string t]] W _
  go_enter Tryz.func155, Tryz.ntmps155
  go_wp2
  go_ret
  exact ⟨rfl, below1 _ _⟩

theorem fitsAll_any (l : List (Int × ByteArray)) : fitsAll l = !l.any fun x => !fitsB x.2 := by
  simp [fitsAll, List.all_eq_not_any_not]

set_option maxHeartbeats 400000 in
theorem tFit_any (a : Option Addr) (c : Nat) (l : List (Int × ByteArray)) (w : World) (h : SegW w a l) (hn : l.length ≤ maxLen) :
    Calls Tryz.prog 125 #[.slice a l.length c] w fun e w' => e = .returned (.bool (fitsAll l)) ∧ Below w.heap.size w w' := by
  rw [fitsAll_any]
  go_enter Tryz.func125, Tryz.ntmps125
  go_wp2_with fail
  refine (containsC_any (fun x => !fitsB x.2) 155 #[] (Go.Proofs.enters_of Tryz.func155 (by kernel_rfl) rfl) a c l w h hn (fun x W hb => (fitLit_any x W).mono fun _ _ ⟨h1, h2⟩ => ⟨h1, hb.trans (h2.mono hb.size)⟩)).mono ?_
  rintro e w1 ⟨rfl, hb⟩
  go_wp2
  go_ret
  exact ⟨rfl, hb⟩

set_option maxHeartbeats 400000 in
theorem getLit_any (B : Nat) (b : Int) (x : Int × ByteArray) (W : World) (hB : B < W.heap.size) (hc : W.cell? ⟨B, 0, none⟩ = some (.int .i64 b)) :
    Calls Tryz.prog 55 (#[.agg #[.int .i64 x.1, .string x.2]] ++ #[.pointer (some ⟨B, 0, none⟩)]) W fun e w' => e = .returned (.bool (x.1 == b)) ∧ Below W.heap.size W w' := by
  obtain ⟨n, t⟩ := x
  show Calls Tryz.prog 55 #[.agg #[.int .i64 n, .string t], .pointer (some ⟨B, 0, none⟩)] W _
  have hne : B ≠ W.heap.size := by omega
  go_enter Tryz.func55, Tryz.ntmps55
  go_wp2
  go_ret
  exact ⟨rfl, below1 _ _⟩

theorem text_any (l : List (Int × ByteArray)) (b : Int) : (textIn b l).isSome = l.any fun x => x.1 == b := by
  induction l with
  | nil => rfl
  | cons x r ih =>
    rw [textIn, List.any_cons]
    by_cases e : x.1 = b
    · simp [e]
    · rw [if_neg e, ih, show (x.1 == b) = false from by simpa using e]; rfl
theorem text_none {l : List (Int × ByteArray)} {b : Int} (h : (l.any fun x => x.1 == b) = false) : textIn b l = none := by
  have := text_any l b
  rw [h] at this
  cases e : textIn b l with
  | none => rfl
  | some t => rw [e] at this; cases this

set_option maxHeartbeats 1000000 in
theorem tGet_any (a : Option Addr) (c : Nat) (l : List (Int × ByteArray)) (b : Int) (w : World) (h : SegW w a l) (hn : l.length ≤ maxLen) :
    Calls Tryz.prog 13 #[.slice a l.length c, .int .i64 b] w fun e w' => e = .returned (.tuple #[.string ((textIn b l).getD ⟨#[]⟩), .bool (textIn b l).isSome]) ∧ Below w.heap.size w w' := by
  have HS := hide h
  clear h
  go_enter Tryz.func13, Tryz.ntmps13
  go_wp2_with fail
  refine (idxC_any (fun x => x.1 == b) 55 #[.pointer (some ⟨w.heap.size, 0, none⟩)] (Go.Proofs.enters_of Tryz.func55 (by kernel_rfl) rfl) a c l _ (HS.out.below (below1 _ _)) hn (fun x W hb => (getLit_any w.heap.size b x W (by have := hb.size; simp at this; omega) ((hb.cell (p := ⟨w.heap.size, 0, none⟩) (by simp)).trans (by simp [go_sem]))).mono fun _ _ ⟨h1, h2⟩ => ⟨h1, hb.trans (h2.mono hb.size)⟩)).mono ?_
  rintro e w1 ⟨i, rfl, hf, hb1⟩
  have HB := hide (bthen (below1 _ _) hb1)
  have HS1 := hide (HS.out.below HB.out)
  clear hb1
  rcases hf with ⟨rfl, hf⟩ | ⟨k, x, rfl, hx, hp, ht⟩
  · have HT : Hid (textIn b l = none) := text_none hf
    clear hf
    go_wp2
    go_ret2
    exact ⟨by rw [HT.out]; rfl, HB.out⟩
  · have hp' : x.1 = b := by simpa using hp
    have HT : Hid (textIn b l = some x.2) := text_hit hx hp' (text_none ht)
    have hlt : k < l.length := (List.getElem?_eq_some_iff.1 hx).1
    obtain ⟨b2, off, rfl, hb, hc⟩ := HS1.out.resolve_left (by intro e; rw [e] at hlt; simp at hlt)
    have hg := (hc k hlt).2
    have hxx : l.getD k (0, ByteArray.empty) = x := by rw [List.getD, hx]; rfl
    rw [hxx] at hg
    unfold maxLen at hn
    have hlt' : (k : Int) < (l.length : Int) := by omega
    clear hc hx hp ht hp' hxx
    go_wp2
    go_ret2
    exact ⟨by rw [HT.out]; rfl, HB.out⟩
end Go.Proofs.YtjnpndfpajjihabGreat

namespace Go.Proofs.YtjnpndfpajjihabGreat
open Go.RowKit

set_option maxHeartbeats 400000 in
theorem holds_any (a : Option Addr) (c : Nat) (l : List (Int × ByteArray)) (b : Int) (w : World) (h : SegW w a l) (hn : l.length ≤ maxLen) :
    Calls Tryz.prog 37 #[.slice a l.length c, .int .i64 b] w fun e w' => e = .returned (.bool (textIn b l).isSome) ∧ Below w.heap.size w w' := by
  go_enter Tryz.func37, Tryz.ntmps37
  go_wp2_with fail
  refine (tGet_any a c l b w h hn).mono ?_
  rintro e w1 ⟨rfl, hb1⟩
  go_wp2
  go_ret
  exact ⟨rfl, hb1⟩

set_option maxHeartbeats 1000000 in
theorem indexI_any (a : Option Addr) (c : Nat) (l : List Int) (b : Int) (w : World) (h : SegI w a l) (hn : l.length ≤ maxLen) :
    Calls Tryz.prog 98 #[.slice a l.length c, .int .i64 b] w fun e w' => ∃ i : Int, e = .returned (.int .i64 i) ∧ Found (· == b) l i ∧ w = w' := by
  unfold maxLen at hn
  have HS := hide h
  clear h
  go_enter Tryz.func98, Tryz.ntmps98
  go_wp2
  go_loop [8] (fun i => ∃ k : Nat, k ≤ l.length ∧ i = .int .i64 k ∧ Hid ((l.take k).any (· == b) = false)) (fun i => l.length - (intOf i).toNat)
  case atStart => exact ⟨0, Nat.zero_le _, rfl, by simp [Hid]⟩
  case round =>
    obtain ⟨k, hk, rfl, hr⟩ := hrel
    by_cases hlt : k < l.length
    · obtain ⟨b2, off, rfl, hb, hc⟩ := HS.out.resolve_left (by intro e; rw [e] at hlt; simp at hlt)
      obtain ⟨x, hx⟩ : ∃ x, x = l.getD k 0 := ⟨_, rfl⟩
      have hck := hc k hlt
      rw [← hx] at hck
      have HX : Hid (l[k]? = some x) := by rw [hx]; exact getD_at _ _ _ hlt
      clear hx hc
      have hlt' : (k : Int) < (l.length : Int) := by omega
      by_cases he : x = b
      · have HF : Hid (Found (· == b) l (k : Int)) := .inr ⟨k, x, rfl, HX.out, by simpa using he, hr.out⟩
        subst he
        clear hr
        go_wp2
        go_ret
        exact ⟨_, rfl, HF.out, rfl⟩
      · have HR := hide (any_miss HX.out (show (x == b) = false by simpa using he) hr.out)
        have he' : ¬ b = x := fun e => he e.symm
        clear hr
        go_wp2
        go_round
        case rel => exact ⟨k + 1, by omega, by go_num, HR⟩
        case measure => simp [intOf]; omega
    · have HF : Hid (Found (· == b) l (-1)) := .inl ⟨rfl, by have := hr.out; rw [List.take_of_length_le (by omega)] at this; exact this⟩
      clear hr
      go_wp2
      go_ret
      exact ⟨_, rfl, HF.out, rfl⟩

set_option maxHeartbeats 400000 in
theorem containsI_any (a : Option Addr) (c : Nat) (l : List Int) (b : Int) (w : World) (h : SegI w a l) (hn : l.length ≤ maxLen) :
    Calls Tryz.prog 51 #[.slice a l.length c, .int .i64 b] w fun e w' => e = .returned (.bool (amongB l b)) ∧ w = w' := by
  go_enter Tryz.func51, Tryz.ntmps51
  go_wp2_with fail
  refine (indexI_any a c l b w h hn).mono ?_
  rintro e w1 ⟨i, rfl, hf, rfl⟩
  have HF : Hid (amongB l b = decide (0 ≤ i)) := found_any hf
  clear hf
  go_wp2
  go_ret
  exact ⟨by rw [HF.out]; rfl, rfl⟩

end Go.Proofs.YtjnpndfpajjihabGreat

namespace Go.Proofs.YtjnpndfpajjihabGreat
open Go.RowKit

set_option maxHeartbeats 1000000 in
theorem named_any (v : Value) (t : Tx) (b : Int) (w : World) (hT : IsTx w v t) :
    Calls Tryz.prog 50 #[v, .int .i64 b] w fun e w' => e = .returned (.bool (namedB t b)) ∧ Below w.heap.size w w' := by
  obtain ⟨a, c, a', c', r, d, rfl, hM, hD, hR, n1, n2, n3⟩ := hT
  have HM := hide hM
  have HR := hide hR
  have N3 := hide n3
  clear hM hD hR n3
  go_enter Tryz.func50, Tryz.ntmps50
  go_wp2_with fail
  refine (holds_any a c t.info b _ (HM.out.below (below1 _ _)) n1).mono ?_
  rintro e w1 ⟨rfl, hb1⟩
  have hs1 : w.heap.size < w1.heap.size := by have := hb1.size; simp at this; omega
  obtain ⟨⟨_, _, _, x3, _⟩, _⟩ := box10 (one1 hb1)
  have HB := hide (bthen (below1 _ _) hb1)
  have HR1 := hide (HR.out.below HB.out)
  clear hb1
  cases hi : (textIn b t.info).isSome with
  | true =>
    have HN : Hid (namedB t b = true) := by rw [Hid, namedB, hi]; rfl
    go_wp2
    go_ret
    exact ⟨by rw [HN.out]; rfl, HB.out⟩
  | false =>
    have HN : Hid (namedB t b = amongB t.rev b) := by rw [Hid, namedB, hi]; rfl
    go_wp2_with fail
    refine (containsI_any r d t.rev b _ HR1.out N3.out).mono ?_
    rintro e w2 ⟨rfl, rfl⟩
    go_wp2
    go_ret
    exact ⟨by rw [HN.out]; rfl, HB.out⟩

set_option maxHeartbeats 400000 in
theorem openLit_any (o : Bool) (l : Int) (W : World) :
    Calls Tryz.prog 104 #[.agg #[.bool o, .int .i64 l]] W fun e w' => e = .returned (.bool o) ∧ Below W.heap.size W w' := by
  go_enter Tryz.func104, Tryz.ntmps104
  go_wp2
  go_ret
  exact ⟨rfl, below1 _ _⟩

/-- Three handles at an address. -/
def SegH (w : World) (B off : Nat) (x0 x1 x2 : Hd) : Prop :=
  B < w.heap.size ∧ (w.cell? ⟨B, off, none⟩ = some (.bool x0.on) ∧ w.cell? ⟨B, off + 1, none⟩ = some (.int .i64 x0.left)) ∧ (w.cell? ⟨B, off + 2, none⟩ = some (.bool x1.on) ∧ w.cell? ⟨B, off + 3, none⟩ = some (.int .i64 x1.left)) ∧ (w.cell? ⟨B, off + 4, none⟩ = some (.bool x2.on) ∧ w.cell? ⟨B, off + 5, none⟩ = some (.int .i64 x2.left))

set_option maxHeartbeats 2000000 in
set_option maxRecDepth 100000 in
theorem idxH_any (B : Nat) (x0 x1 x2 : Hd) (w : World) (h : SegH w B 4 x0 x1 x2) :
    Calls Tryz.prog 141 #[.slice (some ⟨B, 4, none⟩) 3 3, .func (.func 104) #[] #[]] w fun e w' => ∃ i : Int, e = .returned (.int .i64 i) ∧ (x0.on || x1.on || x2.on) = decide (0 ≤ i) ∧ Below w.heap.size w w' := by
  obtain ⟨o0, l0⟩ := x0
  obtain ⟨o1, l1⟩ := x1
  obtain ⟨o2, l2⟩ := x2
  obtain ⟨hB, ⟨a0, b0⟩, ⟨a1, b1⟩, a2, b2⟩ := h
  simp only [Nat.reduceAdd] at a0 a1 a2 b0 b1 b2
  go_enter Tryz.func141, Tryz.ntmps141
  go_wp2
  refine wp_loop_rounds 4 ?_
  rw [rounds_succ]
  go_wp2_with fail
  refine (openLit_any o0 l0 _).mono ?_
  rintro e w1 ⟨rfl, hb1⟩
  cases o0 with
  | true =>
    go_wp2
    go_ret
    exact ⟨_, rfl, by simp, hb1⟩
  | false =>
    have c1 := cellKeep hb1 hB a1
    have d1 := cellKeep hb1 hB b1
    have c2 := cellKeep hb1 hB a2
    have d2 := cellKeep hb1 hB b2
    have hB1 : B < w1.heap.size := Nat.lt_of_lt_of_le hB hb1.size
    clear a0 b0 a1 b1 a2 b2
    go_wp2
    rw [rounds_succ]
    go_wp2_with fail
    refine (openLit_any o1 l1 _).mono ?_
    rintro e w2 ⟨rfl, hb2⟩
    have hb12 := bthen hb1 hb2
    cases o1 with
    | true =>
      go_wp2
      go_ret
      exact ⟨_, rfl, by simp, hb12⟩
    | false =>
      have e2 := cellKeep hb2 hB1 c2
      have f2 := cellKeep hb2 hB1 d2
      clear c1 d1 c2 d2 hb1 hb2
      go_wp2
      rw [rounds_succ]
      go_wp2_with fail
      refine (openLit_any o2 l2 _).mono ?_
      rintro e w3 ⟨rfl, hb3⟩
      have hb13 := bthen hb12 hb3
      clear e2 f2 hb12 hb3
      cases o2 with
      | true =>
        go_wp2
        go_ret
        exact ⟨_, rfl, by simp, hb13⟩
      | false =>
        go_wp2
        rw [rounds_succ]
        go_wp2
        go_ret
        exact ⟨_, rfl, by simp, hb13⟩

set_option maxHeartbeats 1000000 in
theorem containsH_any (B : Nat) (x0 x1 x2 : Hd) (w : World) (h : SegH w B 4 x0 x1 x2) :
    Calls Tryz.prog 103 #[.slice (some ⟨B, 4, none⟩) 3 3, .func (.func 104) #[] #[]] w fun e w' => e = .returned (.bool (x0.on || x1.on || x2.on)) ∧ Below w.heap.size w w' := by
  go_enter Tryz.func103, Tryz.ntmps103
  go_wp2_with fail
  refine (idxH_any B x0 x1 x2 w h).mono ?_
  rintro e w1 ⟨i, rfl, hi, hb1⟩
  have HI := hide hi
  clear hi
  go_wp2
  go_ret
  exact ⟨by rw [HI.out]; rfl, hb1⟩

set_option maxHeartbeats 1000000 in
set_option maxRecDepth 100000 in
theorem tOpenV_any (q : Int) (a : Option Addr) (n c : Nat) (a' : Option Addr) (n' c' : Nat) (r : Option Addr) (m d : Nat) (y0 y1 y2 : Hd) (w : World) :
    Calls Tryz.prog 58 #[.agg #[.int .i64 q, .slice a n c, .slice a' n' c', .slice r m d, .bool y0.on, .int .i64 y0.left, .bool y1.on, .int .i64 y1.left, .bool y2.on, .int .i64 y2.left]] w fun e w' => e = .returned (.bool (y0.on || y1.on || y2.on)) ∧ Below w.heap.size w w' := by
  go_enter Tryz.func58, Tryz.ntmps58
  go_wp2_with fail
  refine (containsH_any w.heap.size y0 y1 y2 _ ⟨by simp, ⟨by simp [go_sem], by simp [go_sem]⟩, ⟨by simp [go_sem], by simp [go_sem]⟩, by simp [go_sem], by simp [go_sem]⟩).mono ?_
  rintro e w1 ⟨rfl, hb1⟩
  go_wp2
  go_ret
  exact ⟨rfl, bthen (below1 _ _) hb1⟩
theorem tOpen_any (v : Value) (t : Tx) (w : World) (hT : IsTx w v t) :
    Calls Tryz.prog 58 #[v] w fun e w' => e = .returned (.bool (openB t)) ∧ Below w.heap.size w w' := by
  obtain ⟨a, c, a', c', r, d, rfl, _, _, _, _, _, _⟩ := hT
  exact tOpenV_any _ _ _ _ _ _ _ _ _ _ t.h0 t.h1 t.h2 w

end Go.Proofs.YtjnpndfpajjihabGreat
