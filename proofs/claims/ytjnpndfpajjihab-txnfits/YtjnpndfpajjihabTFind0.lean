/-
  The walks of slices.IndexFunc and ContainsFunc at []api.Copy and []api.Handle, of slices.Contains at []int; of package txn's fit, Get, holds, named and Open.
-/
import Derived.Test.YtjnpndfpajjihabTRise
import Derived.Shelf.Abstract
namespace Go.Proofs.Ytjnpndfpajjihab
open Go.RowKit

/-- What is told of the first one that is so. -/
def Found {α : Type} (p : α → Bool) (l : List α) (i : Int) : Prop := (i = -1 ∧ l.any p = false) ∨ ∃ (k : Nat) (x : α), i = (k : Int) ∧ l[k]? = some x ∧ p x = true ∧ (l.take k).any p = false
theorem found_any {α : Type} {p : α → Bool} {l : List α} {i : Int} (h : Found p l i) : l.any p = decide (0 ≤ i) := by
  rcases h with ⟨rfl, h⟩ | ⟨k, x, rfl, h, hp, _⟩
  · rw [h]; rfl
  · rw [any_hit h hp]; simp

set_option maxHeartbeats 2000000 in
theorem idxC_any (p : Int × ByteArray → Bool) (g : Nat) (lb : Array Value) (eg : ∀ args w, (callFunc g args).run Try.prog w = .ok (.enter g args) w) (a : Option Addr) (c : Nat) (l : List (Int × ByteArray)) (w : World) (h : SegW w a l) (hn : l.length ≤ maxLen)
    (hp : ∀ (x : Int × ByteArray) (W : World), Below w.heap.size w W → Calls Try.prog g (#[.agg #[.int .i64 x.1, .string x.2]] ++ lb) W fun e w' => e = .returned (.bool (p x)) ∧ Below w.heap.size w w') :
    Calls Try.prog 87 #[.slice a l.length c, .func (.func g) #[] lb] w fun e w' => ∃ i : Int, e = .returned (.int .i64 i) ∧ Found p l i ∧ Below w.heap.size w w' := by
  unfold maxLen at hn
  have HS := hide h
  have HP := hide hp
  clear h hp
  go_enter Try.func87, Try.ntmps87
  go_wp2
  go_loopw [8] (fun i wr => ∃ k : Nat, k ≤ l.length ∧ i = .int .i64 k ∧ Hid ((l.take k).any p = false) ∧ Below w.heap.size w wr) (fun i _ => l.length - (intOf i).toNat)
  case atStart => exact ⟨0, Nat.zero_le _, rfl, by simp [Hid], Below.refl _ _⟩
  case round =>
    obtain ⟨k, hk, rfl, hr, hbr⟩ := hrel
    by_cases hlt : k < l.length
    · obtain ⟨b2, off, rfl, hb, hc⟩ := HS.out.resolve_left (by intro e; rw [e] at hlt; simp at hlt)
      obtain ⟨x, hx⟩ : ∃ x, x = l.getD k (0, ByteArray.empty) := ⟨_, rfl⟩
      obtain ⟨hc1, hc2⟩ := hc k hlt
      rw [← hx] at hc1 hc2
      have HX : Hid (l[k]? = some x) := by rw [hx]; exact getD_at _ _ _ hlt
      have g1 := cellKeep hbr hb hc1
      have g2 := cellKeep hbr hb hc2
      have hcall := HP.out x wr hbr
      clear hx hc hc1 hc2
      obtain ⟨n, t⟩ := x
      have hlt' : (k : Int) < (l.length : Int) := by omega
      cases hq : p (n, t) with
      | true =>
        have HF : Hid (Found p l (k : Int)) := .inr ⟨k, (n, t), rfl, HX.out, hq, hr.out⟩
        rw [hq] at hcall
        clear hr HP
        go_wp2_with fail
        refine hcall.mono ?_
        rintro e w' ⟨rfl, hb'⟩
        go_wp2
        go_ret
        exact ⟨_, rfl, HF.out, hb'⟩
      | false =>
        have HR := hide (any_miss HX.out hq hr.out)
        rw [hq] at hcall
        clear hr HP
        go_wp2_with fail
        refine hcall.mono ?_
        rintro e w' ⟨rfl, hb'⟩
        go_wp2
        go_roundw
        case rel => exact ⟨k + 1, by omega, by go_num, HR, hb'⟩
        case measure => simp [intOf]; omega
    · have HF : Hid (Found p l (-1)) := .inl ⟨rfl, by have := hr.out; rw [List.take_of_length_le (by omega)] at this; exact this⟩
      clear hr HP
      go_wp2
      go_ret
      exact ⟨_, rfl, HF.out, hbr⟩

set_option maxHeartbeats 2000000 in
theorem containsC_any (p : Int × ByteArray → Bool) (g : Nat) (lb : Array Value) (eg : ∀ args w, (callFunc g args).run Try.prog w = .ok (.enter g args) w) (a : Option Addr) (c : Nat) (l : List (Int × ByteArray)) (w : World) (h : SegW w a l) (hn : l.length ≤ maxLen)
    (hp : ∀ (x : Int × ByteArray) (W : World), Below w.heap.size w W → Calls Try.prog g (#[.agg #[.int .i64 x.1, .string x.2]] ++ lb) W fun e w' => e = .returned (.bool (p x)) ∧ Below w.heap.size w w') :
    Calls Try.prog 110 #[.slice a l.length c, .func (.func g) #[] lb] w fun e w' => e = .returned (.bool (l.any p)) ∧ Below w.heap.size w w' := by
  go_enter Try.func110, Try.ntmps110
  go_wp2_with fail
  refine (idxC_any p g lb eg a c l w h hn hp).mono ?_
  rintro e w1 ⟨i, rfl, hf, hb⟩
  have HF := hide (found_any hf)
  clear hf
  go_wp2
  go_ret
  exact ⟨by rw [HF.out]; rfl, hb⟩

set_option maxHeartbeats 400000 in
theorem fitLit_any (x : Int × ByteArray) (W : World) :
    Calls Try.prog 120 (#[.agg #[.int .i64 x.1, .string x.2]] ++ #[]) W fun e w' => e = .returned (.bool (!fitsB x.2)) ∧ Below W.heap.size W w' := by
  obtain ⟨n, t⟩ := x
  show Calls Try.prog 120 #[.agg #[.int .i64 n, .string t]] W _
  go_enter Try.func120, Try.ntmps120
  go_wp2
  go_ret
  exact ⟨rfl, below1 _ _⟩

theorem fitsAll_any (l : List (Int × ByteArray)) : fitsAll l = !l.any fun x => !fitsB x.2 := by
  simp [fitsAll, List.all_eq_not_any_not]

set_option maxHeartbeats 400000 in
theorem tFit_any (a : Option Addr) (c : Nat) (l : List (Int × ByteArray)) (w : World) (h : SegW w a l) (hn : l.length ≤ maxLen) :
    Calls Try.prog 69 #[.slice a l.length c] w fun e w' => e = .returned (.bool (fitsAll l)) ∧ Below w.heap.size w w' := by
  rw [fitsAll_any]
  go_enter Try.func69, Try.ntmps69
  go_wp2_with fail
  refine (containsC_any (fun x => !fitsB x.2) 120 #[] (Go.Proofs.enters_of Try.func120 (by kernel_rfl) rfl) a c l w h hn (fun x W hb => (fitLit_any x W).mono fun _ _ ⟨h1, h2⟩ => ⟨h1, hb.trans (h2.mono hb.size)⟩)).mono ?_
  rintro e w1 ⟨rfl, hb⟩
  go_wp2
  go_ret
  exact ⟨rfl, hb⟩

set_option maxHeartbeats 400000 in
theorem getLit_any (B : Nat) (b : Int) (x : Int × ByteArray) (W : World) (hB : B < W.heap.size) (hc : W.cell? ⟨B, 0, none⟩ = some (.int .i64 b)) :
    Calls Try.prog 88 (#[.agg #[.int .i64 x.1, .string x.2]] ++ #[.pointer (some ⟨B, 0, none⟩)]) W fun e w' => e = .returned (.bool (x.1 == b)) ∧ Below W.heap.size W w' := by
  obtain ⟨n, t⟩ := x
  show Calls Try.prog 88 #[.agg #[.int .i64 n, .string t], .pointer (some ⟨B, 0, none⟩)] W _
  have hne : B ≠ W.heap.size := by omega
  go_enter Try.func88, Try.ntmps88
  go_wp2
  go_ret
  exact ⟨rfl, below1 _ _⟩

theorem text_any (l : List (Int × ByteArray)) (b : Int) : (textIn b l).isSome = l.any fun x => x.1 == b := by
  induction l with
  | nil => rfl
  | cons x r ih =>
    rw [textIn, List.any_cons]
    by_cases e : x.1 = b
    · simp [e]
    · rw [if_neg e, ih, show (x.1 == b) = false from by simpa using e]; rfl
theorem text_none {l : List (Int × ByteArray)} {b : Int} (h : (l.any fun x => x.1 == b) = false) : textIn b l = none := by
  have := text_any l b
  rw [h] at this
  cases e : textIn b l with
  | none => rfl
  | some t => rw [e] at this; cases this

set_option maxHeartbeats 1000000 in
theorem tGet_any (a : Option Addr) (c : Nat) (l : List (Int × ByteArray)) (b : Int) (w : World) (h : SegW w a l) (hn : l.length ≤ maxLen) :
    Calls Try.prog 35 #[.slice a l.length c, .int .i64 b] w fun e w' => e = .returned (.tuple #[.string ((textIn b l).getD ⟨#[]⟩), .bool (textIn b l).isSome]) ∧ Below w.heap.size w w' := by
  have HS := hide h
  clear h
  go_enter Try.func35, Try.ntmps35
  go_wp2_with fail
  refine (idxC_any (fun x => x.1 == b) 88 #[.pointer (some ⟨w.heap.size, 0, none⟩)] (Go.Proofs.enters_of Try.func88 (by kernel_rfl) rfl) a c l _ (HS.out.below (below1 _ _)) hn (fun x W hb => (getLit_any w.heap.size b x W (by have := hb.size; simp at this; omega) ((hb.cell (p := ⟨w.heap.size, 0, none⟩) (by simp)).trans (by simp [go_sem]))).mono fun _ _ ⟨h1, h2⟩ => ⟨h1, hb.trans (h2.mono hb.size)⟩)).mono ?_
  rintro e w1 ⟨i, rfl, hf, hb1⟩
  have HB := hide (bthen (below1 _ _) hb1)
  have HS1 := hide (HS.out.below HB.out)
  clear hb1
  rcases hf with ⟨rfl, hf⟩ | ⟨k, x, rfl, hx, hp, ht⟩
  · have HT : Hid (textIn b l = none) := text_none hf
    clear hf
    go_wp2
    go_ret2
    exact ⟨by rw [HT.out]; rfl, HB.out⟩
  · have hp' : x.1 = b := by simpa using hp
    have HT : Hid (textIn b l = some x.2) := text_hit hx hp' (text_none ht)
    have hlt : k < l.length := (List.getElem?_eq_some_iff.1 hx).1
    obtain ⟨b2, off, rfl, hb, hc⟩ := HS1.out.resolve_left (by intro e; rw [e] at hlt; simp at hlt)
    have hg := (hc k hlt).2
    have hxx : l.getD k (0, ByteArray.empty) = x := by rw [List.getD, hx]; rfl
    rw [hxx] at hg
    unfold maxLen at hn
    have hlt' : (k : Int) < (l.length : Int) := by omega
    clear hc hx hp ht hp' hxx
    go_wp2
    go_ret2
    exact ⟨by rw [HT.out]; rfl, HB.out⟩
end Go.Proofs.Ytjnpndfpajjihab
