/-
  What a log tells, as plain data. Nothing of the program is proved here.
  Rows of copies: as the cells of a row of the call's own, copied, and past a store.
  What a call that changes one block of its caller's leaves as it was.
  The walks of package scan's reader: block.
-/
import Derived.Test.YtjnpndfpajjihabGreatXPure
import Derived.Test.YtjnpndfpajjihabGreatGrSealWhole13
import Derived.Test.YtjnpndfpajjihabGreatGrSealWhole6
import Derived.Test.YtjnpndfpajjihabGreatGrSealWhole14
import Derived.Test.YtjnpndfpajjihabGreatGrSealWhole1
import Derived.Test.YtjnpndfpajjihabGreatGrSealWhole4
namespace Go.Proofs.YtjnpndfpajjihabGreat
open Go.RowKit

/-- A transaction of a number with nothing in it. -/
def txOf (seq : Int) : Tx := ⟨seq, [], [], [], ⟨false, 0⟩, ⟨false, 0⟩, ⟨false, 0⟩⟩
/-- The copies that stand behind a descriptor, from a place on. -/
def copiesAt (log : List ByteArray) : Nat → List (Int × Bool) → List (Int × ByteArray)
  | _, [] => []
  | i, x :: r => (x.1, unescT (log.getD i ByteArray.empty) x.2) :: copiesAt log (i + 1) r
theorem copiesAt_length (log : List ByteArray) (i : Nat) (l : List (Int × Bool)) : (copiesAt log i l).length = l.length := by
  induction l generalizing i with
  | nil => rfl
  | cons x r ih => simp [copiesAt, ih]
theorem copiesAt_take {l : List (Int × Bool)} {k : Nat} {x : Int × Bool} (h : l[k]? = some x) (log : List ByteArray) (i : Nat) : copiesAt log i (l.take (k + 1)) = copiesAt log i (l.take k) ++ [(x.1, unescT (log.getD (i + k) ByteArray.empty) x.2)] := by
  induction l generalizing i k with
  | nil => simp at h
  | cons y r ih =>
    cases k with
    | zero => simp at h; subst h; rfl
    | succ k =>
      have := ih (k := k) (by simpa using h) (i + 1)
      rw [List.take_succ_cons, List.take_succ_cons, copiesAt, copiesAt, this, show i + 1 + k = i + (k + 1) from by omega]
      rfl
/-- A transaction behind one more list or descriptor. -/
def more (log : List ByteArray) (i : Nat) (t : Tx) (m : Mk) : Tx := { t with rev := t.rev ++ m.blocks, info := t.info ++ copiesAt log (i + 1) m.tags }
/-- What a transaction of a number is, gone on from a place; where it ends. -/
def runT (log : List ByteArray) (seq : Int) (i : Nat) (t : Tx) : Option (Nat × Tx) :=
  if _h : i < log.length then
    if (stampDec (log.getD i ByteArray.empty)).2 ≠ 0 ∨ (stampDec (log.getD i ByteArray.empty)).1.seq ≠ seq ∨ (stampDec (log.getD i ByteArray.empty)).1.kind = 1 then none
    else if (stampDec (log.getD i ByteArray.empty)).1.kind = 4 then some (i + 1, t)
    else if i + 1 + (stampDec (log.getD i ByteArray.empty)).1.tags.length ≤ log.length then runT log seq (i + 1 + (stampDec (log.getD i ByteArray.empty)).1.tags.length) (more log i t (stampDec (log.getD i ByteArray.empty)).1)
    else none
  else none
termination_by log.length - i
decreasing_by omega
/-- The transactions of a log, from a place and a number on; where they end. -/
def scanP (log : List ByteArray) (pos : Nat) (seq : Int) (acc : List Tx) : List Tx × Nat :=
  if _h : seq < 2147483647 then
    match runT log seq pos (txOf seq) with
    | none => (acc, pos)
    | some (n, t) => scanP log n (seq + 1) (acc ++ [t])
  else (acc, pos)
termination_by (2147483647 - seq).toNat
decreasing_by omega
/-- The log of a disk, from a place on, once round. -/
def logOf (d : Dk) (at0 : Int) : List ByteArray := (List.range 24).map fun i : Nat => readT d (1 + (at0 + (i : Int)) % 24)
theorem logOf_length (d : Dk) (a : Int) : (logOf d a).length = 24 := by simp [logOf]
theorem logOf_at (d : Dk) (a : Int) (i : Nat) (h : i < 24) : (logOf d a).getD i ByteArray.empty = readT d (1 + (a + (i : Int)) % 24) := by
  rw [logOf, List.getD, List.getElem?_map, List.getElem?_range h]; rfl
/-- Scan: its error, and what it finds. -/
def superM (d : Dk) : Mk := (stampDec (readT d 0)).1
def scanE (d : Dk) : Int := if readE d 0 ≠ 0 then readE d 0 else if (stampDec (readT d 0)).2 ≠ 0 ∨ (superM d).kind ≠ 1 then 1 else 0
def scanL (d : Dk) : List Tx × Nat := scanP (logOf d (superM d).pos) 0 (superM d).seq []

theorem runT_bound (log : List ByteArray) (seq : Int) : ∀ (f i : Nat) (t : Tx) (n : Nat) (u : Tx), log.length - i ≤ f → runT log seq i t = some (n, u) → i < n ∧ n ≤ log.length := by
  intro f
  induction f with
  | zero => intro i t n u hf h; rw [runT, dif_neg (by omega)] at h; cases h
  | succ f ih =>
    intro i t n u hf h
    rw [runT] at h
    split at h
    · split at h
      · cases h
      · split at h
        · cases h; omega
        · split at h
          · have := ih _ _ _ _ (by omega) h; omega
          · cases h
    · cases h
theorem dropD_getD {α : Type} (l : List α) (p i : Nat) (x : α) : (l.drop p).getD i x = l.getD (p + i) x := by
  rw [List.getD, List.getD, List.getElem?_drop]
theorem copiesAt_drop (log : List ByteArray) (p i : Nat) (l : List (Int × Bool)) : copiesAt (log.drop p) i l = copiesAt log (p + i) l := by
  induction l generalizing i with
  | nil => rfl
  | cons x r ih => rw [copiesAt, copiesAt, dropD_getD, ih, Nat.add_assoc]
theorem runT_drop (log : List ByteArray) (seq : Int) (p : Nat) (hp : p ≤ log.length) : ∀ (f i : Nat) (t : Tx), log.length - (p + i) ≤ f → runT (log.drop p) seq i t = (runT log seq (p + i) t).map (fun x => (x.1 - p, x.2)) := by
  intro f
  induction f with
  | zero => intro i t hf; rw [runT.eq_def (log.drop p) seq i t, runT.eq_def log seq (p + i) t, dif_neg (by rw [List.length_drop]; omega), dif_neg (by omega)]; rfl
  | succ f ih =>
    intro i t hf
    rw [runT.eq_def (log.drop p) seq i t, runT.eq_def log seq (p + i) t]
    by_cases h : p + i < log.length
    · rw [dif_pos (by rw [List.length_drop]; omega), dif_pos h, dropD_getD]
      by_cases h1 : (stampDec (log.getD (p + i) ByteArray.empty)).2 ≠ 0 ∨ (stampDec (log.getD (p + i) ByteArray.empty)).1.seq ≠ seq ∨ (stampDec (log.getD (p + i) ByteArray.empty)).1.kind = 1
      · rw [if_pos h1, if_pos h1]; rfl
      · rw [if_neg h1, if_neg h1]
        by_cases h2 : (stampDec (log.getD (p + i) ByteArray.empty)).1.kind = 4
        · rw [if_pos h2, if_pos h2]
          simp only [Option.map_some]
          rw [show p + i + 1 - p = i + 1 from by omega]
        · rw [if_neg h2, if_neg h2]
          by_cases h3 : p + i + 1 + (stampDec (log.getD (p + i) ByteArray.empty)).1.tags.length ≤ log.length
          · rw [if_pos (by rw [List.length_drop]; omega), if_pos h3, ih _ _ (by omega)]
            rw [show p + (i + 1 + (stampDec (log.getD (p + i) ByteArray.empty)).1.tags.length) = p + i + 1 + (stampDec (log.getD (p + i) ByteArray.empty)).1.tags.length from by omega]
            unfold more
            rw [copiesAt_drop, show p + (i + 1) = p + i + 1 from by omega]
          · rw [if_neg (by rw [List.length_drop]; omega), if_neg h3]; rfl
    · rw [dif_neg (by rw [List.length_drop]; omega), dif_neg h]; rfl

end Go.Proofs.YtjnpndfpajjihabGreat

namespace Go.Proofs.YtjnpndfpajjihabGreat
open Go.RowKit

theorem SegW.setNe {w : World} {a : Option Addr} {l : List (Int × ByteArray)} (h : SegW w a l) {p : Addr} (hb : ∀ b off, a = some ⟨b, off, none⟩ → b ≠ p.block) (u : Value) : SegW (w.setCell p u) a l := by
  rcases h with h | ⟨b, off, rfl, hlt, hc⟩
  · exact .inl h
  · have := hb b off rfl
    exact .inr ⟨b, off, rfl, by simpa [World.setCell] using hlt, fun i hi => ⟨cellSet (hc i hi).1 this, cellSet (hc i hi).2 this⟩⟩

def cellsC : List (Int × ByteArray) → List Value
  | [] => []
  | x :: r => .int .i64 x.1 :: .string x.2 :: cellsC r
theorem cellsC_length (l : List (Int × ByteArray)) : (cellsC l).length = l.length * 2 := by
  induction l with
  | nil => rfl
  | cons x r ih => simp [cellsC, ih]; omega
theorem cellsC_append (l r : List (Int × ByteArray)) : cellsC (l ++ r) = cellsC l ++ cellsC r := by
  induction l with
  | nil => rfl
  | cons x r ih => simp [cellsC, ih]
theorem cellsC_one (l : List (Int × ByteArray)) : ∀ u ∈ cellsC l, u.oneCell' = true := by
  induction l with
  | nil => intro u hu; simp [cellsC] at hu
  | cons x r ih =>
    intro u hu
    simp only [cellsC, List.mem_cons] at hu
    rcases hu with rfl | rfl | hu
    · rfl
    · rfl
    · exact ih u hu
theorem cellsC_at (l : List (Int × ByteArray)) (i : Nat) (h : i < l.length) : (cellsC l)[i * 2]? = some (.int .i64 (l.getD i (0, ByteArray.empty)).1) ∧ (cellsC l)[i * 2 + 1]? = some (.string (l.getD i (0, ByteArray.empty)).2) := by
  induction l generalizing i with
  | nil => simp at h
  | cons x r ih =>
    cases i with
    | zero => exact ⟨rfl, rfl⟩
    | succ i =>
      have e1 : (i + 1) * 2 = i * 2 + 1 + 1 := by omega
      have e2 : (i + 1) * 2 + 1 = i * 2 + 1 + 1 + 1 := by omega
      rw [cellsC, e1, List.getElem?_cons_succ, List.getElem?_cons_succ, List.getElem?_cons_succ, List.getElem?_cons_succ]
      simpa using ih i (by simpa using h)
theorem SegC.of_owns {w : World} {base n : Nat} {v : Value} {l : List (Int × ByteArray)} (h : w.ownsRow base 78 2 v n (cellsC l)) : ∃ a c, v = .slice a l.length c ∧ SegW w a l ∧ ∀ b off, a = some ⟨b, off, none⟩ → base ≤ b := by
  have hn : l.length = n := by have := h.1; rw [cellsC_length] at this; omega
  subst hn
  rcases h.2 with ⟨rfl, h0⟩ | ⟨g, cap, cur, rfl, hb, hg, rest⟩
  · exact ⟨none, 0, by rw [h0], .inl (List.eq_nil_of_length_eq_zero h0), fun _ _ h => by cases h⟩
  · refine ⟨_, cap, rfl, .inr ⟨g, 0, rfl, (Array.getElem?_eq_some_iff.1 hg).1, fun i hi => ?_⟩, fun _ _ h => by cases h; exact hb⟩
    have e := cellsC_at l i hi
    rw [Nat.zero_add, h.cellAt (i * 2) (by omega), h.cellAt (i * 2 + 1) (by omega)]
    exact e
theorem infoC : (Tryz.prog.info? 78).map (fun i => (i.zero, i.size, i.bytes)) = some (some (.agg #[.int .i64 0, .string ⟨#[]⟩]), 2, 24) := by kernel_rfl
theorem SegC.news {w : World} {b off : Nat} {l : List (Int × ByteArray)} (hc : ∀ i, i < l.length → w.cell? ⟨b, off + i * 2, none⟩ = some (.int .i64 (l.getD i (0, ByteArray.empty)).1) ∧ w.cell? ⟨b, off + i * 2 + 1, none⟩ = some (.string (l.getD i (0, ByteArray.empty)).2)) (j : Nat) (u : Value) (hj : (cellsC l)[j]? = some u) : w.cell? ⟨b, off + j, none⟩ = some u := by
  have hlt : j < l.length * 2 := by
    have := (List.getElem?_eq_some_iff.1 hj).1
    rw [cellsC_length] at this; omega
  obtain ⟨i, hi⟩ : ∃ i, i = j / 2 := ⟨_, rfl⟩
  have hil : i < l.length := by omega
  have e := cellsC_at l i hil
  have g := hc i hil
  by_cases h0 : j % 2 = 0
  · have hj2 : j = i * 2 := by omega
    rw [hj2] at hj ⊢
    rw [e.1] at hj
    cases hj
    exact g.1
  · have hj2 : j = i * 2 + 1 := by omega
    rw [hj2] at hj ⊢
    rw [e.2] at hj
    cases hj
    have : off + (i * 2 + 1) = off + i * 2 + 1 := by omega
    rw [this]
    exact g.2

theorem step_copyC {ops : Array Oper} {o : Oper} {a : Act} {w : World} {K : Act → World → Prop} {Q : Exit → Act → World → Prop} {E : Prop} (hgd : o.guard = none) (s x : Operand)
    (ho : o.op = .call { callee := .builtin .append, args := #[s, x], argTypes := #[22, 22] })
    (hs : a.eval s = .slice none 0 0) (ao : Option Addr) (c : Nat) (l : List (Int × ByteArray)) (hx : a.eval x = .slice ao l.length c) (hS : SegW w ao l) (h63 : l.length ≤ maxLen) (hbytes : l.length * 24 ≤ 140737488355328)
    (h : ∀ a2 c2 w', Hid (SegW w' a2 l ∧ ∀ b off, a2 = some ⟨b, off, none⟩ → w.heap.size ≤ b ∧ b < w'.heap.size) → Below w.heap.size w w' → K (a.put o.dst (.slice a2 l.length c2)) w') :
    if Region.wanted o (yielded ops a.tmps) = true then Oper.wp Tryz.prog o a w K Q else E := by
  obtain ⟨i0, hi, hz0, hz1, hz2⟩ := info_parts infoC
  refine step_copy hgd s x 22 ho 78 i0 (.agg #[.int .i64 0, .string ⟨#[]⟩]) 2 24 Tryz.underlying22 hi hz0 hz1 hz2 rfl (by decide) hs ao l.length c (cellsC l) hx (cellsC_length l) ?_ ?_ (cellsC_one l) h63 hbytes ?_
  · intro h0
    rcases hS with h | ⟨b, off, he, _⟩
    · rw [h]; rfl
    · rw [h0] at he; cases he
  · intro ad h0 j u hj
    rcases hS with h | ⟨b, off, he, hlt, hc⟩
    · rw [h] at hj; simp [cellsC] at hj
    · rw [h0] at he
      cases he
      rw [Addr.add_lit]
      exact SegC.news hc j u hj
  · intro v' w' hown hb
    obtain ⟨a2, c2, rfl, h2, _⟩ := SegC.of_owns hown
    exact h a2 c2 w' ⟨h2, fun b off e => hown.lt b (by rw [e]; rfl)⟩ hb


end Go.Proofs.YtjnpndfpajjihabGreat

namespace Go.Proofs.YtjnpndfpajjihabGreat
open Go.RowKit

/-- All that lies below a block is as it was, but for one block. -/
structure But (R base : Nat) (w w' : World) : Prop where
  os : w'.os = w.os
  tape : w'.tape = w.tape
  output : w'.output = w.output
  size : w.heap.size ≤ w'.heap.size
  block : ∀ k, k < base → k ≠ R → w'.heap[k]? = w.heap[k]?
theorem But.of_below {R base : Nat} {w w' : World} (h : Below base w w') : But R base w w' := ⟨h.os, h.tape, h.output, h.size, fun k hk _ => h.block k hk⟩
theorem But.trans {R base base2 : Nat} {w w1 w2 : World} (h : But R base w w1) (k : But R base2 w1 w2) (hb : base ≤ base2) : But R base w w2 :=
  ⟨k.os.trans h.os, k.tape.trans h.tape, k.output.trans h.output, Nat.le_trans h.size k.size, fun j hj hn => (k.block j (by omega) hn).trans (h.block j hj hn)⟩
theorem But.cell {R base : Nat} {w w' : World} (h : But R base w w') {b o : Nat} {v : Value} (hb : b < base) (hn : b ≠ R) (hc : w.cell? ⟨b, o, none⟩ = some v) : w'.cell? ⟨b, o, none⟩ = some v :=
  (World.cell?_of_block (h.block b hb hn)).trans hc

theorem owns_but {R base : Nat} {w w' : World} {e : TypeId} {size : Nat} {v : Value} {n : Nat} {xs : List Value} (h : w.ownsRow base e size v n xs) (hb : But R w.heap.size w w') (hR : R < base) : w'.ownsRow base e size v n xs := by
  refine ⟨h.1, ?_⟩
  rcases h.2 with h0 | ⟨g, cap, cur, hv, hg, hh, r⟩
  · exact .inl h0
  · exact .inr ⟨g, cap, cur, hv, hg, (hb.block g (Array.getElem?_eq_some_iff.1 hh).1 (by omega)).trans hh, r⟩

end Go.Proofs.YtjnpndfpajjihabGreat

namespace Go.Proofs.YtjnpndfpajjihabGreat
open Go.RowKit

/-- The reader of a log, at a place behind where it began: block R. -/
def Rd (w : World) (R : Nat) (a : Option Addr) (c : Nat) (a' : Option Addr) (c' : Nat) (d : Dk) (p0 i : Nat) : Prop :=
  w.heap[R]? = some (.cells #[.slice a d.safe.length c, .slice a' d.wr.length c', .int .i64 (((p0 + i) % 24 : Nat) : Int), .int .i64 ((24 - i : Nat) : Int)] 126 (0, 0))
theorem box4 {w : World} {B : Nat} {v0 v1 v2 v3 : Value} {t : TypeId} (h : w.heap[B]? = some (.cells #[v0, v1, v2, v3] t (0, 0))) :
    (w.cell? ⟨B, 0, none⟩ = some v0 ∧ w.cell? ⟨B, 1, none⟩ = some v1 ∧ w.cell? ⟨B, 2, none⟩ = some v2 ∧ w.cell? ⟨B, 3, none⟩ = some v3) ∧ ∀ k, w.frozen? ⟨B, k, none⟩ = false := by
  refine ⟨⟨?_, ?_, ?_, ?_⟩, fun k => frozen_of_row w _ _ _ _ h⟩ <;> (rw [cell_of_row w _ _ _ _ _ h]; rfl)
theorem But.below {R base : Nat} {w w' w0 : World} (h : But R w.heap.size w w') (hb : Below base w0 w) (hw : base ≤ w.heap.size) (hR : base ≤ R) : Below base w0 w' :=
  ⟨h.os.trans hb.os, h.tape.trans hb.tape, h.output.trans hb.output, Nat.le_trans hb.size h.size, fun k hk => (h.block k (by omega) (by omega)).trans (hb.block k hk)⟩
theorem But.setCell {R base o : Nat} {w w' : World} (h : But R base w w') (u : Value) : But R base w (w'.setCell ⟨R, o, none⟩ u) := by
  refine ⟨h.os, h.tape, h.output, by simpa [World.setCell] using h.size, fun k hk hn => ?_⟩
  rw [World.setCell]
  simp only [Array.getElem?_modify]
  rw [if_neg (fun x => hn x.symm)]
  exact h.block k hk hn
theorem good_read {d : Dk} (h : goodB d = true) {p : Nat} (hp : p < 24) : readE d (1 + (p : Int)) = 0 := by
  have : placeB (1 + (p : Int)) = true := by simp [placeB]; omega
  simp [readE, h, this]

set_option maxHeartbeats 2000000 in
set_option maxRecDepth 100000 in
theorem block_end (R : Nat) (a : Option Addr) (c : Nat) (a' : Option Addr) (c' : Nat) (d : Dk) (p0 : Nat) (w : World) (hR : Rd w R a c a' c' d p0 24) :
    Calls Tryz.prog 151 #[.pointer (some ⟨R, 0, none⟩)] w fun e w' => e = .returned (.tuple #[.string ⟨#[]⟩, .bool false]) ∧ w = w' := by
  obtain ⟨⟨x0, x1, x2, x3⟩, ff⟩ := box4 hR
  clear hR
  simp only [Nat.sub_self] at x3
  go_enter Tryz.func151, Tryz.ntmps151
  go_wp2
  exact bodyPost_ret (v := .tuple #[.string ⟨#[]⟩, .bool false]) (by simp [results, Tryz.results151, go_sem]) rfl ⟨rfl, rfl⟩

set_option maxHeartbeats 4000000 in
set_option maxRecDepth 100000 in
theorem block_next (R : Nat) (a : Option Addr) (c : Nat) (a' : Option Addr) (c' : Nat) (d : Dk) (p0 i : Nat) (w w0 : World) (hR : Rd w R a c a' c' d p0 i) (hi : i < 24) (hD : IsDk w0 (.agg #[.slice a d.safe.length c, .slice a' d.wr.length c']) d) (hg : goodB d = true) (hb : Below w0.heap.size w0 w) :
    Calls Tryz.prog 151 #[.pointer (some ⟨R, 0, none⟩)] w fun e w' => e = .returned (.tuple #[.string (readT d (1 + (((p0 + i) % 24 : Nat) : Int))), .bool true]) ∧ Rd w' R a c a' c' d p0 (i + 1) ∧ But R w.heap.size w w' := by
  have HR := hide hR
  have hRl : R < w.heap.size := (Array.getElem?_eq_some_iff.1 hR).1
  obtain ⟨p, hp⟩ : ∃ p, p = (p0 + i) % 24 := ⟨_, rfl⟩
  have hp24 : p < 24 := by omega
  have HP2 : Hid ((p0 + (i + 1)) % 24 = (p + 1) % 24) := by rw [Hid, hp]; omega
  have HP := hide hp
  have HP0 : Hid ((((p0 + i) % 24 : Nat) : Int) = (p : Int)) := by rw [Hid, ← hp]
  obtain ⟨⟨x0, x1, x2, x3⟩, ff⟩ := box4 hR
  rw [← hp] at x2 ⊢
  have HD := hide hD
  have HBW := hide hb
  have HE := hide (good_read hg hp24)
  clear hR hD hb hp
  have hl0 : ((24 - i : Nat) : Int) = 24 - (i : Int) := by omega
  rw [hl0] at x3
  have hne : ((24 - (i : Int)) == 0) = false := by rw [beq_eq_false_iff_ne]; omega
  have ew : IntKind.i64.wrap (1 + (p : Int)) = 1 + (p : Int) := by rw [IntKind.wrap_i64]; omega
  have ew2 : IntKind.i64.wrap ((p : Int) + 1) = (p : Int) + 1 := by rw [IntKind.wrap_i64]; omega
  have em : ((p : Int) + 1).tmod 24 = (((p + 1) % 24 : Nat) : Int) := by rw [Int.tmod_eq_emod_of_nonneg (by omega)]; omega
  go_enter Tryz.func151, Tryz.ntmps151
  go_wp2
  go_region_with (go_at_call 82; refine (read_any _ d (1 + (p : Int)) _ (HD.out.below (bthen HBW.out ((Below.refl _ _).drew)))).mono ?_; rintro e w1 ⟨rfl, hb1⟩; rw [HE.out]; have hb1' : Below w.heap.size w w1 := ((Below.refl _ _).drew).trans hb1; have hR1 := boxKeep hb1' hRl HR.out; obtain ⟨⟨y0, y1, y2, y3⟩, fg⟩ := box4 hR1)
  all_goals
    have HR1 := hide hR1
    have HB1 := hide hb1'
    rw [HP0.out] at y2
    rw [hl0] at y3
    clear hb1 hb1' hR1 x0 x1 x2 x3 ff HD HBW HR
    go_wp2
    refine bodyPost_ret (v := .tuple #[.string (readT d (1 + (p : Int))), .bool true]) (by simp [results, Tryz.results151, go_sem]) rfl ⟨rfl, ?_, ?_⟩
    · have h1 := heap_setCell_same w1 R 2 _ _ (.int .i64 (((p + 1) % 24 : Nat) : Int)) HR1.out
      have h2 := heap_setCell_same _ R 3 _ _ (.int .i64 (24 - (i : Int) - 1)) h1
      rw [Rd, HP2.out, show ((24 - (i + 1) : Nat) : Int) = 24 - (i : Int) - 1 from by omega]
      exact h2
    · exact ((But.of_below HB1.out).setCell _).setCell _

end Go.Proofs.YtjnpndfpajjihabGreat
