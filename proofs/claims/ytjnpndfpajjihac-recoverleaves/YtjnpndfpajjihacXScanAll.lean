/-
  What a log tells, as plain data. Nothing of the program is proved here.
  What a call that changes one block of its caller's leaves as it was.
  The walks of package scan's reader: block.
  The walks of package scan's reader: mark.
-/
import Derived.Test.YtjnpndfpajjihacXPure
import Derived.Test.YtjnpndfpajjihacSDecode2
import Derived.Test.YtjnpndfpajjihacEscPure
import Derived.Test.YtjnpndfpajjihacRead
import Derived.Test.YtjnpndfpajjihacTRows
namespace Go.Proofs.Ytjnpndfpajjihac
open Go.RowKit

/-- A transaction of a number with nothing in it. -/
def txOf (seq : Int) : Tx := ⟨seq, [], [], [], ⟨false, 0⟩, ⟨false, 0⟩, ⟨false, 0⟩⟩
/-- The copies that stand behind a descriptor, from a place on. -/
def copiesAt (log : List ByteArray) : Nat → List (Int × Bool) → List (Int × ByteArray)
  | _, [] => []
  | i, x :: r => (x.1, unescT (log.getD i ByteArray.empty) x.2) :: copiesAt log (i + 1) r
theorem copiesAt_length (log : List ByteArray) (i : Nat) (l : List (Int × Bool)) : (copiesAt log i l).length = l.length := by
  induction l generalizing i with
  | nil => rfl
  | cons x r ih => simp [copiesAt, ih]
theorem copiesAt_take {l : List (Int × Bool)} {k : Nat} {x : Int × Bool} (h : l[k]? = some x) (log : List ByteArray) (i : Nat) : copiesAt log i (l.take (k + 1)) = copiesAt log i (l.take k) ++ [(x.1, unescT (log.getD (i + k) ByteArray.empty) x.2)] := by
  induction l generalizing i k with
  | nil => simp at h
  | cons y r ih =>
    cases k with
    | zero => simp at h; subst h; rfl
    | succ k =>
      have := ih (k := k) (by simpa using h) (i + 1)
      rw [List.take_succ_cons, List.take_succ_cons, copiesAt, copiesAt, this, show i + 1 + k = i + (k + 1) from by omega]
      rfl
/-- A transaction behind one more list or descriptor. -/
def more (log : List ByteArray) (i : Nat) (t : Tx) (m : Mk) : Tx := { t with rev := t.rev ++ m.blocks, info := t.info ++ copiesAt log (i + 1) m.tags }
/-- What a transaction of a number is, gone on from a place; where it ends. -/
def runT (log : List ByteArray) (seq : Int) (i : Nat) (t : Tx) : Option (Nat × Tx) :=
  if _h : i < log.length then
    if (stampDec (log.getD i ByteArray.empty)).2 ≠ 0 ∨ (stampDec (log.getD i ByteArray.empty)).1.seq ≠ seq ∨ (stampDec (log.getD i ByteArray.empty)).1.kind = 1 then none
    else if (stampDec (log.getD i ByteArray.empty)).1.kind = 4 then some (i + 1, t)
    else if i + 1 + (stampDec (log.getD i ByteArray.empty)).1.tags.length ≤ log.length then runT log seq (i + 1 + (stampDec (log.getD i ByteArray.empty)).1.tags.length) (more log i t (stampDec (log.getD i ByteArray.empty)).1)
    else none
  else none
termination_by log.length - i
decreasing_by omega
/-- The transactions of a log, from a place and a number on; where they end. -/
def scanP (log : List ByteArray) (pos : Nat) (seq : Int) (acc : List Tx) : List Tx × Nat :=
  if _h : seq < 2147483647 then
    match runT log seq pos (txOf seq) with
    | none => (acc, pos)
    | some (n, t) => scanP log n (seq + 1) (acc ++ [t])
  else (acc, pos)
termination_by (2147483647 - seq).toNat
decreasing_by omega
/-- The log of a disk, from a place on, once round. -/
def logOf (d : Dk) (at0 : Int) : List ByteArray := (List.range 24).map fun i : Nat => readT d (1 + (at0 + (i : Int)) % 24)
theorem logOf_length (d : Dk) (a : Int) : (logOf d a).length = 24 := by simp [logOf]
theorem logOf_at (d : Dk) (a : Int) (i : Nat) (h : i < 24) : (logOf d a).getD i ByteArray.empty = readT d (1 + (a + (i : Int)) % 24) := by
  rw [logOf, List.getD, List.getElem?_map, List.getElem?_range h]; rfl
/-- Scan: its error, and what it finds. -/
def superM (d : Dk) : Mk := (stampDec (readT d 0)).1
def scanE (d : Dk) : Int := if readE d 0 ≠ 0 then readE d 0 else if (stampDec (readT d 0)).2 ≠ 0 ∨ (superM d).kind ≠ 1 then 1 else 0
def scanL (d : Dk) : List Tx × Nat := scanP (logOf d (superM d).pos) 0 (superM d).seq []

theorem runT_bound (log : List ByteArray) (seq : Int) : ∀ (f i : Nat) (t : Tx) (n : Nat) (u : Tx), log.length - i ≤ f → runT log seq i t = some (n, u) → i < n ∧ n ≤ log.length := by
  intro f
  induction f with
  | zero => intro i t n u hf h; rw [runT, dif_neg (by omega)] at h; cases h
  | succ f ih =>
    intro i t n u hf h
    rw [runT] at h
    split at h
    · split at h
      · cases h
      · split at h
        · cases h; omega
        · split at h
          · have := ih _ _ _ _ (by omega) h; omega
          · cases h
    · cases h
theorem dropD_getD {α : Type} (l : List α) (p i : Nat) (x : α) : (l.drop p).getD i x = l.getD (p + i) x := by
  rw [List.getD, List.getD, List.getElem?_drop]
theorem copiesAt_drop (log : List ByteArray) (p i : Nat) (l : List (Int × Bool)) : copiesAt (log.drop p) i l = copiesAt log (p + i) l := by
  induction l generalizing i with
  | nil => rfl
  | cons x r ih => rw [copiesAt, copiesAt, dropD_getD, ih, Nat.add_assoc]
theorem runT_drop (log : List ByteArray) (seq : Int) (p : Nat) (hp : p ≤ log.length) : ∀ (f i : Nat) (t : Tx), log.length - (p + i) ≤ f → runT (log.drop p) seq i t = (runT log seq (p + i) t).map (fun x => (x.1 - p, x.2)) := by
  intro f
  induction f with
  | zero => intro i t hf; rw [runT.eq_def (log.drop p) seq i t, runT.eq_def log seq (p + i) t, dif_neg (by rw [List.length_drop]; omega), dif_neg (by omega)]; rfl
  | succ f ih =>
    intro i t hf
    rw [runT.eq_def (log.drop p) seq i t, runT.eq_def log seq (p + i) t]
    by_cases h : p + i < log.length
    · rw [dif_pos (by rw [List.length_drop]; omega), dif_pos h, dropD_getD]
      by_cases h1 : (stampDec (log.getD (p + i) ByteArray.empty)).2 ≠ 0 ∨ (stampDec (log.getD (p + i) ByteArray.empty)).1.seq ≠ seq ∨ (stampDec (log.getD (p + i) ByteArray.empty)).1.kind = 1
      · rw [if_pos h1, if_pos h1]; rfl
      · rw [if_neg h1, if_neg h1]
        by_cases h2 : (stampDec (log.getD (p + i) ByteArray.empty)).1.kind = 4
        · rw [if_pos h2, if_pos h2]
          simp only [Option.map_some]
          rw [show p + i + 1 - p = i + 1 from by omega]
        · rw [if_neg h2, if_neg h2]
          by_cases h3 : p + i + 1 + (stampDec (log.getD (p + i) ByteArray.empty)).1.tags.length ≤ log.length
          · rw [if_pos (by rw [List.length_drop]; omega), if_pos h3, ih _ _ (by omega)]
            rw [show p + (i + 1 + (stampDec (log.getD (p + i) ByteArray.empty)).1.tags.length) = p + i + 1 + (stampDec (log.getD (p + i) ByteArray.empty)).1.tags.length from by omega]
            unfold more
            rw [copiesAt_drop, show p + (i + 1) = p + i + 1 from by omega]
          · rw [if_neg (by rw [List.length_drop]; omega), if_neg h3]; rfl
    · rw [dif_neg (by rw [List.length_drop]; omega), dif_neg h]; rfl

end Go.Proofs.Ytjnpndfpajjihac

namespace Go.Proofs.Ytjnpndfpajjihac
open Go.RowKit

/-- All that lies below a block is as it was, but for one block. -/
structure But (R base : Nat) (w w' : World) : Prop where
  os : w'.os = w.os
  tape : w'.tape = w.tape
  output : w'.output = w.output
  size : w.heap.size ≤ w'.heap.size
  block : ∀ k, k < base → k ≠ R → w'.heap[k]? = w.heap[k]?
theorem But.of_below {R base : Nat} {w w' : World} (h : Below base w w') : But R base w w' := ⟨h.os, h.tape, h.output, h.size, fun k hk _ => h.block k hk⟩
theorem But.trans {R base base2 : Nat} {w w1 w2 : World} (h : But R base w w1) (k : But R base2 w1 w2) (hb : base ≤ base2) : But R base w w2 :=
  ⟨k.os.trans h.os, k.tape.trans h.tape, k.output.trans h.output, Nat.le_trans h.size k.size, fun j hj hn => (k.block j (by omega) hn).trans (h.block j hj hn)⟩
theorem But.cell {R base : Nat} {w w' : World} (h : But R base w w') {b o : Nat} {v : Value} (hb : b < base) (hn : b ≠ R) (hc : w.cell? ⟨b, o, none⟩ = some v) : w'.cell? ⟨b, o, none⟩ = some v :=
  (World.cell?_of_block (h.block b hb hn)).trans hc

theorem owns_but {R base : Nat} {w w' : World} {e : TypeId} {size : Nat} {v : Value} {n : Nat} {xs : List Value} (h : w.ownsRow base e size v n xs) (hb : But R w.heap.size w w') (hR : R < base) : w'.ownsRow base e size v n xs := by
  refine ⟨h.1, ?_⟩
  rcases h.2 with h0 | ⟨g, cap, cur, hv, hg, hh, r⟩
  · exact .inl h0
  · exact .inr ⟨g, cap, cur, hv, hg, (hb.block g (Array.getElem?_eq_some_iff.1 hh).1 (by omega)).trans hh, r⟩

end Go.Proofs.Ytjnpndfpajjihac

namespace Go.Proofs.Ytjnpndfpajjihac
open Go.RowKit

/-- The reader of a log, at a place behind where it began: block R. -/
def Rd (w : World) (R : Nat) (a : Option Addr) (c : Nat) (a' : Option Addr) (c' : Nat) (d : Dk) (p0 i : Nat) : Prop :=
  w.heap[R]? = some (.cells #[.slice a d.safe.length c, .slice a' d.wr.length c', .int .i64 (((p0 + i) % 24 : Nat) : Int), .int .i64 ((24 - i : Nat) : Int)] 63 (0, 0))
theorem box4 {w : World} {B : Nat} {v0 v1 v2 v3 : Value} {t : TypeId} (h : w.heap[B]? = some (.cells #[v0, v1, v2, v3] t (0, 0))) :
    (w.cell? ⟨B, 0, none⟩ = some v0 ∧ w.cell? ⟨B, 1, none⟩ = some v1 ∧ w.cell? ⟨B, 2, none⟩ = some v2 ∧ w.cell? ⟨B, 3, none⟩ = some v3) ∧ ∀ k, w.frozen? ⟨B, k, none⟩ = false := by
  refine ⟨⟨?_, ?_, ?_, ?_⟩, fun k => frozen_of_row w _ _ _ _ h⟩ <;> (rw [cell_of_row w _ _ _ _ _ h]; rfl)
theorem But.below {R base : Nat} {w w' w0 : World} (h : But R w.heap.size w w') (hb : Below base w0 w) (hw : base ≤ w.heap.size) (hR : base ≤ R) : Below base w0 w' :=
  ⟨h.os.trans hb.os, h.tape.trans hb.tape, h.output.trans hb.output, Nat.le_trans hb.size h.size, fun k hk => (h.block k (by omega) (by omega)).trans (hb.block k hk)⟩
theorem But.setCell {R base o : Nat} {w w' : World} (h : But R base w w') (u : Value) : But R base w (w'.setCell ⟨R, o, none⟩ u) := by
  refine ⟨h.os, h.tape, h.output, by simpa [World.setCell] using h.size, fun k hk hn => ?_⟩
  rw [World.setCell]
  simp only [Array.getElem?_modify]
  rw [if_neg (fun x => hn x.symm)]
  exact h.block k hk hn
theorem good_read {d : Dk} (h : goodB d = true) {p : Nat} (hp : p < 24) : readE d (1 + (p : Int)) = 0 := by
  have : placeB (1 + (p : Int)) = true := by simp [placeB]; omega
  simp [readE, h, this]

set_option maxHeartbeats 2000000 in
set_option maxRecDepth 100000 in
theorem block_end (R : Nat) (a : Option Addr) (c : Nat) (a' : Option Addr) (c' : Nat) (d : Dk) (p0 : Nat) (w : World) (hR : Rd w R a c a' c' d p0 24) :
    Calls Try.prog 51 #[.pointer (some ⟨R, 0, none⟩)] w fun e w' => e = .returned (.tuple #[.string ⟨#[]⟩, .bool false]) ∧ w = w' := by
  obtain ⟨⟨x0, x1, x2, x3⟩, ff⟩ := box4 hR
  clear hR
  simp only [Nat.sub_self] at x3
  go_enter Try.func51, Try.ntmps51
  go_wp2
  exact bodyPost_ret (v := .tuple #[.string ⟨#[]⟩, .bool false]) (by simp [results, Try.results51, go_sem]) rfl ⟨rfl, rfl⟩

set_option maxHeartbeats 4000000 in
set_option maxRecDepth 100000 in
theorem block_next (R : Nat) (a : Option Addr) (c : Nat) (a' : Option Addr) (c' : Nat) (d : Dk) (p0 i : Nat) (w w0 : World) (hR : Rd w R a c a' c' d p0 i) (hi : i < 24) (hD : IsDk w0 (.agg #[.slice a d.safe.length c, .slice a' d.wr.length c']) d) (hg : goodB d = true) (hb : Below w0.heap.size w0 w) :
    Calls Try.prog 51 #[.pointer (some ⟨R, 0, none⟩)] w fun e w' => e = .returned (.tuple #[.string (readT d (1 + (((p0 + i) % 24 : Nat) : Int))), .bool true]) ∧ Rd w' R a c a' c' d p0 (i + 1) ∧ But R w.heap.size w w' := by
  have HR := hide hR
  have hRl : R < w.heap.size := (Array.getElem?_eq_some_iff.1 hR).1
  obtain ⟨p, hp⟩ : ∃ p, p = (p0 + i) % 24 := ⟨_, rfl⟩
  have hp24 : p < 24 := by omega
  have HP2 : Hid ((p0 + (i + 1)) % 24 = (p + 1) % 24) := by rw [Hid, hp]; omega
  have HP := hide hp
  have HP0 : Hid ((((p0 + i) % 24 : Nat) : Int) = (p : Int)) := by rw [Hid, ← hp]
  obtain ⟨⟨x0, x1, x2, x3⟩, ff⟩ := box4 hR
  rw [← hp] at x2 ⊢
  have HD := hide hD
  have HBW := hide hb
  have HE := hide (good_read hg hp24)
  clear hR hD hb hp
  have hl0 : ((24 - i : Nat) : Int) = 24 - (i : Int) := by omega
  rw [hl0] at x3
  have hne : ((24 - (i : Int)) == 0) = false := by rw [beq_eq_false_iff_ne]; omega
  have ew : IntKind.i64.wrap (1 + (p : Int)) = 1 + (p : Int) := by rw [IntKind.wrap_i64]; omega
  have ew2 : IntKind.i64.wrap ((p : Int) + 1) = (p : Int) + 1 := by rw [IntKind.wrap_i64]; omega
  have em : ((p : Int) + 1).tmod 24 = (((p + 1) % 24 : Nat) : Int) := by rw [Int.tmod_eq_emod_of_nonneg (by omega)]; omega
  go_enter Try.func51, Try.ntmps51
  go_wp2
  go_region_with (go_at_call 11; refine (read_any _ d (1 + (p : Int)) _ (HD.out.below (bthen HBW.out ((Below.refl _ _).drew)))).mono ?_; rintro e w1 ⟨rfl, hb1⟩; rw [HE.out]; have hb1' : Below w.heap.size w w1 := ((Below.refl _ _).drew).trans hb1; have hR1 := boxKeep hb1' hRl HR.out; obtain ⟨⟨y0, y1, y2, y3⟩, fg⟩ := box4 hR1)
  all_goals
    have HR1 := hide hR1
    have HB1 := hide hb1'
    rw [HP0.out] at y2
    rw [hl0] at y3
    clear hb1 hb1' hR1 x0 x1 x2 x3 ff HD HBW HR
    go_wp2
    refine bodyPost_ret (v := .tuple #[.string (readT d (1 + (p : Int))), .bool true]) (by simp [results, Try.results51, go_sem]) rfl ⟨rfl, ?_, ?_⟩
    · have h1 := heap_setCell_same w1 R 2 _ _ (.int .i64 (((p + 1) % 24 : Nat) : Int)) HR1.out
      have h2 := heap_setCell_same _ R 3 _ _ (.int .i64 (24 - (i : Int) - 1)) h1
      rw [Rd, HP2.out, show ((24 - (i + 1) : Nat) : Int) = 24 - (i : Int) - 1 from by omega]
      exact h2
    · exact ((But.of_below HB1.out).setCell _).setCell _

end Go.Proofs.Ytjnpndfpajjihac

namespace Go.Proofs.Ytjnpndfpajjihac
open Go.RowKit

theorem block_text (d : Dk) (p0 i : Nat) (h : i < 24) : readT d (1 + (((p0 + i) % 24 : Nat) : Int)) = (logOf d p0).getD i ByteArray.empty := by
  rw [logOf_at d p0 i h]
  congr 2
theorem Rd.lt {w : World} {R : Nat} {a : Option Addr} {c : Nat} {a' : Option Addr} {c' : Nat} {d : Dk} {p0 i : Nat} (h : Rd w R a c a' c' d p0 i) : R < w.heap.size := (Array.getElem?_eq_some_iff.1 h).1
theorem Rd.below {w w' : World} {R : Nat} {a : Option Addr} {c : Nat} {a' : Option Addr} {c' : Nat} {d : Dk} {p0 i : Nat} (h : Rd w R a c a' c' d p0 i) (hb : Below w.heap.size w w') : Rd w' R a c a' c' d p0 i := boxKeep hb h.lt h
theorem Rd.setNe {w : World} {R : Nat} {a : Option Addr} {c : Nat} {a' : Option Addr} {c' : Nat} {d : Dk} {p0 i : Nat} (h : Rd w R a c a' c' d p0 i) {p : Addr} (hn : R ≠ p.block) (u : Value) : Rd (w.setCell p u) R a c a' c' d p0 i := by
  rw [Rd, World.setCell]
  simp only [Array.getElem?_modify]
  rw [if_neg (fun x => hn x.symm)]
  exact h
theorem But.setNew {R base : Nat} {w w' : World} (h : But R base w w') {p : Addr} (hp : base ≤ p.block) (u : Value) : But R base w (w'.setCell p u) := by
  refine ⟨h.os, h.tape, h.output, by simpa [World.setCell] using h.size, fun k hk hn => ?_⟩
  rw [World.setCell]
  simp only [Array.getElem?_modify]
  rw [if_neg (by omega)]
  exact h.block k hk hn
theorem But.low {R base base2 : Nat} {w w' : World} (h : But R base w w') (hb : base2 ≤ base) : But R base2 w w' := ⟨h.os, h.tape, h.output, h.size, fun k hk hn => h.block k (by omega) hn⟩

theorem stored5 {w : World} {B : Nat} {z0 z1 z2 z3 z4 : Value} {t : TypeId} (h : w.heap[B]? = some (.cells #[z0, z1, z2, z3, z4] t (0, 0))) (v0 v1 v2 v3 v4 : Value) (o : Obj) :
    ((((((w.setCell ⟨B, 0, none⟩ v0).setCell ⟨B, 1, none⟩ v1).setCell ⟨B, 2, none⟩ v2).setCell ⟨B, 3, none⟩ v3).setCell ⟨B, 4, none⟩ v4).alloc o).drew.heap[B]? = some (.cells #[v0, v1, v2, v3, v4] t (0, 0)) := by
  have h0 := heap_setCell_same w B 0 _ _ v0 h
  have h1 := heap_setCell_same _ B 1 _ _ v1 h0
  have h2 := heap_setCell_same _ B 2 _ _ v2 h1
  have h3 := heap_setCell_same _ B 3 _ _ v3 h2
  have h4 := heap_setCell_same _ B 4 _ _ v4 h3
  exact (boxKeep (bthen (below1 _ o) ((Below.refl _ _).drew)) (Array.getElem?_eq_some_iff.1 h4).1 h4)

set_option maxHeartbeats 2000000 in
set_option maxRecDepth 100000 in
theorem rmark_end (R : Nat) (a : Option Addr) (c : Nat) (a' : Option Addr) (c' : Nat) (d : Dk) (p0 : Nat) (seq : Int) (w : World) (hR : Rd w R a c a' c' d p0 24) :
    Calls Try.prog 33 #[.pointer (some ⟨R, 0, none⟩), .int .i64 seq] w fun e w' => e = .returned (.tuple #[.agg #[.int .i64 0, .int .i64 0, .int .i64 0, .slice none 0 0, .slice none 0 0], .bool false]) ∧ Below w.heap.size w w' := by
  have HR := hide hR
  clear hR
  go_enter Try.func33, Try.ntmps33
  go_wp2_with fail
  refine (block_end R a c a' c' d p0 _ (HR.out.below (below1 _ _))).mono ?_
  rintro e w1 ⟨rfl, rfl⟩
  go_wp2
  refine bodyPost_ret (v := .tuple #[.agg #[.int .i64 0, .int .i64 0, .int .i64 0, .slice none 0 0, .slice none 0 0], .bool false]) (by simp [results, Try.results33, go_sem]) rfl ⟨rfl, ?_⟩
  repeat refine Below.setCell ?_ (by simp) _
  exact below1 _ _

set_option maxHeartbeats 4000000 in
set_option maxRecDepth 100000 in
theorem rmark_next (R : Nat) (a : Option Addr) (c : Nat) (a' : Option Addr) (c' : Nat) (d : Dk) (p0 i : Nat) (seq : Int) (w w0 : World) (hR : Rd w R a c a' c' d p0 i) (hi : i < 24) (hD : IsDk w0 (.agg #[.slice a d.safe.length c, .slice a' d.wr.length c']) d) (hg : goodB d = true) (hb : Below w0.heap.size w0 w) :
    Calls Try.prog 33 #[.pointer (some ⟨R, 0, none⟩), .int .i64 seq] w fun e w' => ∃ v, e = .returned (.tuple #[v, .bool (decide ((stampDec ((logOf d p0).getD i ByteArray.empty)).2 = 0) && decide ((stampDec ((logOf d p0).getD i ByteArray.empty)).1.seq = seq))]) ∧ IsMkN w' w.heap.size v (stampDec ((logOf d p0).getD i ByteArray.empty)).1 ∧ Rd w' R a c a' c' d p0 (i + 1) ∧ But R w.heap.size w w' := by
  have HR := hide hR
  have hRl := hR.lt
  have HD := hide hD
  have HBW := hide hb
  clear hR hD hb
  go_enter Try.func33, Try.ntmps33
  go_wp2_with fail
  refine (block_next R a c a' c' d p0 i _ w0 (HR.out.below (below1 _ _)) hi HD.out hg (bthen HBW.out (below1 _ _))).mono ?_
  rintro e w1 ⟨rfl, hR1, hb1⟩
  rw [block_text d p0 i hi]
  obtain ⟨s, hse⟩ : ∃ s, s = (logOf d p0).getD i ByteArray.empty := ⟨_, rfl⟩
  rw [← hse]
  have HSE := hide hse
  clear hse
  have HR1 := hide hR1
  have HB1 := hide hb1
  have hs1 : w.heap.size + 1 ≤ w1.heap.size := by have := hb1.size; simpa using this
  have hs1' : w.heap.size < w1.heap.size := by omega
  have K4 : Hid (w1.heap[w.heap.size]? = some (.cells #[.int .i64 0, .int .i64 0, .int .i64 0, .slice none 0 0, .slice none 0 0] 58 (0, 0))) := (hb1.block _ (by simp) (by omega)).trans (heap_alloc_new w _)
  clear hR1 hb1 HR HD HBW
  go_wp2_with fail
  refine (stampDecode_new s _).mono ?_
  rintro e w2 ⟨v2, rfl, hN, hb2⟩
  obtain ⟨a2, c2, a3, c3, rfl, hT, hI, n1, n2, t1, t2⟩ := hN
  obtain ⟨m, hm⟩ : ∃ m, m = stampDec s := ⟨_, rfl⟩
  rw [← hm] at hT hI n1 n2 ⊢
  have HT := hide hT
  have HI := hide hI
  have HA : Hid ((∀ b off, a2 = some ⟨b, off, none⟩ → w.heap.size + 1 ≤ b) ∧ ∀ b off, a3 = some ⟨b, off, none⟩ → w.heap.size + 1 ≤ b) := ⟨fun b off e => Nat.le_trans hs1 (t1 b off e), fun b off e => Nat.le_trans hs1 (t2 b off e)⟩
  have HR2 := hide (HR1.out.below hb2)
  have K2 := hide (boxKeep hb2 hs1' K4.out)
  have HB2 : Hid (But R w.heap.size w w2) := (((But.of_below (below1 _ _)).trans HB1.out (by simp)).trans (But.of_below hb2) (by omega))
  have hs2 : w.heap.size < w2.heap.size := by have := hb2.size; omega
  have N12 := hide (And.intro n1 n2)
  have HZ := hide hm
  clear hT hI n1 n2 t1 t2 hb2 HR1 HB1 K4 hm
  obtain ⟨⟨y0, y1, y2, y3, y4⟩, f0, f1, f2, f3, f4⟩ := box5 K2.out
  obtain ⟨mk, er⟩ := m
  by_cases he : er = 0
  · subst he
    by_cases hq : mk.seq = seq
    · have hq' : (mk.seq == seq) = true := by simpa using hq
      go_wp2
      go_region
      all_goals
        obtain ⟨W, hW⟩ : ∃ W, W = ((((((w2.setCell ⟨w.heap.size, 0, none⟩ (.int .i64 mk.kind)).setCell ⟨w.heap.size, 1, none⟩ (.int .i64 seq)).setCell ⟨w.heap.size, 2, none⟩ (.int .i64 mk.pos)).setCell ⟨w.heap.size, 3, none⟩ (.slice a2 mk.tags.length c2)).setCell ⟨w.heap.size, 4, none⟩ (.slice a3 mk.blocks.length c3)).alloc (.cells #[.int .i64 mk.kind, .int .i64 seq, .int .i64 mk.pos, .slice a2 mk.tags.length c2, .slice a3 mk.blocks.length c3] 58)).drew := ⟨_, rfl⟩
        have hbx := stored5 K2.out (.int .i64 mk.kind) (.int .i64 seq) (.int .i64 mk.pos) (.slice a2 mk.tags.length c2) (.slice a3 mk.blocks.length c3) (.cells #[.int .i64 mk.kind, .int .i64 seq, .int .i64 mk.pos, .slice a2 mk.tags.length c2, .slice a3 mk.blocks.length c3] 58)
        rw [← hW] at hbx
        obtain ⟨⟨z0, z1, z2, z3, z4⟩, _⟩ := box5 hbx
        have HW := hide hW
        rw [← hW]
        clear hW hbx y0 y1 y2 y3 y4 f0 f1 f2 f3 f4
        go_wp2
        refine bodyPost_ret (v := .tuple #[.agg #[.int .i64 mk.kind, .int .i64 seq, .int .i64 mk.pos, .slice a2 mk.tags.length c2, .slice a3 mk.blocks.length c3], .bool true]) (by simp [results, Try.results33, go_sem, z0, z1, z2, z3, z4]) rfl ⟨.agg #[.int .i64 mk.kind, .int .i64 seq, .int .i64 mk.pos, .slice a2 mk.tags.length c2, .slice a3 mk.blocks.length c3], by rw [← HSE.out, ← HZ.out]; simp [hq], ?_, ?_, ?_⟩
        · rw [← HSE.out, ← HZ.out]
          refine ⟨a2, c2, a3, c3, by rw [hq], ?_, ?_, N12.out.1, N12.out.2, fun b off e => (by have := HA.out.1 b off e; omega), fun b off e => (by have := HA.out.2 b off e; omega)⟩
          · rw [HW.out]
            refine SegT.below ?_ (bthen (below1 _ _) ((Below.refl _ _).drew))
            repeat refine SegT.setNe ?_ (fun b off e => by have := HA.out.1 b off e; simp; omega) _
            exact HT.out
          · rw [HW.out]
            refine SegI.below ?_ (bthen (below1 _ _) ((Below.refl _ _).drew))
            repeat refine SegI.setNe ?_ (fun b off e => by have := HA.out.2 b off e; simp; omega) _
            exact HI.out
        · rw [HW.out]
          refine Rd.below ?_ (bthen (below1 _ _) ((Below.refl _ _).drew))
          repeat refine Rd.setNe ?_ (show R ≠ w.heap.size by omega) _
          exact HR2.out
        · rw [HW.out]
          refine But.trans ?_ (But.of_below (bthen (below1 _ _) ((Below.refl _ _).drew))) (by simp [World.setCell]; omega)
          exact (((((HB2.out.setNew (p := ⟨w.heap.size, 0, none⟩) (Nat.le_refl _) _).setNew (p := ⟨w.heap.size, 1, none⟩) (Nat.le_refl _) _).setNew (p := ⟨w.heap.size, 2, none⟩) (Nat.le_refl _) _).setNew (p := ⟨w.heap.size, 3, none⟩) (Nat.le_refl _) _).setNew (p := ⟨w.heap.size, 4, none⟩) (Nat.le_refl _) _)
    · have hq' : (mk.seq == seq) = false := by simpa using hq
      go_wp2
      go_region
      all_goals
        obtain ⟨W, hW⟩ : ∃ W, W = ((((((w2.setCell ⟨w.heap.size, 0, none⟩ (.int .i64 mk.kind)).setCell ⟨w.heap.size, 1, none⟩ (.int .i64 mk.seq)).setCell ⟨w.heap.size, 2, none⟩ (.int .i64 mk.pos)).setCell ⟨w.heap.size, 3, none⟩ (.slice a2 mk.tags.length c2)).setCell ⟨w.heap.size, 4, none⟩ (.slice a3 mk.blocks.length c3)).alloc (.cells #[.int .i64 mk.kind, .int .i64 mk.seq, .int .i64 mk.pos, .slice a2 mk.tags.length c2, .slice a3 mk.blocks.length c3] 58)).drew := ⟨_, rfl⟩
        have hbx := stored5 K2.out (.int .i64 mk.kind) (.int .i64 mk.seq) (.int .i64 mk.pos) (.slice a2 mk.tags.length c2) (.slice a3 mk.blocks.length c3) (.cells #[.int .i64 mk.kind, .int .i64 mk.seq, .int .i64 mk.pos, .slice a2 mk.tags.length c2, .slice a3 mk.blocks.length c3] 58)
        rw [← hW] at hbx
        obtain ⟨⟨z0, z1, z2, z3, z4⟩, _⟩ := box5 hbx
        have HW := hide hW
        rw [← hW]
        clear hW hbx y0 y1 y2 y3 y4 f0 f1 f2 f3 f4
        go_wp2
        refine bodyPost_ret (v := .tuple #[.agg #[.int .i64 mk.kind, .int .i64 mk.seq, .int .i64 mk.pos, .slice a2 mk.tags.length c2, .slice a3 mk.blocks.length c3], .bool false]) (by simp [results, Try.results33, go_sem, z0, z1, z2, z3, z4]) rfl ⟨.agg #[.int .i64 mk.kind, .int .i64 mk.seq, .int .i64 mk.pos, .slice a2 mk.tags.length c2, .slice a3 mk.blocks.length c3], by rw [← HSE.out, ← HZ.out]; simp [hq], ?_, ?_, ?_⟩
        · rw [← HSE.out, ← HZ.out]
          refine ⟨a2, c2, a3, c3, rfl, ?_, ?_, N12.out.1, N12.out.2, fun b off e => (by have := HA.out.1 b off e; omega), fun b off e => (by have := HA.out.2 b off e; omega)⟩
          · rw [HW.out]
            refine SegT.below ?_ (bthen (below1 _ _) ((Below.refl _ _).drew))
            repeat refine SegT.setNe ?_ (fun b off e => by have := HA.out.1 b off e; simp; omega) _
            exact HT.out
          · rw [HW.out]
            refine SegI.below ?_ (bthen (below1 _ _) ((Below.refl _ _).drew))
            repeat refine SegI.setNe ?_ (fun b off e => by have := HA.out.2 b off e; simp; omega) _
            exact HI.out
        · rw [HW.out]
          refine Rd.below ?_ (bthen (below1 _ _) ((Below.refl _ _).drew))
          repeat refine Rd.setNe ?_ (show R ≠ w.heap.size by omega) _
          exact HR2.out
        · rw [HW.out]
          refine But.trans ?_ (But.of_below (bthen (below1 _ _) ((Below.refl _ _).drew))) (by simp [World.setCell]; omega)
          exact (((((HB2.out.setNew (p := ⟨w.heap.size, 0, none⟩) (Nat.le_refl _) _).setNew (p := ⟨w.heap.size, 1, none⟩) (Nat.le_refl _) _).setNew (p := ⟨w.heap.size, 2, none⟩) (Nat.le_refl _) _).setNew (p := ⟨w.heap.size, 3, none⟩) (Nat.le_refl _) _).setNew (p := ⟨w.heap.size, 4, none⟩) (Nat.le_refl _) _)
  · have he' : (er == 0) = false := by simpa using he
    go_wp2
    go_region
    all_goals
      obtain ⟨W, hW⟩ : ∃ W, W = ((((((w2.setCell ⟨w.heap.size, 0, none⟩ (.int .i64 mk.kind)).setCell ⟨w.heap.size, 1, none⟩ (.int .i64 mk.seq)).setCell ⟨w.heap.size, 2, none⟩ (.int .i64 mk.pos)).setCell ⟨w.heap.size, 3, none⟩ (.slice a2 mk.tags.length c2)).setCell ⟨w.heap.size, 4, none⟩ (.slice a3 mk.blocks.length c3)).alloc (.cells #[.int .i64 mk.kind, .int .i64 mk.seq, .int .i64 mk.pos, .slice a2 mk.tags.length c2, .slice a3 mk.blocks.length c3] 58)).drew := ⟨_, rfl⟩
      have hbx := stored5 K2.out (.int .i64 mk.kind) (.int .i64 mk.seq) (.int .i64 mk.pos) (.slice a2 mk.tags.length c2) (.slice a3 mk.blocks.length c3) (.cells #[.int .i64 mk.kind, .int .i64 mk.seq, .int .i64 mk.pos, .slice a2 mk.tags.length c2, .slice a3 mk.blocks.length c3] 58)
      rw [← hW] at hbx
      obtain ⟨⟨z0, z1, z2, z3, z4⟩, _⟩ := box5 hbx
      have HW := hide hW
      rw [← hW]
      clear hW hbx y0 y1 y2 y3 y4 f0 f1 f2 f3 f4
      go_wp2
      refine bodyPost_ret (v := .tuple #[.agg #[.int .i64 mk.kind, .int .i64 mk.seq, .int .i64 mk.pos, .slice a2 mk.tags.length c2, .slice a3 mk.blocks.length c3], .bool false]) (by simp [results, Try.results33, go_sem, z0, z1, z2, z3, z4]) rfl ⟨.agg #[.int .i64 mk.kind, .int .i64 mk.seq, .int .i64 mk.pos, .slice a2 mk.tags.length c2, .slice a3 mk.blocks.length c3], by rw [← HSE.out, ← HZ.out]; simp [he], ?_, ?_, ?_⟩
      · rw [← HSE.out, ← HZ.out]
        refine ⟨a2, c2, a3, c3, rfl, ?_, ?_, N12.out.1, N12.out.2, fun b off e => (by have := HA.out.1 b off e; omega), fun b off e => (by have := HA.out.2 b off e; omega)⟩
        · rw [HW.out]
          refine SegT.below ?_ (bthen (below1 _ _) ((Below.refl _ _).drew))
          repeat refine SegT.setNe ?_ (fun b off e => by have := HA.out.1 b off e; simp; omega) _
          exact HT.out
        · rw [HW.out]
          refine SegI.below ?_ (bthen (below1 _ _) ((Below.refl _ _).drew))
          repeat refine SegI.setNe ?_ (fun b off e => by have := HA.out.2 b off e; simp; omega) _
          exact HI.out
      · rw [HW.out]
        refine Rd.below ?_ (bthen (below1 _ _) ((Below.refl _ _).drew))
        repeat refine Rd.setNe ?_ (show R ≠ w.heap.size by omega) _
        exact HR2.out
      · rw [HW.out]
        refine But.trans ?_ (But.of_below (bthen (below1 _ _) ((Below.refl _ _).drew))) (by simp [World.setCell]; omega)
        exact (((((HB2.out.setNew (p := ⟨w.heap.size, 0, none⟩) (Nat.le_refl _) _).setNew (p := ⟨w.heap.size, 1, none⟩) (Nat.le_refl _) _).setNew (p := ⟨w.heap.size, 2, none⟩) (Nat.le_refl _) _).setNew (p := ⟨w.heap.size, 3, none⟩) (Nat.le_refl _) _).setNew (p := ⟨w.heap.size, 4, none⟩) (Nat.le_refl _) _)

end Go.Proofs.Ytjnpndfpajjihac
