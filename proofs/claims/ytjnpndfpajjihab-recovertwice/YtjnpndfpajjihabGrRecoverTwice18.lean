/-
  What a call that changes one block of its caller's leaves as it was.
  The walks of package scan's reader: block.
-/
import Derived.Test.YtjnpndfpajjihabGrRecoverTwice17
namespace Go.Proofs.Ytjnpndfpajjihab
open Go.RowKit

/-- All that lies below a block is as it was, but for one block. -/
structure But (R base : Nat) (w w' : World) : Prop where
  os : w'.os = w.os
  tape : w'.tape = w.tape
  output : w'.output = w.output
  size : w.heap.size ≤ w'.heap.size
  block : ∀ k, k < base → k ≠ R → w'.heap[k]? = w.heap[k]?
theorem But.of_below {R base : Nat} {w w' : World} (h : Below base w w') : But R base w w' := ⟨h.os, h.tape, h.output, h.size, fun k hk _ => h.block k hk⟩
theorem But.trans {R base base2 : Nat} {w w1 w2 : World} (h : But R base w w1) (k : But R base2 w1 w2) (hb : base ≤ base2) : But R base w w2 :=
  ⟨k.os.trans h.os, k.tape.trans h.tape, k.output.trans h.output, Nat.le_trans h.size k.size, fun j hj hn => (k.block j (by omega) hn).trans (h.block j hj hn)⟩
theorem But.cell {R base : Nat} {w w' : World} (h : But R base w w') {b o : Nat} {v : Value} (hb : b < base) (hn : b ≠ R) (hc : w.cell? ⟨b, o, none⟩ = some v) : w'.cell? ⟨b, o, none⟩ = some v :=
  (World.cell?_of_block (h.block b hb hn)).trans hc

theorem owns_but {R base : Nat} {w w' : World} {e : TypeId} {size : Nat} {v : Value} {n : Nat} {xs : List Value} (h : w.ownsRow base e size v n xs) (hb : But R w.heap.size w w') (hR : R < base) : w'.ownsRow base e size v n xs := by
  refine ⟨h.1, ?_⟩
  rcases h.2 with h0 | ⟨g, cap, cur, hv, hg, hh, r⟩
  · exact .inl h0
  · exact .inr ⟨g, cap, cur, hv, hg, (hb.block g (Array.getElem?_eq_some_iff.1 hh).1 (by omega)).trans hh, r⟩

end Go.Proofs.Ytjnpndfpajjihab

namespace Go.Proofs.Ytjnpndfpajjihab
open Go.RowKit

/-- The reader of a log, at a place behind where it began: block R. -/
def Rd (w : World) (R : Nat) (a : Option Addr) (c : Nat) (a' : Option Addr) (c' : Nat) (d : Dk) (p0 i : Nat) : Prop :=
  w.heap[R]? = some (.cells #[.slice a d.safe.length c, .slice a' d.wr.length c', .int .i64 (((p0 + i) % 24 : Nat) : Int), .int .i64 ((24 - i : Nat) : Int)] 135 (0, 0))
theorem box4 {w : World} {B : Nat} {v0 v1 v2 v3 : Value} {t : TypeId} (h : w.heap[B]? = some (.cells #[v0, v1, v2, v3] t (0, 0))) :
    (w.cell? ⟨B, 0, none⟩ = some v0 ∧ w.cell? ⟨B, 1, none⟩ = some v1 ∧ w.cell? ⟨B, 2, none⟩ = some v2 ∧ w.cell? ⟨B, 3, none⟩ = some v3) ∧ ∀ k, w.frozen? ⟨B, k, none⟩ = false := by
  refine ⟨⟨?_, ?_, ?_, ?_⟩, fun k => frozen_of_row w _ _ _ _ h⟩ <;> (rw [cell_of_row w _ _ _ _ _ h]; rfl)
theorem But.below {R base : Nat} {w w' w0 : World} (h : But R w.heap.size w w') (hb : Below base w0 w) (hw : base ≤ w.heap.size) (hR : base ≤ R) : Below base w0 w' :=
  ⟨h.os.trans hb.os, h.tape.trans hb.tape, h.output.trans hb.output, Nat.le_trans hb.size h.size, fun k hk => (h.block k (by omega) (by omega)).trans (hb.block k hk)⟩
theorem But.setCell {R base o : Nat} {w w' : World} (h : But R base w w') (u : Value) : But R base w (w'.setCell ⟨R, o, none⟩ u) := by
  refine ⟨h.os, h.tape, h.output, by simpa [World.setCell] using h.size, fun k hk hn => ?_⟩
  rw [World.setCell]
  simp only [Array.getElem?_modify]
  rw [if_neg (fun x => hn x.symm)]
  exact h.block k hk hn
theorem good_read {d : Dk} (h : goodB d = true) {p : Nat} (hp : p < 24) : readE d (1 + (p : Int)) = 0 := by
  have : placeB (1 + (p : Int)) = true := by simp [placeB]; omega
  simp [readE, h, this]

set_option maxHeartbeats 2000000 in
set_option maxRecDepth 100000 in
theorem block_end (R : Nat) (a : Option Addr) (c : Nat) (a' : Option Addr) (c' : Nat) (d : Dk) (p0 : Nat) (w : World) (hR : Rd w R a c a' c' d p0 24) :
    Calls Try.prog 177 #[.pointer (some ⟨R, 0, none⟩)] w fun e w' => e = .returned (.tuple #[.string ⟨#[]⟩, .bool false]) ∧ w = w' := by
  obtain ⟨⟨x0, x1, x2, x3⟩, ff⟩ := box4 hR
  clear hR
  simp only [Nat.sub_self] at x3
  go_enter Try.func177, Try.ntmps177
  go_wp2
  exact bodyPost_ret (v := .tuple #[.string ⟨#[]⟩, .bool false]) (by simp [results, Try.results177, go_sem]) rfl ⟨rfl, rfl⟩

set_option maxHeartbeats 4000000 in
set_option maxRecDepth 100000 in
theorem block_next (R : Nat) (a : Option Addr) (c : Nat) (a' : Option Addr) (c' : Nat) (d : Dk) (p0 i : Nat) (w w0 : World) (hR : Rd w R a c a' c' d p0 i) (hi : i < 24) (hD : IsDk w0 (.agg #[.slice a d.safe.length c, .slice a' d.wr.length c']) d) (hg : goodB d = true) (hb : Below w0.heap.size w0 w) :
    Calls Try.prog 177 #[.pointer (some ⟨R, 0, none⟩)] w fun e w' => e = .returned (.tuple #[.string (readT d (1 + (((p0 + i) % 24 : Nat) : Int))), .bool true]) ∧ Rd w' R a c a' c' d p0 (i + 1) ∧ But R w.heap.size w w' := by
  have HR := hide hR
  have hRl : R < w.heap.size := (Array.getElem?_eq_some_iff.1 hR).1
  obtain ⟨p, hp⟩ : ∃ p, p = (p0 + i) % 24 := ⟨_, rfl⟩
  have hp24 : p < 24 := by omega
  have HP2 : Hid ((p0 + (i + 1)) % 24 = (p + 1) % 24) := by rw [Hid, hp]; omega
  have HP := hide hp
  have HP0 : Hid ((((p0 + i) % 24 : Nat) : Int) = (p : Int)) := by rw [Hid, ← hp]
  obtain ⟨⟨x0, x1, x2, x3⟩, ff⟩ := box4 hR
  rw [← hp] at x2 ⊢
  have HD := hide hD
  have HBW := hide hb
  have HE := hide (good_read hg hp24)
  clear hR hD hb hp
  have hl0 : ((24 - i : Nat) : Int) = 24 - (i : Int) := by omega
  rw [hl0] at x3
  have hne : ((24 - (i : Int)) == 0) = false := by rw [beq_eq_false_iff_ne]; omega
  have ew : IntKind.i64.wrap (1 + (p : Int)) = 1 + (p : Int) := by rw [IntKind.wrap_i64]; omega
  have ew2 : IntKind.i64.wrap ((p : Int) + 1) = (p : Int) + 1 := by rw [IntKind.wrap_i64]; omega
  have em : ((p : Int) + 1).tmod 24 = (((p + 1) % 24 : Nat) : Int) := by rw [Int.tmod_eq_emod_of_nonneg (by omega)]; omega
  go_enter Try.func177, Try.ntmps177
  go_wp2
  go_region_with (go_at_call 58; refine (read_any _ d (1 + (p : Int)) _ (HD.out.below (bthen HBW.out ((Below.refl _ _).drew)))).mono ?_; rintro e w1 ⟨rfl, hb1⟩; rw [HE.out]; have hb1' : Below w.heap.size w w1 := ((Below.refl _ _).drew).trans hb1; have hR1 := boxKeep hb1' hRl HR.out; obtain ⟨⟨y0, y1, y2, y3⟩, fg⟩ := box4 hR1)
  all_goals
    have HR1 := hide hR1
    have HB1 := hide hb1'
    rw [HP0.out] at y2
    rw [hl0] at y3
    clear hb1 hb1' hR1 x0 x1 x2 x3 ff HD HBW HR
    go_wp2
    refine bodyPost_ret (v := .tuple #[.string (readT d (1 + (p : Int))), .bool true]) (by simp [results, Try.results177, go_sem]) rfl ⟨rfl, ?_, ?_⟩
    · have h1 := heap_setCell_same w1 R 2 _ _ (.int .i64 (((p + 1) % 24 : Nat) : Int)) HR1.out
      have h2 := heap_setCell_same _ R 3 _ _ (.int .i64 (24 - (i : Int) - 1)) h1
      rw [Rd, HP2.out, show ((24 - (i + 1) : Nat) : Int) = 24 - (i : Int) - 1 from by omega]
      exact h2
    · exact ((But.of_below HB1.out).setCell _).setCell _

end Go.Proofs.Ytjnpndfpajjihab
