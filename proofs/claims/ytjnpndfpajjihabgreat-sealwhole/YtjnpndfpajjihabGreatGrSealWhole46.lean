/-
  The walk of seal's Commit, whatever it answers; what it answers at the least transaction.
  The walk of a statement's own seals: package seal answers at all.
-/
import Derived.Test.YtjnpndfpajjihabGreatECommit
namespace Go.Proofs.YtjnpndfpajjihabGreat
open Go.RowKit

theorem commit_cap (rh ru : Int) (t : Tx) (a0 a2 a4 : Option Addr) (a1 a3 a5 : Nat) (w : World) (hT : IsTx w (.agg #[.int .i64 t.seq, .slice a0 t.info.length a1, .slice a2 t.data.length a3, .slice a4 t.rev.length a5, .bool t.h0.on, .int .i64 t.h0.left, .bool t.h1.on, .int .i64 t.h1.left, .bool t.h2.on, .int .i64 t.h2.left]) t) (hci : t.info.length ≤ a1) (hcr : t.rev.length ≤ a5) (r1 : t.info.length * 24 ≤ 140737488355328) (r2 : t.data.length * 24 ≤ 140737488355328) :
    Calls Tryz.prog 16 #[.agg #[.int .i64 rh, .int .i64 ru], .agg #[.int .i64 t.seq, .slice a0 t.info.length a1, .slice a2 t.data.length a3, .slice a4 t.rev.length a5, .bool t.h0.on, .int .i64 t.h0.left, .bool t.h1.on, .int .i64 t.h1.left, .bool t.h2.on, .int .i64 t.h2.left]] w fun e w' => ∃ a c, e = .returned (.tuple #[.agg #[.int .i64 (sealH rh ru t), .int .i64 (sealU rh ru t)], .slice a (commitS rh ru t).length c, .int .i64 (sealE rh ru t)]) ∧ (commitS rh ru t).length ≤ c ∧ SegSt w' a (commitS rh ru t) ∧ Below w.heap.size w w' := by
  by_cases he : sealE rh ru t = 0
  · exact (commit_ok rh ru t a0 a2 a4 a1 a3 a5 w hT hci hcr he).mono fun _ _ ⟨a, c, h1, hc, _, h2, h3⟩ => ⟨a, c, h1, hc, h2, h3⟩
  · exact (commit_no rh ru _ t w hT r1 r2 he).mono fun _ _ ⟨a, c, h1, h2, h3⟩ => ⟨a, c, h1, by rw [commitS, if_neg he]; exact Nat.zero_le _, h2, h3⟩
theorem commit_any (rh ru : Int) (t : Tx) (a0 a2 a4 : Option Addr) (a1 a3 a5 : Nat) (w : World) (hT : IsTx w (.agg #[.int .i64 t.seq, .slice a0 t.info.length a1, .slice a2 t.data.length a3, .slice a4 t.rev.length a5, .bool t.h0.on, .int .i64 t.h0.left, .bool t.h1.on, .int .i64 t.h1.left, .bool t.h2.on, .int .i64 t.h2.left]) t) (hci : t.info.length ≤ a1) (hcr : t.rev.length ≤ a5) (r1 : t.info.length * 24 ≤ 140737488355328) (r2 : t.data.length * 24 ≤ 140737488355328) :
    Calls Tryz.prog 16 #[.agg #[.int .i64 rh, .int .i64 ru], .agg #[.int .i64 t.seq, .slice a0 t.info.length a1, .slice a2 t.data.length a3, .slice a4 t.rev.length a5, .bool t.h0.on, .int .i64 t.h0.left, .bool t.h1.on, .int .i64 t.h1.left, .bool t.h2.on, .int .i64 t.h2.left]] w fun e w' => ∃ a c, e = .returned (.tuple #[.agg #[.int .i64 (sealH rh ru t), .int .i64 (sealU rh ru t)], .slice a (commitS rh ru t).length c, .int .i64 (sealE rh ru t)]) ∧ SegSt w' a (commitS rh ru t) ∧ Below w.heap.size w w' := by
  exact (commit_cap rh ru t a0 a2 a4 a1 a3 a5 w hT hci hcr r1 r2).mono fun _ _ ⟨a, c, h1, _, h2, h3⟩ => ⟨a, c, h1, h2, h3⟩

def tx4 : Tx := ⟨1, [], [], [4], ⟨false, 0⟩, ⟨false, 0⟩, ⟨false, 0⟩⟩
theorem seal4 : sealE 0 0 tx4 = 0 ∧ sealH 0 0 tx4 = 2 ∧ sealU 0 0 tx4 = 2 := by decide +kernel
theorem commit4 : ∃ s1 s2, commitS 0 0 tx4 = [s1, flushS, s2, flushS] := by
  have hp : sealP 0 0 tx4 = [0, 1] := by decide +kernel
  refine ⟨writeS (1 + 0) (encT ⟨3, 1, 0, [], [4]⟩), writeS (1 + 1) (lastB tx4), ?_⟩
  rw [commitS, if_pos seal4.1, hp]
  rfl

end Go.Proofs.YtjnpndfpajjihabGreat

namespace Go.Proofs.YtjnpndfpajjihabGreat
open Go.RowKit

set_option maxHeartbeats 2000000 in
set_option maxRecDepth 100000 in
theorem sealsK_any (w : World) :
    Calls Tryz.prog 29 #[] w fun e w' => e = .returned (.bool true) ∧ Below w.heap.size w w' := by
  obtain ⟨s1, s2, h4⟩ := commit4
  go_enter Tryz.func29, Tryz.ntmps29
  go_wp2_with fail
  refine (commit_any 0 0 tx4 none none (some ⟨w.heap.size, 0, none⟩) 0 0 1 _ ⟨none, 0, none, 0, _, _, rfl, .inl rfl, .inl rfl, .inr ⟨w.heap.size, 0, rfl, by simp, fun i hi => ?_⟩, Nat.zero_le _, Nat.zero_le _, by decide⟩ (by decide) (by decide) (by decide) (by decide)).mono ?_
  · have : i = 0 := by simpa [tx4] using hi
    subst this
    simp [go_sem, tx4]
  rintro e w1 ⟨a, c, rfl, hS, hb1⟩
  rw [h4] at hS
  rw [h4, seal4.1, seal4.2.1, seal4.2.2]
  have HB := hide (bthen (below1 _ _) hb1)
  obtain ⟨b, off, rfl, hlt, hc⟩ := hS.resolve_left (by simp)
  have h3 := (hc 3 (by simp)).1
  have h3' : w1.cell? ⟨b, off + 9, none⟩ = some (.int .i64 2) := h3
  clear hc h3 hS hb1
  go_wp2
  go_ret
  exact ⟨rfl, bthen HB.out (below1 _ _)⟩

end Go.Proofs.YtjnpndfpajjihabGreat
