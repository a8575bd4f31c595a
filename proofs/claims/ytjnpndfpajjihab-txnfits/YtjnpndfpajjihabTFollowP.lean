/-
  The walk of wastebookkeep's own follow: an order to a transaction.
-/
import Derived.Test.YtjnpndfpajjihabTKeeps
import Derived.Test.YtjnpndfpajjihabTxBox
import Derived.Test.YtjnpndfpajjihabTChange
import Derived.Test.YtjnpndfpajjihabTFill
import Derived.Test.YtjnpndfpajjihabTRevoke
import Derived.Test.YtjnpndfpajjihabTStop
import Derived.Test.YtjnpndfpajjihabRPick
import Derived.Test.YtjnpndfpajjihabTNamesAll
import Derived.Deep.CutRange
import Derived.Deep.RegionWith
namespace Go.Proofs.Ytjnpndfpajjihab
open Go.RowKit

/-- A block of five cells. -/
theorem boxO {w : World} {B : Nat} {v0 v1 v2 v3 v4 : Value} {t : TypeId} (h : w.heap[B]? = some (.cells #[v0, v1, v2, v3, v4] t (0, 0))) :
    (w.cell? ⟨B, 0, none⟩ = some v0 ∧ w.cell? ⟨B, 1, none⟩ = some v1 ∧ w.cell? ⟨B, 2, none⟩ = some v2 ∧ w.cell? ⟨B, 3, none⟩ = some v3 ∧ w.cell? ⟨B, 4, none⟩ = some v4) ∧ ∀ k, w.frozen? ⟨B, k, none⟩ = false := by
  refine ⟨⟨?_, ?_, ?_, ?_, ?_⟩, fun k => frozen_of_row w _ _ _ _ h⟩ <;> (rw [cell_of_row w _ _ _ _ _ h]; rfl)
theorem RowsFrom.mono {b b' : Nat} {v : Value} {t : Tx} (h : RowsFrom b v t) (hb : b' ≤ b) : RowsFrom b' v t := by
  obtain ⟨a, c, a', c', r, d, e, h1, h2, h3⟩ := h
  exact ⟨a, c, a', c', r, d, e, fun x o q => Nat.le_trans hb (h1 x o q), fun x o q => Nat.le_trans hb (h2 x o q), fun x o q => Nat.le_trans hb (h3 x o q)⟩
theorem IsTx.put10 {w w1 : World} {B base : Nat} {v : Value} {x t : Tx} {g0 : Option Addr} {g1 : Nat} {g2 : Option Addr} {g3 : Nat} {g4 : Option Addr} {g5 : Nat} (h : IsTx w (.agg #[.int .i64 x.seq, .slice g0 x.info.length g1, .slice g2 x.data.length g3, .slice g4 x.rev.length g5, .bool x.h0.on, .int .i64 x.h0.left, .bool x.h1.on, .int .i64 x.h1.left, .bool x.h2.on, .int .i64 x.h2.left]) x)
    (hd : (.agg #[.int .i64 x.seq, .slice g0 x.info.length g1, .slice g2 x.data.length g3, .slice g4 x.rev.length g5, .bool x.h0.on, .int .i64 x.h0.left, .bool x.h1.on, .int .i64 x.h1.left, .bool x.h2.on, .int .i64 x.h2.left] : Value) = v ∨ RowsFrom base (.agg #[.int .i64 x.seq, .slice g0 x.info.length g1, .slice g2 x.data.length g3, .slice g4 x.rev.length g5, .bool x.h0.on, .int .i64 x.h0.left, .bool x.h1.on, .int .i64 x.h1.left, .bool x.h2.on, .int .i64 x.h2.left]) x) (h1 : IsTx w1 v t) (hB1 : w1.heap.size ≤ B) (hB2 : B < base) :
    IsTx ((((((((((w.setCell ⟨B, 0, none⟩ (.int .i64 x.seq)).setCell ⟨B, 1, none⟩ (.slice g0 x.info.length g1)).setCell ⟨B, 2, none⟩ (.slice g2 x.data.length g3)).setCell ⟨B, 3, none⟩ (.slice g4 x.rev.length g5)).setCell ⟨B, 4, none⟩ (.bool x.h0.on)).setCell ⟨B, 5, none⟩ (.int .i64 x.h0.left)).setCell ⟨B, 6, none⟩ (.bool x.h1.on)).setCell ⟨B, 7, none⟩ (.int .i64 x.h1.left)).setCell ⟨B, 8, none⟩ (.bool x.h2.on)).setCell ⟨B, 9, none⟩ (.int .i64 x.h2.left)) (.agg #[.int .i64 x.seq, .slice g0 x.info.length g1, .slice g2 x.data.length g3, .slice g4 x.rev.length g5, .bool x.h0.on, .int .i64 x.h0.left, .bool x.h1.on, .int .i64 x.h1.left, .bool x.h2.on, .int .i64 x.h2.left]) x := by
  rcases hd with e | e
  · rw [← e] at h1
    exact h.setOld10 h1 hB1 _ _ _ _ _ _ _ _ _ _
  · exact h.set10 e hB2 _ _ _ _ _ _ _ _ _ _

end Go.Proofs.Ytjnpndfpajjihab
