/-
  An argument of type api.Txn, as it reads: its three rows have room for what they hold.
-/
import Derived.Test.YtjnpndfpajjihabGreatOpenT
import Derived.Test.YtjnpndfpajjihabGreatGrSealWhole7
namespace Go.Proofs.YtjnpndfpajjihabGreat
open Go.RowKit Go.ChangeShapes Go.WideShapes Go.Deep Go.Joins

section
variable {H : Type} {enc : TypeId × Value → H} {w : World} {spare : Nat → Bool} {held : Bool}

theorem open_room {t e : TypeId} {fuel : Nat} {v : Value} {y : DataW H × List MemPlace} (ht : Tryz.prog.underlying t = some (.slice e)) (h : DataW.trod enc Tryz.prog w 0 spare held fuel t [v] = some y) :
    ∃ a n c, v = .slice a n c ∧ n ≤ c := by
  rcases open_slice ht h with ⟨hcs, _⟩ | ⟨x, l, c, m, n, D, Pl, hcs, _, hl, _⟩
  · simp only [List.cons.injEq, and_true] at hcs
    exact ⟨none, 0, 0, hcs, Nat.le_refl _⟩
  · simp only [List.cons.injEq, and_true] at hcs
    exact ⟨some x, l, c, hcs, hl⟩

set_option maxRecDepth 100000 in
theorem open_txn_room {r : Reach} {b0 : Nat} {v : Value} {dt : DataW H} {p : List MemPlace} (hv : Value.okWide Tryz.prog w r b0 28 v) (h : DataW.Trod enc Tryz.prog w 0 spare held 28 v dt p) : RoomTx v := by
  obtain ⟨cs, rfl, hsz⟩ := okWide_struct Tryz.underlying28 hv
  obtain ⟨c0, c1, c2, c3, c4, c5, c6, c7, c8, c9, rfl⟩ := array10 (hsz.trans cellsX10)
  obtain ⟨fuel, hf⟩ := h
  obtain ⟨xs, n, _, hx, hl, hlen, hg⟩ := DataW.trod_struct Tryz.underlying28 hf
  match xs, hlen with
  | [y0, y1, y2, y3, y4], _ =>
    have h1 := hg 1 _ rfl
    have h2 := hg 2 _ rfl
    have h3 := hg 3 _ rfl
    simp [Value.cells, cellsSC, cellsSI] at h1 h2 h3
    obtain ⟨a, k, c, rfl, e1⟩ := open_room Tryz.underlying22 h1
    obtain ⟨a', k', c', rfl, e2⟩ := open_room Tryz.underlying22 h2
    obtain ⟨b, m, d, rfl, e3⟩ := open_room Tryz.underlying23 h3
    exact ⟨_, _, _, _, _, _, _, _, _, _, _, _, _, _, _, _, rfl, e1, e2, e3⟩

end

end Go.Proofs.YtjnpndfpajjihabGreat
