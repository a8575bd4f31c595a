/-
  How great a good transaction is. Nothing of the program is proved here.
-/
import Derived.Test.YtjnpndfpajjihabGreatTGood
namespace Go.Proofs.YtjnpndfpajjihabGreat
open Go.RowKit

/-- How great a good transaction is. -/
theorem good_small {t : Tx} (h : goodX t = true) : t.info.length ≤ 12 ∧ t.data.length ≤ 12 ∧ t.rev.length ≤ 12 := by
  have := (goodX_iff t).1 h
  have h1 := rises_length this.2.2.1.1
  have h2 := rises_length this.2.2.1.2.1
  have h3 := rises_length this.2.2.1.2.2
  rw [blks_length] at h1 h2
  exact ⟨h1, h2, h3⟩

end Go.Proofs.YtjnpndfpajjihabGreat
