/-
  The walk of wastebookkeep's own follow.
-/
import Derived.Test.YtfgedpicpkpdhabTFollow0
import Derived.Test.YtfgedpicpkpdhabTFollow1
import Derived.Test.YtfgedpicpkpdhabTFollow2
import Derived.Test.YtfgedpicpkpdhabTFollow3
import Derived.Test.YtfgedpicpkpdhabTFollow4
namespace Go.Proofs.Ytfgedpicpkpdhab
open Go.RowKit

theorem follow_all (v : Value) (t : Tx) (k h b n free : Int) (s : ByteArray) (w : World) (hT : IsTx w v t) (r1 : t.info.length * 24 ≤ 140737488355328) (r2 : t.data.length * 24 ≤ 140737488355328) (hs : s.size ≤ maxLen)
    (wk : -9223372036854775808 ≤ k ∧ k ≤ 9223372036854775807) (wh : -9223372036854775808 ≤ h ∧ h ≤ 9223372036854775807) (wb : -9223372036854775808 ≤ b ∧ b ≤ 9223372036854775807) :
    Calls Try.prog 27 #[v, .agg #[.int .i64 k, .int .i64 h, .int .i64 b, .int .i64 n, .string s], .int .i64 free] w fun e w' => ∃ v2, e = .returned (.tuple #[v2, .int .i64 (followE t (k % 5) (h % 3) (b % 12) n free (fitT s))]) ∧ IsTx w' v2 (followT t (k % 5) (h % 3) (b % 12) n free (fitT s)) ∧ (v2 = v ∨ RowsFrom w.heap.size v2 (followT t (k % 5) (h % 3) (b % 12) n free (fitT s))) ∧ Below w.heap.size w w' := by
  have h1 := Int.emod_lt_of_pos k (show (0 : Int) < 5 by omega)
  have h2 := Int.emod_nonneg k (show (5 : Int) ≠ 0 by omega)
  obtain hk | hk | hk | hk | hk : k % 5 = 0 ∨ k % 5 = 1 ∨ k % 5 = 2 ∨ k % 5 = 3 ∨ k % 5 = 4 := by omega
  · have e1 : followE t (k % 5) (h % 3) (b % 12) n free (fitT s) = beginE t (h % 3) n free := by rw [followE, hk, if_pos rfl]
    have e2 : followT t (k % 5) (h % 3) (b % 12) n free (fitT s) = beginT t (h % 3) n free := by rw [followT, hk, if_pos rfl]
    rw [e1, e2]
    exact follow_0 v t k h b n free s w hT r1 r2 hs wk wh wb hk
  · have e1 : followE t (k % 5) (h % 3) (b % 12) n free (fitT s) = changeE t (h % 3) (b % 12) (fitT s) := by rw [followE, hk, if_neg (by decide), if_pos rfl]
    have e2 : followT t (k % 5) (h % 3) (b % 12) n free (fitT s) = changeT t (h % 3) (b % 12) (fitT s) := by rw [followT, hk, if_neg (by decide), if_pos rfl]
    rw [e1, e2]
    exact follow_1 v t k h b n free s w hT r1 r2 hs wk wh wb hk
  · have e1 : followE t (k % 5) (h % 3) (b % 12) n free (fitT s) = fillE t (h % 3) (b % 12) (fitT s) := by rw [followE, hk, if_neg (by decide), if_neg (by decide), if_pos rfl]
    have e2 : followT t (k % 5) (h % 3) (b % 12) n free (fitT s) = fillT t (h % 3) (b % 12) (fitT s) := by rw [followT, hk, if_neg (by decide), if_neg (by decide), if_pos rfl]
    rw [e1, e2]
    exact follow_2 v t k h b n free s w hT r1 r2 hs wk wh wb hk
  · have e1 : followE t (k % 5) (h % 3) (b % 12) n free (fitT s) = revokeE t (h % 3) (b % 12) := by rw [followE, hk, if_neg (by decide), if_neg (by decide), if_neg (by decide), if_pos rfl]
    have e2 : followT t (k % 5) (h % 3) (b % 12) n free (fitT s) = revokeT t (h % 3) (b % 12) := by rw [followT, hk, if_neg (by decide), if_neg (by decide), if_neg (by decide), if_pos rfl]
    rw [e1, e2]
    exact follow_3 v t k h b n free s w hT r1 r2 hs wk wh wb hk
  · have e1 : followE t (k % 5) (h % 3) (b % 12) n free (fitT s) = stopE t (h % 3) := by rw [followE, hk, if_neg (by decide), if_neg (by decide), if_neg (by decide), if_neg (by decide)]
    have e2 : followT t (k % 5) (h % 3) (b % 12) n free (fitT s) = stopT t (h % 3) := by rw [followT, hk, if_neg (by decide), if_neg (by decide), if_neg (by decide), if_neg (by decide)]
    rw [e1, e2]
    exact follow_4 v t k h b n free s w hT r1 r2 hs wk wh wb hk

end Go.Proofs.Ytfgedpicpkpdhab
