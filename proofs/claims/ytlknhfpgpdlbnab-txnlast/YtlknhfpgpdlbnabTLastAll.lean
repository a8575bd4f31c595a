/-
  The walk of the statement TxnLast, whatever is answered first.
-/
import Derived.Test.YtlknhfpgpdlbnabTLastWalk
namespace Go.Proofs.Ytlknhfpgpdlbnab
open Go.RowKit

theorem last_walk (v : Value) (t : Tx) (h b : Int) (s u : ByteArray) (w : World) (hT : IsTx w v t) (r1 : t.info.length * 24 ≤ 140737488355328) (r2 : t.data.length * 24 ≤ 140737488355328) (hs : s.size ≤ maxLen) (hu : u.size ≤ maxLen) :
    Calls Try.prog 6 #[v, .int .i64 h, .int .i64 b, .string s, .string u] w fun e w' => e = .returned (.bool true) ∧ Below w.heap.size w w' := by
  by_cases he : changeE t h b (fitT s) = 0
  · exact last_ok v t h b s u w hT r1 r2 hs hu he
  · exact last_no v t h b s u w hT r1 r2 hs he

end Go.Proofs.Ytlknhfpgpdlbnab
