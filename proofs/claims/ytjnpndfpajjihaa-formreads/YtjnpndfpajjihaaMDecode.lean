/-
  The walk of the document's own DecodeMark: what is no mark at first sight.
-/
import Derived.Test.YtjnpndfpajjihaaMDecode0
import Derived.Test.YtjnpndfpajjihaaMKeep
import Derived.Test.YtjnpndfpajjihaaMkN
import Derived.Test.YtjnpndfpajjihaaMGood3
import Derived.Test.YtjnpndfpajjihaaEscPure
import Derived.Deep.QuietTactic
import Derived.BigQuiet
namespace Go.Proofs.Ytjnpndfpajjihaa
open Go.RowKit

set_option maxHeartbeats 2000000 in
set_option maxRecDepth 100000 in
theorem bad_any (w : World) :
    Calls Try.prog 80 #[] w fun e w' => e = .returned (.tuple #[.agg #[.int .i64 0, .int .i64 0, .int .i64 0, .slice none 0 0, .slice none 0 0], .int .i64 1]) ∧ Below w.heap.size w w' := by
  go_enter Try.func80, Try.ntmps80
  go_wp2
  refine bodyPost_ret (v := .tuple #[.agg #[.int .i64 0, .int .i64 0, .int .i64 0, .slice none 0 0, .slice none 0 0], .int .i64 1]) (by simp [results, Try.results80, go_sem]) rfl ⟨rfl, below1 _ _⟩

set_option maxHeartbeats 2000000 in
set_option maxRecDepth 100000 in
theorem decode_short (s : ByteArray) (w : World) (h : ¬ s.size = 32) :
    Calls Try.prog 41 #[.string s] w fun e w' => ∃ v2, e = .returned (.tuple #[v2, .int .i64 1]) ∧ IsMkN w' w.heap.size v2 zeroM ∧ Below w.heap.size w w' := by
  go_enter Try.func41, Try.ntmps41
  go_wp2_with fail
  refine (bad_any _).mono ?_
  rintro e w1 ⟨rfl, hb1⟩
  have hs1 : w.heap.size < w1.heap.size := by have := hb1.size; simp at this; omega
  obtain ⟨⟨y0, y1, y2, y3, y4⟩, f0, f1, f2, f3, f4⟩ := box5 (keep0 hb1)
  have HB := hide (bthen (below1 _ _) hb1)
  clear hb1
  go_wp2
  refine bodyPost_ret (v := .tuple #[.agg #[.int .i64 0, .int .i64 0, .int .i64 0, .slice none 0 0, .slice none 0 0], .int .i64 1]) (by simp [results, Try.results41, go_sem, y0, y1, y2, y3, y4]) rfl ⟨_, rfl, isZeroN _ _, ?_⟩
  repeat refine Below.setCell ?_ (by simp) _
  exact HB.out

set_option maxHeartbeats 2000000 in
set_option maxRecDepth 100000 in
theorem decode_magic (s : ByteArray) (w : World) (h : s.size = 32) (hm : isMagic s = false) :
    Calls Try.prog 41 #[.string s] w fun e w' => ∃ v2, e = .returned (.tuple #[v2, .int .i64 1]) ∧ IsMkN w' w.heap.size v2 zeroM ∧ Below w.heap.size w w' := by
  have hm' : ((s.extract 0 4).toList == [87, 66, 75, 49]) = false := by rw [isMagic, if_pos (by omega)] at hm; exact hm
  clear hm
  go_enter Try.func41, Try.ntmps41
  go_wp2_with fail
  refine (bad_any _).mono ?_
  rintro e w1 ⟨rfl, hb1⟩
  have hs1 : w.heap.size < w1.heap.size := by have := hb1.size; simp at this; omega
  obtain ⟨⟨y0, y1, y2, y3, y4⟩, f0, f1, f2, f3, f4⟩ := box5 (keep0 hb1)
  have HB := hide (bthen (below1 _ _) hb1)
  clear hb1
  go_wp2
  refine bodyPost_ret (v := .tuple #[.agg #[.int .i64 0, .int .i64 0, .int .i64 0, .slice none 0 0, .slice none 0 0], .int .i64 1]) (by simp [results, Try.results41, go_sem, y0, y1, y2, y3, y4]) rfl ⟨_, rfl, isZeroN _ _, ?_⟩
  repeat refine Below.setCell ?_ (by simp) _
  exact HB.out

end Go.Proofs.Ytjnpndfpajjihaa
