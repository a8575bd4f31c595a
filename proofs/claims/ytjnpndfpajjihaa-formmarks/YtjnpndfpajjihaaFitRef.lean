/-
  The walk of the document's own FitText.
-/
import Derived.Test.YtjnpndfpajjihaaFitPure
import Derived.Test.YtjnpndfpajjihaaByteOne
namespace Go.Proofs.Ytjnpndfpajjihaa
open Go.RowKit

/-- The array of FitText behind k rounds. -/
def fitRow (s : ByteArray) (k : Nat) : List UInt8 := s.data.toList.take k ++ List.replicate (32 - k) 0

theorem fitRow_length (s : ByteArray) (k : Nat) (h : k ≤ s.size) (h32 : k ≤ 32) : (fitRow s k).length = 32 := by
  have : s.data.toList.length = s.size := rfl
  simp [fitRow]; omega
theorem fitRow_set (s : ByteArray) (k : Nat) (h : k < s.size) (h32 : k < 32) : (fitRow s k).set k s[k] = fitRow s (k + 1) := by
  have hl : s.data.toList.length = s.size := rfl
  have hk : (s.data.toList.take k).length = k := by rw [List.length_take]; omega
  rw [fitRow, List.set_append_right _ _ (by omega), hk, Nat.sub_self, show 32 - k = (31 - k) + 1 from by omega, List.replicate_succ, List.set_cons_zero, fitRow]
  rw [show s.data.toList.take (k + 1) = s.data.toList.take k ++ [s[k]] from by rw [List.take_succ_eq_append_getElem (by simpa using h)]; rfl]
  rw [show 32 - (k + 1) = 31 - k from by omega]
  simp
theorem fitRow_end (s : ByteArray) (k : Nat) (h : k ≤ s.size) (h32 : k ≤ 32) (he : k = s.size ∨ k = 32) : fitRow s k = fitL s := by
  have hl : s.data.toList.length = s.size := rfl
  rw [fitRow, fitL]
  rcases he with e | e
  · rw [e, List.take_of_length_le (by omega), List.take_of_length_le (by omega)]
  · subst e
    rw [show 32 - 32 = 32 - s.size from by omega]

theorem fit0 : (#[Value.int .u8 0, Value.int .u8 0, Value.int .u8 0, Value.int .u8 0, Value.int .u8 0, Value.int .u8 0, Value.int .u8 0, Value.int .u8 0, Value.int .u8 0, Value.int .u8 0, Value.int .u8 0, Value.int .u8 0, Value.int .u8 0, Value.int .u8 0, Value.int .u8 0, Value.int .u8 0, Value.int .u8 0, Value.int .u8 0, Value.int .u8 0, Value.int .u8 0, Value.int .u8 0, Value.int .u8 0, Value.int .u8 0, Value.int .u8 0, Value.int .u8 0, Value.int .u8 0, Value.int .u8 0, Value.int .u8 0, Value.int .u8 0, Value.int .u8 0, Value.int .u8 0, Value.int .u8 0] : Array Value) = ((fitRow ⟨#[]⟩ 0).map byteV).toArray := rfl
theorem fitRow_zero (s : ByteArray) : fitRow s 0 = fitRow ⟨#[]⟩ 0 := by simp [fitRow]

theorem fit_conv (s : ByteArray) (k : Nat) (wr : World) (B : Nat) (hks : k ≤ s.size) (hk : k ≤ 32) (he : k = s.size ∨ k = 32) (hbox : Hid (wr.heap[B]? = some (.cells ((fitRow s k).map byteV).toArray 79 (0, 0)))) :
    (convert 80 9 (.slice (some ⟨B, 0, none⟩) 32 32)).run Try.prog wr = .ok (.string (fitT s)) wr := by
  have hlen : (fitL s).length = 32 := by rw [← fitRow_end s k hks hk he]; exact fitRow_length s k hks hk
  have h := run_convert_bytes_back (P := Try.prog) wr 80 9 5 ⟨B, 0, none⟩ 32 (fitL s) Try.underlying80 Try.underlying5 Try.underlying9 (fun j hj => by
    rw [Addr.add_lit, Nat.zero_add, cell_of_row wr _ _ _ _ _ hbox.out, fitRow_end s k hks hk he]
    simp [hj, byteV])
  rw [hlen] at h
  exact h

set_option maxHeartbeats 2000000 in
set_option maxRecDepth 100000 in
theorem fitText_any (s : ByteArray) (w : World) :
    Calls Try.prog 24 #[.string s] w fun e w' => e = .returned (.string (fitT s)) ∧ Below w.heap.size w w' := by
  go_enter Try.func24, Try.ntmps24
  go_wp2
  rw [fit0, ← fitRow_zero s]
  go_loopw [4] (fun i wr => ∃ k : Nat, k ≤ 32 ∧ k ≤ s.size ∧ i = .int .i64 k ∧ Hid (wr.heap[w.heap.size]? = some (.cells ((fitRow s k).map byteV).toArray 79 (0, 0))) ∧ Below w.heap.size w wr) (fun i _ => 32 - (intOf i).toNat)
  case atStart => exact ⟨0, Nat.zero_le _, Nat.zero_le _, rfl, heap_alloc_new w _, below1 _ _⟩
  case round =>
    obtain ⟨k, hk, hks, rfl, hbox, hbr⟩ := hrel
    by_cases hlt : k < s.size
    · have hlt' : (k : Int) < (s.size : Int) := by omega
      by_cases h32 : k < 32
      · have h32' : (k : Int) < 32 := by omega
        have o0 : wr.cell? ⟨w.heap.size, k, none⟩ = some (byteV ((fitRow s k)[k]'(by rw [fitRow_length s k hks hk]; exact h32))) := by
          rw [cell_of_row wr _ _ _ _ _ hbox.out]
          have hlen : k < (fitRow s k).length := by rw [fitRow_length s k hks hk]; exact h32
          simp [hlen]
        have fz := frozen_of_row wr _ k _ _ hbox.out
        go_wp2
        go_roundw
        case rel =>
          refine ⟨k + 1, by omega, by omega, by go_num, ?_, hbr.setCell (by simp) _⟩
          show (wr.setCell ⟨w.heap.size, k, none⟩ (byteV s[k])).heap[w.heap.size]? = _
          rw [heap_setCell_same wr _ _ _ _ _ hbox.out, ← fitRow_set s k hlt h32, List.map_set]
          simp
        case measure => simp [intOf]; omega
      · have e : k = 32 := by omega
        have hcv := fit_conv s k wr w.heap.size hks hk (.inr e) hbox
        have H32 := hide e
        subst e
        clear hbox H32
        go_wp2
        go_ret
        exact ⟨rfl, hbr⟩
    · have e : k = s.size := by omega
      have hcv := fit_conv s k wr w.heap.size hks hk (.inl e) hbox
      clear hbox e
      go_wp2
      go_ret
      exact ⟨rfl, hbr⟩

end Go.Proofs.Ytjnpndfpajjihaa
