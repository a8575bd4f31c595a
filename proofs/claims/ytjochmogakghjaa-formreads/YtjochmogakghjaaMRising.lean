/-
  The walks of the document's own rising and noughts and byteOf.
-/
import Derived.Test.YtjochmogakghjaaMCore
namespace Go.Proofs.Ytjochmogakghjaa
open Go.RowKit

set_option maxHeartbeats 1000000 in
theorem rising_any (a : Option Addr) (c : Nat) (l : List Int) (w : World) (h : SegI w a l) (hn : l.length ≤ maxLen) :
    Calls Try.prog 63 #[.slice a l.length c] w fun e w' => e = .returned (.bool (rises l)) ∧ w = w' := by
  unfold maxLen at hn
  have HS := hide h
  clear h
  go_enter Try.func63, Try.ntmps63
  go_wp2
  go_loop [3, 8] (fun q i => ∃ k : Nat, k ≤ l.length ∧ i = .int .i64 k ∧ q = .int .i64 (lastNum (-1) (l.take k)) ∧ Hid (risesFrom (-1) (l.take k) = true)) (fun _ i => l.length - (intOf i).toNat)
  case atStart => exact ⟨0, Nat.zero_le _, rfl, rfl, by simp [Hid, risesFrom]⟩
  case round =>
    obtain ⟨k, hk, rfl, rfl, hr⟩ := hrel
    by_cases hlt : k < l.length
    · obtain ⟨b, off, rfl, hb, hc⟩ := HS.out.resolve_left (by intro e; rw [e] at hlt; simp at hlt)
      obtain ⟨x, hx⟩ : ∃ x, x = l.getD k 0 := ⟨_, rfl⟩
      have hck := hc k hlt
      rw [← hx] at hck
      have HX : Hid (l[k]? = some x) := by rw [hx]; exact getD_at _ _ _ hlt
      have HT : Hid (l.take (k + 1) = l.take k ++ [x]) := by rw [Hid, List.take_add_one, HX.out]; rfl
      clear hx hc
      obtain ⟨q, hq⟩ : ∃ q, q = lastNum (-1) (l.take k) := ⟨_, rfl⟩
      have HQ := hide hq
      rw [← hq]
      clear hq
      have hlt' : (k : Int) < (l.length : Int) := by omega
      by_cases h1 : x ≤ q
      · go_wp2
        go_ret
        refine ⟨?_, rfl⟩
        have : rises l = false := rises_no (-1) l (k + 1) (by rw [HT.out, rises_snoc, ← HQ.out]; simp [h1])
        rw [this]; rfl
      · by_cases h2 : 11 < x
        · go_wp2
          go_ret
          refine ⟨?_, rfl⟩
          have : rises l = false := rises_no (-1) l (k + 1) (by rw [HT.out, rises_snoc, ← HQ.out]; simp [h2])
          rw [this]; rfl
        · go_wp2
          go_round
          case rel => exact ⟨k + 1, by omega, by go_num, by rw [HT.out, lastNum_snoc], by rw [Hid, HT.out, rises_snoc, hr.out, ← HQ.out]; simp [h1, h2]⟩
          case measure => simp [intOf]; omega
    · have e : k = l.length := by omega
      have hr' : rises l = true := by have := hr.out; rw [e, List.take_length] at this; exact this
      have HR := hide hr'
      clear hr hr'
      go_wp2
      go_ret
      exact ⟨by rw [HR.out]; rfl, rfl⟩

/-- Are all bytes from a place on noughts? -/
def zeroFrom (s : ByteArray) (k : Nat) : Bool := (s.data.toList.drop k).all (· == 0)

theorem zero_yes (s : ByteArray) (k : Nat) (h : k < s.size) (hz : s[k] = 0) : zeroFrom s k = zeroFrom s (k + 1) := by
  have e : s.data.toList.drop k = s[k] :: s.data.toList.drop (k + 1) := by rw [List.drop_eq_getElem_cons (by simpa using h)]; rfl
  rw [zeroFrom, e, List.all_cons, hz]; rfl
theorem zero_no (s : ByteArray) (k : Nat) (h : k < s.size) (hz : ¬ s[k] = 0) : zeroFrom s k = false := by
  have e : s.data.toList.drop k = s[k] :: s.data.toList.drop (k + 1) := by rw [List.drop_eq_getElem_cons (by simpa using h)]; rfl
  rw [zeroFrom, e, List.all_cons]
  simp [hz]
theorem zero_end (s : ByteArray) (k : Nat) (h : s.size ≤ k) : zeroFrom s k = true := by
  have hl : s.data.toList.length = s.size := rfl
  rw [zeroFrom, List.drop_eq_nil_of_le (by omega)]; rfl

set_option maxHeartbeats 1000000 in
theorem noughts_any (s : ByteArray) (n : Nat) (w : World) (hs : s.size ≤ 32) (hn : n ≤ 100) :
    Calls Try.prog 66 #[.string s, .int .i64 n] w fun e w' => e = .returned (.bool (zeroFrom s n)) ∧ w = w' := by
  go_enter Try.func66, Try.ntmps66
  go_wp2
  go_loop [5] (fun i => ∃ k : Nat, k ≤ 200 ∧ i = .int .i64 k ∧ Hid (zeroFrom s n = zeroFrom s k)) (fun i => 200 - (intOf i).toNat)
  case atStart => exact ⟨n, by omega, rfl, rfl⟩
  case round =>
    obtain ⟨k, hk, rfl, hz⟩ := hrel
    by_cases hlt : k < s.size
    · have hlt' : (k : Int) < (s.size : Int) := by omega
      by_cases h0 : s[k] = 0
      · have h1 : ((s[k].toNat : Int) != 0) = false := by rw [h0]; rfl
        have HZ := hide (zero_yes s k hlt h0)
        clear h0
        go_wp2
        go_round
        case rel => exact ⟨k + 1, by omega, by go_num, by rw [Hid, hz.out, HZ.out]⟩
        case measure => simp [intOf]; omega
      · have h1 : ((s[k].toNat : Int) != 0) = true := by
          rw [bne_iff_ne]
          intro e
          exact h0 (UInt8.toNat_inj.1 (by show s[k].toNat = 0; omega))
        have HZ := hide (zero_no s k hlt h0)
        clear h0
        go_wp2
        go_ret
        exact ⟨by rw [hz.out, HZ.out]; rfl, rfl⟩
    · have HZ := hide (zero_end s k (by omega))
      go_wp2
      go_ret
      exact ⟨by rw [hz.out, HZ.out]; rfl, rfl⟩

/-- A text of one byte. -/
def oneB (n : Nat) : ByteArray := ⟨#[UInt8.ofNat n]⟩

set_option maxHeartbeats 1000000 in
theorem byteOf_any (n : Nat) (w : World) (hn : n < 256) :
    Calls Try.prog 59 #[.int .i64 n] w fun e w' => e = .returned (.string (oneB n)) ∧ Below w.heap.size w w' := by
  have hcv : (convert 67 9 (.slice (some ⟨w.heap.size, 0, none⟩) 1 1)).run Try.prog (w.alloc (Obj.cells #[.int .u8 (n : Int)] 5)) = .ok (.string (oneB n)) (w.alloc (Obj.cells #[.int .u8 (n : Int)] 5)) := by
    refine run_convert_bytes_back (P := Try.prog) _ 67 9 5 ⟨w.heap.size, 0, none⟩ 1 [UInt8.ofNat n] Try.underlying67 Try.underlying5 Try.underlying9 (fun j hj => ?_)
    have : j = 0 := by simp at hj; omega
    subst this
    have e : (UInt8.ofNat n).toNat = n := by simp; omega
    simp only [List.getElem_cons_zero, e]
    simp [Addr.add]
  have h0 : (0 : Int) ≤ (n : Int) := by omega
  have h1 : (n : Int) ≤ 255 := by omega
  go_enter Try.func59, Try.ntmps59
  go_wp2
  go_ret
  exact ⟨rfl, below1 _ _⟩

end Go.Proofs.Ytjochmogakghjaa
