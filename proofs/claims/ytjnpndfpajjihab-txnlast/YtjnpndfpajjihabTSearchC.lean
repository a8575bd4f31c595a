/-
  The walks of slices.BinarySearchFunc at []api.Copy and of package txn's around, with and without there.
-/
import Derived.Test.YtjnpndfpajjihabTCmp
import Derived.Test.YtjnpndfpajjihabTConcatC
import Derived.Deep.QuietTactic
import Derived.BigQuiet
namespace Go.Proofs.Ytjnpndfpajjihab
open Go.RowKit

set_option maxHeartbeats 4000000 in
set_option maxRecDepth 100000 in
theorem searchC_any (a : Option Addr) (c : Nat) (l : List (Int × ByteArray)) (b : Int) (w : World) (h : SegW w a l) (hn : l.length ≤ 1000) (hu : Up (·.1) l) :
    Calls Try.prog 166 #[.slice a l.length c, .int .i64 b, .func (.func 83) #[] #[]] w fun e w' => e = .returned (.tuple #[.int .i64 ((l.countP fun x => decide (x.1 < b) : Nat) : Int), .bool (l.any fun x => x.1 == b)]) ∧ Below w.heap.size w w' := by
  have HS := hide h
  have HU := hide hu
  clear h hu
  obtain ⟨cnt, hcnt⟩ : ∃ cnt, cnt = l.countP fun x => decide (x.1 < b) := ⟨_, rfl⟩
  obtain ⟨fnd, hfnd⟩ : ∃ fnd, fnd = l.any fun x => x.1 == b := ⟨_, rfl⟩
  rw [← hcnt, ← hfnd]
  have HC := hide hcnt
  have HF := hide hfnd
  have hcn : cnt ≤ l.length := by rw [hcnt]; exact List.countP_le_length
  clear hcnt hfnd
  go_enter Try.func166, Try.ntmps166
  go_wp2
  go_loopw [9, 10] (fun i j wr => ∃ lo hi : Nat, i = .int .i64 lo ∧ j = .int .i64 hi ∧ lo ≤ cnt ∧ cnt ≤ hi ∧ hi ≤ l.length ∧ Below w.heap.size w wr) (fun i j _ => (intOf j).toNat - (intOf i).toNat)
  case atStart => exact ⟨0, l.length, rfl, rfl, Nat.zero_le _, hcn, Nat.le_refl _, Below.refl _ _⟩
  case round =>
    obtain ⟨lo, hi, rfl, rfl, hlc, hch, hin, hbr⟩ := hrel
    by_cases hlt : lo < hi
    · obtain ⟨m, hm⟩ : ∃ m, m = (lo + hi) / 2 := ⟨_, rfl⟩
      have hmn : m < l.length := by omega
      have hmi : ((lo : Int) + (hi : Int)) / 2 = (m : Int) := by omega
      have hm1 : lo ≤ m := by omega
      have hm2 : m < hi := by omega
      clear hm
      obtain ⟨b2, off, rfl, hb, hc⟩ := HS.out.resolve_left (by intro e; rw [e] at hmn; simp at hmn)
      obtain ⟨x, hx⟩ : ∃ x, x = l.getD m (0, ByteArray.empty) := ⟨_, rfl⟩
      obtain ⟨hc1, hc2⟩ := hc m hmn
      rw [← hx] at hc1 hc2
      have g1 := cellKeep hbr hb hc1
      have g2 := cellKeep hbr hb hc2
      have HX : Hid (l[m]? = some x) := by rw [hx]; exact getD_at _ _ _ hmn
      have hkey : x.1 < b ↔ m < l.countP (fun x => decide (x.1 < b)) := up_lt HU.out b HX.out
      rw [← HC.out] at hkey
      clear hx hc hc1 hc2
      obtain ⟨n, t⟩ := x
      dsimp only at hkey
      have hlt' : (lo : Int) < (hi : Int) := by omega
      have hml : (m : Int) < (l.length : Int) := by omega
      by_cases hk : n < b
      · have hq : m < cnt := hkey.1 hk
        have hcmp : cmpI (n) b = -1 := cmpI_lt hk
        go_wp2_with fail
        refine (byBlock_any n t b _).mono ?_
        rintro e w' ⟨rfl, hb'⟩
        rw [hcmp]
        have hbb := bthen hbr hb'
        clear hk hkey hcmp hb'
        go_wp2
        go_roundw
        case rel => exact ⟨m + 1, hi, by go_num, rfl, by omega, hch, hin, hbb⟩
        case measure => simp [intOf]; omega
      · have hq : cnt ≤ m := by have := mt hkey.2 hk; omega
        have hcmp : ¬ cmpI (n) b < 0 := cmpI_ge hk
        go_wp2_with fail
        refine (byBlock_any n t b _).mono ?_
        rintro e w' ⟨rfl, hb'⟩
        have hbb := bthen hbr hb'
        generalize cmpI (n) b = z at *
        clear hk hkey hb'
        go_wp2
        go_roundw
        case rel => exact ⟨lo, m, rfl, rfl, hlc, hq, by omega, hbb⟩
        case measure => simp [intOf]; omega
    · obtain rfl : lo = cnt := by omega
      obtain rfl : hi = lo := by omega
      clear hlc hch hcn
      by_cases hlast : hi < l.length
      · obtain ⟨b2, off, rfl, hb, hc⟩ := HS.out.resolve_left (by intro e; rw [e] at hlast; simp at hlast)
        obtain ⟨x, hx⟩ : ∃ x, x = l.getD hi (0, ByteArray.empty) := ⟨_, rfl⟩
        obtain ⟨hc1, hc2⟩ := hc hi hlast
        rw [← hx] at hc1 hc2
        have g1 := cellKeep hbr hb hc1
        have g2 := cellKeep hbr hb hc2
        have HX : Hid (l[hi]? = some x) := by rw [hx]; exact getD_at _ _ _ hlast
        have hf : fnd = (x.1 == b) := by
          have hi' : (l.any fun x => x.1 == b) = true ↔ ∃ x, l[l.countP fun x => decide (x.1 < b)]? = some x ∧ x.1 = b := any_hit_iff HU.out b
          rw [HF.out, Bool.eq_iff_iff, hi', ← HC.out, HX.out]
          constructor
          · rintro ⟨y, e, hy⟩; cases e; simpa using hy
          · intro e; exact ⟨x, rfl, by simpa using e⟩
        have HFX := hide hf
        clear hx hc hc1 hc2 hf
        obtain ⟨n, t⟩ := x
        dsimp only at HFX
        have hml : (hi : Int) < (l.length : Int) := by omega
        have hcmp := cmpI_zero (n) b
        go_wp2_with fail
        refine (byBlock_any n t b _).mono ?_
        rintro e w' ⟨rfl, hb'⟩
        have hbb := bthen hbr hb'
        have HCM := hide hcmp
        generalize cmpI (n) b = z at *
        clear hcmp hb'
        go_wp2
        go_ret2
        exact ⟨by rw [HFX.out, ← HCM.out]; rfl, hbb⟩
      · have hf : fnd = false := by
          have hi' : (l.any fun x => x.1 == b) = true ↔ ∃ x, l[l.countP fun x => decide (x.1 < b)]? = some x ∧ x.1 = b := any_hit_iff HU.out b
          rw [HF.out, ← Bool.not_eq_true, hi', ← HC.out, List.getElem?_eq_none (by omega)]
          rintro ⟨y, e, _⟩; cases e
        have hml : ¬ (hi : Int) < (l.length : Int) := by omega
        subst hf
        go_wp2
        go_ret2
        exact ⟨rfl, hbr⟩

end Go.Proofs.Ytjnpndfpajjihab
