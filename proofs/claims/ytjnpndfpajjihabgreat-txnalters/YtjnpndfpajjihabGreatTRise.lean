/-
  The walks of package txn's rise and blocks.
-/
import Derived.Test.YtjnpndfpajjihabGreatTOwn0
namespace Go.Proofs.YtjnpndfpajjihabGreat
open Go.RowKit

set_option maxHeartbeats 1000000 in
theorem rise_any (a : Option Addr) (c : Nat) (l : List Int) (w : World) (h : SegI w a l) (hn : l.length ≤ maxLen) :
    Calls Tryz.prog 127 #[.slice a l.length c] w fun e w' => e = .returned (.bool (rises l)) ∧ w = w' := by
  unfold maxLen at hn
  have HS := hide h
  clear h
  go_enter Tryz.func127, Tryz.ntmps127
  go_wp2
  go_loop [3, 8] (fun q i => ∃ k : Nat, k ≤ l.length ∧ i = .int .i64 k ∧ q = .int .i64 (lastNum (-1) (l.take k) + 1) ∧ -1 ≤ lastNum (-1) (l.take k) ∧ Hid (risesFrom (-1) (l.take k) = true)) (fun _ i => l.length - (intOf i).toNat)
  case atStart => exact ⟨0, Nat.zero_le _, rfl, rfl, by simp [lastNum], by simp [Hid, risesFrom]⟩
  case round =>
    obtain ⟨k, hk, rfl, rfl, hq1, hr⟩ := hrel
    by_cases hlt : k < l.length
    · obtain ⟨b, off, rfl, hb, hc⟩ := HS.out.resolve_left (by intro e; rw [e] at hlt; simp at hlt)
      obtain ⟨x, hx⟩ : ∃ x, x = l.getD k 0 := ⟨_, rfl⟩
      have hck := hc k hlt
      rw [← hx] at hck
      have HX : Hid (l[k]? = some x) := by rw [hx]; exact getD_at _ _ _ hlt
      have HT : Hid (l.take (k + 1) = l.take k ++ [x]) := by rw [Hid, List.take_add_one, HX.out]; rfl
      clear hx hc
      obtain ⟨q, hq⟩ : ∃ q, q = lastNum (-1) (l.take k) := ⟨_, rfl⟩
      have HQ := hide hq
      rw [← hq] at hq1
      rw [← hq]
      clear hq
      have hlt' : (k : Int) < (l.length : Int) := by omega
      cases hw : withinB x (q + 1) 11 with
      | false =>
        have HR : Hid (rises l = false) := rises_no (-1) l (k + 1) (by
          rw [HT.out, rises_snoc, ← HQ.out]
          have : x ≤ q ∨ 11 < x := by
            by_cases e : x ≤ q ∨ 11 < x
            · exact e
            · rw [withinB_iff.2 (by omega)] at hw; cases hw
          simp [this])
        clear hr
        go_wp2_with (go_at_call 89; refine (tWithin_any _ _ _ _).mono ?_; rintro e w' ⟨rfl, rfl⟩)
        go_ret
        exact ⟨by rw [HR.out]; rfl, rfl⟩
      | true =>
        have hin := withinB_iff.1 hw
        have HR : Hid (risesFrom (-1) (l.take (k + 1)) = true) := by
          have : ¬ (x ≤ q ∨ 11 < x) := by omega
          rw [Hid, HT.out, rises_snoc, hr.out, ← HQ.out]; simp [this]
        clear hr
        go_wp2_with (go_at_call 89; refine (tWithin_any _ _ _ _).mono ?_; rintro e w' ⟨rfl, rfl⟩)
        go_round
        case rel => exact ⟨k + 1, by omega, by go_num, by rw [HT.out, lastNum_snoc], by rw [HT.out, lastNum_snoc]; omega, HR⟩
        case measure => simp [intOf]; omega
    · have e : k = l.length := by omega
      have hr' : rises l = true := by have := hr.out; rw [e, List.take_length] at this; exact this
      have HR := hide hr'
      clear hr hr'
      go_wp2
      go_ret
      exact ⟨by rw [HR.out]; rfl, rfl⟩

theorem blks_take {l : List (Int × ByteArray)} {k : Nat} {x : Int × ByteArray} (h : l[k]? = some x) : blksOf (l.take (k + 1)) = blksOf (l.take k) ++ [x.1] := by
  rw [List.take_add_one, h]; simp [blksOf]
theorem blks_length (l : List (Int × ByteArray)) : (blksOf l).length = l.length := by simp [blksOf]

set_option maxHeartbeats 2000000 in
set_option maxRecDepth 100000 in
theorem blocks_any (a : Option Addr) (c : Nat) (l : List (Int × ByteArray)) (w : World) (h : SegW w a l) (hn : l.length * 24 ≤ 140737488355328) :
    Calls Tryz.prog 126 #[.slice a l.length c] w fun e w' => ∃ a2 c2, e = .returned (.slice a2 l.length c2) ∧ SegI w' a2 (blksOf l) ∧ Below w.heap.size w w' := by
  have HS := hide h
  clear h
  have hmk := madeI l.length (by omega)
  go_enter Tryz.func126, Tryz.ntmps126
  go_wp2
  clear hmk
  go_loopw [11] (fun i wr => ∃ k : Nat, k ≤ l.length ∧ i = .int .i64 k ∧ Hid (wr.ownsRow w.heap.size 3 1 (.slice (some ⟨w.heap.size, 0, none⟩) l.length l.length) l.length (fillI (blksOf (l.take k)) (l.length - k))) ∧ Below w.heap.size w wr) (fun i _ => l.length - (intOf i).toNat)
  case atStart => exact ⟨0, Nat.zero_le _, rfl, madeI_owns l.length (by omega) w w.heap.size (Nat.le_refl _), below1 _ _⟩
  case round =>
    obtain ⟨k, hk, rfl, hown, hbr⟩ := hrel
    have hsr := hbr.size
    by_cases hlt : k < l.length
    · obtain ⟨b2, off, rfl, hb, hc⟩ := HS.out.resolve_left (by intro e; rw [e] at hlt; simp at hlt)
      obtain ⟨x, hx⟩ : ∃ x, x = l.getD k (0, ByteArray.empty) := ⟨_, rfl⟩
      obtain ⟨hc1, hc2⟩ := hc k hlt
      rw [← hx] at hc1 hc2
      have HX : Hid (l[k]? = some x) := by rw [hx]; exact getD_at _ _ _ hlt
      have g1 := cellKeep hbr hb hc1
      have g2 := cellKeep hbr hb hc2
      clear hx hc hc1 hc2
      obtain ⟨n, t⟩ := x
      have hlt' : (k : Int) < (l.length : Int) := by omega
      have hb4 := hbr.alloc hbr.size (Obj.cells #[.int .i64 n, .string t] 78)
      have hown4 := owns_keep hown.out (below1 wr (Obj.cells #[.int .i64 n, .string t] 78))
      rw [show l.length - k = (l.length - k - 1) + 1 from by omega] at hown4
      have hcc := fillI_cell hown4
      have hst := fillI_step hown4 n
      rw [blks_length, List.length_take, Nat.min_eq_left (by omega)] at hcc hst
      obtain ⟨⟨u0, hu⟩, hfz, _, hB, _⟩ := hcc
      rw [← blks_take (x := (n, t)) HX.out] at hst
      have HST := hide hst
      clear hst hown4 hown
      go_wp2
      go_roundw
      case rel => exact ⟨k + 1, by omega, by go_num, by rw [show l.length - (k + 1) = l.length - k - 1 from by omega]; exact HST, hb4.setCell (by simp) _⟩
      case measure => simp [intOf]; omega
    · have e : k = l.length := by omega
      subst e
      have hown' := hown.out
      rw [Nat.sub_self, fillI_full, List.take_length] at hown'
      obtain ⟨a2, c2, hv, hS, hA⟩ := SegI.of_owns hown'
      rw [blks_length] at hv
      simp only [Value.slice.injEq] at hv
      obtain ⟨ha2, _, hc2⟩ := hv
      subst ha2 hc2
      have HS2 := hide hS
      clear hown hown' hS hA
      go_wp2
      go_ret
      exact ⟨_, _, rfl, HS2.out, hbr⟩

end Go.Proofs.YtjnpndfpajjihabGreat
