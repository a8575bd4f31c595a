/-
  The walk of package txn's around at []api.Copy.
-/
import Derived.Test.YtjnpndfpajjihabTSearchC
namespace Go.Proofs.Ytjnpndfpajjihab
open Go.RowKit

theorem segC_take {w : World} {a : Option Addr} {l : List (Int × ByteArray)} (h : SegW w a l) (k : Nat) (hk : k ≤ l.length) : SegW w a (l.take k) := by
  rcases h with h | ⟨b, off, rfl, hlt, hc⟩
  · exact .inl (by rw [h]; simp)
  · refine .inr ⟨b, off, rfl, hlt, fun i hi => ?_⟩
    have hi' : i < k := by simp at hi; omega
    have e : (l.take k).getD i (0, ByteArray.empty) = l.getD i (0, ByteArray.empty) := by rw [List.getD, List.getD, List.getElem?_take_of_lt hi']
    rw [e]
    exact hc i (by omega)
theorem segC_drop {w : World} {b off : Nat} {l : List (Int × ByteArray)} (h : SegW w (some ⟨b, off, none⟩) l) (k : Nat) : SegW w (some ⟨b, off + k * 2, none⟩) (l.drop k) := by
  rcases h with h | ⟨b', off', e, hlt, hc⟩
  · exact .inl (by rw [h]; simp)
  · cases e
    refine .inr ⟨b, off + k * 2, rfl, hlt, fun i hi => ?_⟩
    have e : (l.drop k).getD i (0, ByteArray.empty) = l.getD (k + i) (0, ByteArray.empty) := by rw [List.getD, List.getD, List.getElem?_drop]
    rw [e]
    have := hc (k + i) (by simp at hi; omega)
    refine ⟨?_, ?_⟩
    · rw [show off + k * 2 + i * 2 = off + (k + i) * 2 from by omega]; exact this.1
    · rw [show off + k * 2 + i * 2 + 1 = off + (k + i) * 2 + 1 from by omega]; exact this.2

/-- What lies ahead of a number, and behind it. -/
def aheadC (l : List (Int × ByteArray)) (b : Int) : List (Int × ByteArray) := l.filter fun x => decide (x.1 < b)
def behindC (l : List (Int × ByteArray)) (b : Int) : List (Int × ByteArray) := l.filter fun x => decide (b < x.1)

set_option maxHeartbeats 4000000 in
set_option maxRecDepth 100000 in
theorem aroundC_any (base : Nat) (v : Value) (l : List (Int × ByteArray)) (b : Int) (w : World) (hown : w.ownsRow base 91 2 v l.length (cellsC l)) (hn : l.length ≤ 1000) (hu : Up (·.1) l) :
    Calls Try.prog 125 #[v, .int .i64 b, .func (.func 83) #[] #[]] w fun e w' => ∃ a1 c1 a2 c2, e = .returned (.tuple #[.slice a1 (aheadC l b).length c1, .slice a2 (behindC l b).length c2]) ∧ SegW w' a1 (aheadC l b) ∧ SegW w' a2 (behindC l b) ∧ Below w.heap.size w w' := by
  have hcut : l.take (l.countP fun x => decide (x.1 < b)) = aheadC l b ∧ l.drop (l.countP fun x => decide (x.1 < b)) = l.filter (fun x => decide (b ≤ x.1)) := up_cut hu b
  have hany : (l.any fun x => x.1 == b) = true ↔ ∃ x, l[l.countP fun x => decide (x.1 < b)]? = some x ∧ x.1 = b := any_hit_iff hu b
  obtain ⟨a0, c0, hv, hS0, _⟩ := SegC.of_owns hown
  have hsearch := searchC_any a0 c0 l b w hS0 hn hu
  rw [← hv] at hsearch
  obtain ⟨cnt, hcnt⟩ : ∃ cnt, cnt = l.countP fun x => decide (x.1 < b) := ⟨_, rfl⟩
  have hcn : cnt ≤ l.length := by rw [hcnt]; exact List.countP_le_length
  rw [← hcnt] at hcut hany hsearch
  have hl1 : (aheadC l b).length = cnt := by rw [← hcut.1, List.length_take]; omega
  have H1 := hide hcut.1
  have HL := hide hl1
  cases hf : l.any fun x => x.1 == b with
  | true =>
    obtain ⟨x, hx, hxk⟩ := hany.1 hf
    have hlt : cnt < l.length := (List.getElem?_eq_some_iff.1 hx).1
    have hb2 : l.drop (cnt + 1) = behindC l b := by
      rw [hcnt] at hx ⊢
      exact up_hit hu b x hx hxk
    have hl2 : (behindC l b).length = l.length - (cnt + 1) := by rw [← hb2, List.length_drop]
    have H2 := hide hb2
    have HL2 := hide hl2
    rw [hf] at hsearch
    clear hx hxk hf hany hcut hcnt hb2 hl2 hl1
    rcases hown.2 with ⟨rfl, h0⟩ | ⟨g, cap, cur, rfl, hb, hg, hnc, hcm, _⟩
    · omega
    · unfold maxLen at hcm
      simp only [Value.slice.injEq] at hv
      obtain ⟨rfl, _, rfl⟩ := hv
      have HS := hide hS0
      have hlt' : (cnt : Int) < (l.length : Int) := by omega
      have hlc' : (l.length : Int) ≤ (cap : Int) := by omega
      clear hown hS0 hg
      by_cases hz : cap = cnt + 1
      · subst hz
        have HLN : Hid (l.length ≤ cnt + 1) := by unfold Hid; omega
        clear hnc hlc'
        have hlc' : (l.length : Int) ≤ (cnt : Int) + 1 := by have := HLN.out; omega
        go_enter Try.func125, Try.ntmps125
        go_wp2_with fail
        refine hsearch.mono ?_
        rintro e w1 ⟨rfl, hb1⟩
        have HB := hide hb1
        clear hsearch hb1
        go_wp2
        go_quiet (fail)
        go_wp2
        go_ret2
        refine ⟨_, _, _, _, by rw [HL.out, HL2.out]; rfl, ?_, ?_, below_drewN HB.out _⟩
        · rw [← H1.out]
          exact (segC_take HS.out cnt (by omega)).below (below_drewN HB.out _)
        · refine .inl ?_
          rw [← H2.out]
          exact List.drop_of_length_le HLN.out
      · have hz' : ¬ (cap - (cnt + 1) = 0) := by omega
        go_enter Try.func125, Try.ntmps125
        go_wp2_with fail
        refine hsearch.mono ?_
        rintro e w1 ⟨rfl, hb1⟩
        have HB := hide hb1
        clear hsearch hb1
        go_wp2
        go_quiet (fail)
        go_wp2
        go_ret2
        refine ⟨_, _, _, _, by rw [HL.out, HL2.out]; rfl, ?_, ?_, below_drewN HB.out _⟩
        · rw [← H1.out]
          exact (segC_take HS.out cnt (by omega)).below (below_drewN HB.out _)
        · rw [← H2.out]
          have hd := segC_drop HS.out (cnt + 1)
          rw [Nat.zero_add] at hd
          exact hd.below (below_drewN HB.out _)
  | false =>
    have hb2 : l.drop cnt = behindC l b := by
      rw [hcut.2]
      refine up_miss hu b fun x hx hk => ?_
      rw [hcnt] at hany
      rw [hany.2 ⟨x, hx, hk⟩] at hf
      cases hf
    have hl2 : (behindC l b).length = l.length - cnt := by rw [← hb2, List.length_drop]
    have H2 := hide hb2
    have HL2 := hide hl2
    rw [hf] at hsearch
    clear hf hany hcut hcnt hb2 hl2 hl1
    rcases hown.2 with ⟨rfl, h0⟩ | ⟨g, cap, cur, rfl, hb, hg, hnc, hcm, _⟩
    · have hl0 : l = [] := List.eq_nil_of_length_eq_zero h0
      subst hl0
      obtain rfl : cnt = 0 := by simpa using hcn
      clear hown hS0 hv
      go_enter Try.func125, Try.ntmps125
      go_wp2_with fail
      refine hsearch.mono ?_
      rintro e w1 ⟨rfl, hb1⟩
      have HB := hide hb1
      clear hsearch hb1
      go_wp2
      go_quiet (fail)
      go_wp2
      go_ret2
      refine ⟨_, _, _, _, by rw [HL.out, HL2.out]; rfl, .inl ?_, .inl ?_, below_drewN HB.out _⟩
      · rw [← H1.out]; rfl
      · rw [← H2.out]; rfl
    · unfold maxLen at hcm
      simp only [Value.slice.injEq] at hv
      obtain ⟨rfl, _, rfl⟩ := hv
      have HS := hide hS0
      have hlt' : (cnt : Int) ≤ (l.length : Int) := by omega
      have hlc' : (l.length : Int) ≤ (cap : Int) := by omega
      clear hown hS0 hg
      by_cases hz : cap = cnt
      · subst hz
        have HLN : Hid (l.length ≤ cap) := by unfold Hid; omega
        go_enter Try.func125, Try.ntmps125
        go_wp2_with fail
        refine hsearch.mono ?_
        rintro e w1 ⟨rfl, hb1⟩
        have HB := hide hb1
        clear hsearch hb1
        go_wp2
        go_quiet (fail)
        go_wp2
        go_ret2
        refine ⟨_, _, _, _, by rw [HL.out, HL2.out, show l.length - cap = 0 from by have := HLN.out; omega]; rfl, ?_, ?_, below_drewN HB.out _⟩
        · rw [← H1.out]
          exact (segC_take HS.out cap (by omega)).below (below_drewN HB.out _)
        · refine .inl ?_
          rw [← H2.out]
          exact List.drop_of_length_le HLN.out
      · have hz' : ¬ (cap - cnt = 0) := by omega
        go_enter Try.func125, Try.ntmps125
        go_wp2_with fail
        refine hsearch.mono ?_
        rintro e w1 ⟨rfl, hb1⟩
        have HB := hide hb1
        clear hsearch hb1
        go_wp2
        go_quiet (fail)
        go_wp2
        go_ret2
        refine ⟨_, _, _, _, by rw [HL.out, HL2.out]; rfl, ?_, ?_, below_drewN HB.out _⟩
        · rw [← H1.out]
          exact (segC_take HS.out cnt (by omega)).below (below_drewN HB.out _)
        · rw [← H2.out]
          have hd := segC_drop HS.out cnt
          rw [Nat.zero_add] at hd
          exact hd.below (below_drewN HB.out _)

end Go.Proofs.Ytjnpndfpajjihab
