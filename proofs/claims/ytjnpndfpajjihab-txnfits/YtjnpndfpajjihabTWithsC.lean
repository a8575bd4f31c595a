/-
  The walks of cmp.Compare at numbers and of package txn's byBlock.
  The walks of slices.BinarySearchFunc at []api.Copy and of package txn's around, with and without there.
  The walk of package txn's around at []api.Copy.
  The walks of package txn's with and without at []api.Copy.
-/
import Derived.Test.YtjnpndfpajjihabTPure
import Derived.Test.YtjnpndfpajjihabTConcats
import Derived.Deep.QuietTactic
import Derived.BigQuiet
namespace Go.Proofs.Ytjnpndfpajjihab
open Go.RowKit

/-- Less, equal or greater. -/
def cmpI (x y : Int) : Int := if x < y then -1 else if y < x then 1 else 0
theorem cmpI_lt {x y : Int} (h : x < y) : cmpI x y = -1 := by rw [cmpI, if_pos h]
theorem cmpI_ge {x y : Int} (h : ¬ x < y) : ¬ cmpI x y < 0 := by rw [cmpI, if_neg h]; split <;> omega
theorem cmpI_zero (x y : Int) : (cmpI x y == 0) = (x == y) := by
  unfold cmpI
  by_cases h1 : x < y
  · rw [if_pos h1, show (x == y) = false from by simp; omega]; rfl
  · by_cases h2 : y < x
    · rw [if_neg h1, if_pos h2, show (x == y) = false from by simp; omega]; rfl
    · rw [if_neg h1, if_neg h2, show (x == y) = true from by simp; omega]; rfl
theorem up_lt {α : Type} {key : α → Int} {l : List α} (h : Up key l) (b : Int) {t : Nat} {x : α} (hx : l[t]? = some x) : key x < b ↔ t < l.countP fun x => decide (key x < b) := by
  have hc := up_cut h b
  constructor
  · intro hk
    by_cases e : t < l.countP fun x => decide (key x < b)
    · exact e
    · have : x ∈ l.drop (l.countP fun x => decide (key x < b)) := by
        refine List.mem_of_getElem? (i := t - l.countP fun x => decide (key x < b)) ?_
        rw [List.getElem?_drop, ← hx]
        congr 1; omega
      rw [hc.2] at this
      have := (List.mem_filter.1 this).2
      simp at this
      omega
  · intro e
    have : x ∈ l.take (l.countP fun x => decide (key x < b)) := by
      refine List.mem_of_getElem? (i := t) ?_
      rw [List.getElem?_take_of_lt e]; exact hx
    rw [hc.1] at this
    have := (List.mem_filter.1 this).2
    simpa using this

set_option maxHeartbeats 400000 in
theorem compare_any (x y : Int) (w : World) :
    Calls Try.prog 85 #[.int .i64 x, .int .i64 y] w fun e w' => e = .returned (.int .i64 (cmpI x y)) ∧ w = w' := by
  by_cases h1 : x < y
  · have HC := hide (cmpI_lt h1)
    go_enter Try.func85, Try.ntmps85
    go_wp2
    go_ret
    exact ⟨by rw [HC.out]; rfl, rfl⟩
  · by_cases h2 : y < x
    · have HC : Hid (cmpI x y = 1) := by rw [Hid, cmpI, if_neg h1, if_pos h2]
      go_enter Try.func85, Try.ntmps85
      go_wp2
      go_ret
      exact ⟨by rw [HC.out]; rfl, rfl⟩
    · have HC : Hid (cmpI x y = 0) := by rw [Hid, cmpI, if_neg h1, if_neg h2]
      go_enter Try.func85, Try.ntmps85
      go_wp2
      go_ret
      exact ⟨by rw [HC.out]; rfl, rfl⟩
theorem compareB_any (x y : Int) (w : World) :
    Calls Try.prog 85 #[.int .i64 x, .int .i64 y] w fun e w' => e = .returned (.int .i64 (cmpI x y)) ∧ Below w.heap.size w w' :=
  (compare_any x y w).mono fun _ _ ⟨h1, h2⟩ => ⟨h1, h2 ▸ Below.refl _ _⟩

set_option maxHeartbeats 400000 in
theorem byBlock_any (n : Int) (t : ByteArray) (b : Int) (w : World) :
    Calls Try.prog 83 #[.agg #[.int .i64 n, .string t], .int .i64 b] w fun e w' => e = .returned (.int .i64 (cmpI n b)) ∧ Below w.heap.size w w' := by
  go_enter Try.func83, Try.ntmps83
  go_wp2_with (go_at_call 85; refine (compare_any _ _ _).mono ?_; rintro e w' ⟨rfl, rfl⟩)
  go_ret
  exact ⟨rfl, below1 _ _⟩


set_option maxHeartbeats 4000000 in
set_option maxRecDepth 100000 in
theorem searchC_any (a : Option Addr) (c : Nat) (l : List (Int × ByteArray)) (b : Int) (w : World) (h : SegW w a l) (hn : l.length ≤ 1000) (hu : Up (·.1) l) :
    Calls Try.prog 166 #[.slice a l.length c, .int .i64 b, .func (.func 83) #[] #[]] w fun e w' => e = .returned (.tuple #[.int .i64 ((l.countP fun x => decide (x.1 < b) : Nat) : Int), .bool (l.any fun x => x.1 == b)]) ∧ Below w.heap.size w w' := by
  have HS := hide h
  have HU := hide hu
  clear h hu
  obtain ⟨cnt, hcnt⟩ : ∃ cnt, cnt = l.countP fun x => decide (x.1 < b) := ⟨_, rfl⟩
  obtain ⟨fnd, hfnd⟩ : ∃ fnd, fnd = l.any fun x => x.1 == b := ⟨_, rfl⟩
  rw [← hcnt, ← hfnd]
  have HC := hide hcnt
  have HF := hide hfnd
  have hcn : cnt ≤ l.length := by rw [hcnt]; exact List.countP_le_length
  clear hcnt hfnd
  go_enter Try.func166, Try.ntmps166
  go_wp2
  go_loopw [9, 10] (fun i j wr => ∃ lo hi : Nat, i = .int .i64 lo ∧ j = .int .i64 hi ∧ lo ≤ cnt ∧ cnt ≤ hi ∧ hi ≤ l.length ∧ Below w.heap.size w wr) (fun i j _ => (intOf j).toNat - (intOf i).toNat)
  case atStart => exact ⟨0, l.length, rfl, rfl, Nat.zero_le _, hcn, Nat.le_refl _, Below.refl _ _⟩
  case round =>
    obtain ⟨lo, hi, rfl, rfl, hlc, hch, hin, hbr⟩ := hrel
    by_cases hlt : lo < hi
    · obtain ⟨m, hm⟩ : ∃ m, m = (lo + hi) / 2 := ⟨_, rfl⟩
      have hmn : m < l.length := by omega
      have hmi : ((lo : Int) + (hi : Int)) / 2 = (m : Int) := by omega
      have hm1 : lo ≤ m := by omega
      have hm2 : m < hi := by omega
      clear hm
      obtain ⟨b2, off, rfl, hb, hc⟩ := HS.out.resolve_left (by intro e; rw [e] at hmn; simp at hmn)
      obtain ⟨x, hx⟩ : ∃ x, x = l.getD m (0, ByteArray.empty) := ⟨_, rfl⟩
      obtain ⟨hc1, hc2⟩ := hc m hmn
      rw [← hx] at hc1 hc2
      have g1 := cellKeep hbr hb hc1
      have g2 := cellKeep hbr hb hc2
      have HX : Hid (l[m]? = some x) := by rw [hx]; exact getD_at _ _ _ hmn
      have hkey : x.1 < b ↔ m < l.countP (fun x => decide (x.1 < b)) := up_lt HU.out b HX.out
      rw [← HC.out] at hkey
      clear hx hc hc1 hc2
      obtain ⟨n, t⟩ := x
      dsimp only at hkey
      have hlt' : (lo : Int) < (hi : Int) := by omega
      have hml : (m : Int) < (l.length : Int) := by omega
      by_cases hk : n < b
      · have hq : m < cnt := hkey.1 hk
        have hcmp : cmpI (n) b = -1 := cmpI_lt hk
        go_wp2_with fail
        refine (byBlock_any n t b _).mono ?_
        rintro e w' ⟨rfl, hb'⟩
        rw [hcmp]
        have hbb := bthen hbr hb'
        clear hk hkey hcmp hb'
        go_wp2
        go_roundw
        case rel => exact ⟨m + 1, hi, by go_num, rfl, by omega, hch, hin, hbb⟩
        case measure => simp [intOf]; omega
      · have hq : cnt ≤ m := by have := mt hkey.2 hk; omega
        have hcmp : ¬ cmpI (n) b < 0 := cmpI_ge hk
        go_wp2_with fail
        refine (byBlock_any n t b _).mono ?_
        rintro e w' ⟨rfl, hb'⟩
        have hbb := bthen hbr hb'
        generalize cmpI (n) b = z at *
        clear hk hkey hb'
        go_wp2
        go_roundw
        case rel => exact ⟨lo, m, rfl, rfl, hlc, hq, by omega, hbb⟩
        case measure => simp [intOf]; omega
    · obtain rfl : lo = cnt := by omega
      obtain rfl : hi = lo := by omega
      clear hlc hch hcn
      by_cases hlast : hi < l.length
      · obtain ⟨b2, off, rfl, hb, hc⟩ := HS.out.resolve_left (by intro e; rw [e] at hlast; simp at hlast)
        obtain ⟨x, hx⟩ : ∃ x, x = l.getD hi (0, ByteArray.empty) := ⟨_, rfl⟩
        obtain ⟨hc1, hc2⟩ := hc hi hlast
        rw [← hx] at hc1 hc2
        have g1 := cellKeep hbr hb hc1
        have g2 := cellKeep hbr hb hc2
        have HX : Hid (l[hi]? = some x) := by rw [hx]; exact getD_at _ _ _ hlast
        have hf : fnd = (x.1 == b) := by
          have hi' : (l.any fun x => x.1 == b) = true ↔ ∃ x, l[l.countP fun x => decide (x.1 < b)]? = some x ∧ x.1 = b := any_hit_iff HU.out b
          rw [HF.out, Bool.eq_iff_iff, hi', ← HC.out, HX.out]
          constructor
          · rintro ⟨y, e, hy⟩; cases e; simpa using hy
          · intro e; exact ⟨x, rfl, by simpa using e⟩
        have HFX := hide hf
        clear hx hc hc1 hc2 hf
        obtain ⟨n, t⟩ := x
        dsimp only at HFX
        have hml : (hi : Int) < (l.length : Int) := by omega
        have hcmp := cmpI_zero (n) b
        go_wp2_with fail
        refine (byBlock_any n t b _).mono ?_
        rintro e w' ⟨rfl, hb'⟩
        have hbb := bthen hbr hb'
        have HCM := hide hcmp
        generalize cmpI (n) b = z at *
        clear hcmp hb'
        go_wp2
        go_ret2
        exact ⟨by rw [HFX.out, ← HCM.out]; rfl, hbb⟩
      · have hf : fnd = false := by
          have hi' : (l.any fun x => x.1 == b) = true ↔ ∃ x, l[l.countP fun x => decide (x.1 < b)]? = some x ∧ x.1 = b := any_hit_iff HU.out b
          rw [HF.out, ← Bool.not_eq_true, hi', ← HC.out, List.getElem?_eq_none (by omega)]
          rintro ⟨y, e, _⟩; cases e
        have hml : ¬ (hi : Int) < (l.length : Int) := by omega
        subst hf
        go_wp2
        go_ret2
        exact ⟨rfl, hbr⟩


theorem segC_take {w : World} {a : Option Addr} {l : List (Int × ByteArray)} (h : SegW w a l) (k : Nat) (hk : k ≤ l.length) : SegW w a (l.take k) := by
  rcases h with h | ⟨b, off, rfl, hlt, hc⟩
  · exact .inl (by rw [h]; simp)
  · refine .inr ⟨b, off, rfl, hlt, fun i hi => ?_⟩
    have hi' : i < k := by simp at hi; omega
    have e : (l.take k).getD i (0, ByteArray.empty) = l.getD i (0, ByteArray.empty) := by rw [List.getD, List.getD, List.getElem?_take_of_lt hi']
    rw [e]
    exact hc i (by omega)
theorem segC_drop {w : World} {b off : Nat} {l : List (Int × ByteArray)} (h : SegW w (some ⟨b, off, none⟩) l) (k : Nat) : SegW w (some ⟨b, off + k * 2, none⟩) (l.drop k) := by
  rcases h with h | ⟨b', off', e, hlt, hc⟩
  · exact .inl (by rw [h]; simp)
  · cases e
    refine .inr ⟨b, off + k * 2, rfl, hlt, fun i hi => ?_⟩
    have e : (l.drop k).getD i (0, ByteArray.empty) = l.getD (k + i) (0, ByteArray.empty) := by rw [List.getD, List.getD, List.getElem?_drop]
    rw [e]
    have := hc (k + i) (by simp at hi; omega)
    refine ⟨?_, ?_⟩
    · rw [show off + k * 2 + i * 2 = off + (k + i) * 2 from by omega]; exact this.1
    · rw [show off + k * 2 + i * 2 + 1 = off + (k + i) * 2 + 1 from by omega]; exact this.2

/-- What lies ahead of a number, and behind it. -/
def aheadC (l : List (Int × ByteArray)) (b : Int) : List (Int × ByteArray) := l.filter fun x => decide (x.1 < b)
def behindC (l : List (Int × ByteArray)) (b : Int) : List (Int × ByteArray) := l.filter fun x => decide (b < x.1)

set_option maxHeartbeats 4000000 in
set_option maxRecDepth 100000 in
theorem aroundC_any (base : Nat) (v : Value) (l : List (Int × ByteArray)) (b : Int) (w : World) (hown : w.ownsRow base 91 2 v l.length (cellsC l)) (hn : l.length ≤ 1000) (hu : Up (·.1) l) :
    Calls Try.prog 125 #[v, .int .i64 b, .func (.func 83) #[] #[]] w fun e w' => ∃ a1 c1 a2 c2, e = .returned (.tuple #[.slice a1 (aheadC l b).length c1, .slice a2 (behindC l b).length c2]) ∧ SegW w' a1 (aheadC l b) ∧ SegW w' a2 (behindC l b) ∧ Below w.heap.size w w' := by
  have hcut : l.take (l.countP fun x => decide (x.1 < b)) = aheadC l b ∧ l.drop (l.countP fun x => decide (x.1 < b)) = l.filter (fun x => decide (b ≤ x.1)) := up_cut hu b
  have hany : (l.any fun x => x.1 == b) = true ↔ ∃ x, l[l.countP fun x => decide (x.1 < b)]? = some x ∧ x.1 = b := any_hit_iff hu b
  obtain ⟨a0, c0, hv, hS0, _⟩ := SegC.of_owns hown
  have hsearch := searchC_any a0 c0 l b w hS0 hn hu
  rw [← hv] at hsearch
  obtain ⟨cnt, hcnt⟩ : ∃ cnt, cnt = l.countP fun x => decide (x.1 < b) := ⟨_, rfl⟩
  have hcn : cnt ≤ l.length := by rw [hcnt]; exact List.countP_le_length
  rw [← hcnt] at hcut hany hsearch
  have hl1 : (aheadC l b).length = cnt := by rw [← hcut.1, List.length_take]; omega
  have H1 := hide hcut.1
  have HL := hide hl1
  cases hf : l.any fun x => x.1 == b with
  | true =>
    obtain ⟨x, hx, hxk⟩ := hany.1 hf
    have hlt : cnt < l.length := (List.getElem?_eq_some_iff.1 hx).1
    have hb2 : l.drop (cnt + 1) = behindC l b := by
      rw [hcnt] at hx ⊢
      exact up_hit hu b x hx hxk
    have hl2 : (behindC l b).length = l.length - (cnt + 1) := by rw [← hb2, List.length_drop]
    have H2 := hide hb2
    have HL2 := hide hl2
    rw [hf] at hsearch
    clear hx hxk hf hany hcut hcnt hb2 hl2 hl1
    rcases hown.2 with ⟨rfl, h0⟩ | ⟨g, cap, cur, rfl, hb, hg, hnc, hcm, _⟩
    · omega
    · unfold maxLen at hcm
      simp only [Value.slice.injEq] at hv
      obtain ⟨rfl, _, rfl⟩ := hv
      have HS := hide hS0
      have hlt' : (cnt : Int) < (l.length : Int) := by omega
      have hlc' : (l.length : Int) ≤ (cap : Int) := by omega
      clear hown hS0 hg
      by_cases hz : cap = cnt + 1
      · subst hz
        have HLN : Hid (l.length ≤ cnt + 1) := by unfold Hid; omega
        clear hnc hlc'
        have hlc' : (l.length : Int) ≤ (cnt : Int) + 1 := by have := HLN.out; omega
        go_enter Try.func125, Try.ntmps125
        go_wp2_with fail
        refine hsearch.mono ?_
        rintro e w1 ⟨rfl, hb1⟩
        have HB := hide hb1
        clear hsearch hb1
        go_wp2
        go_quiet (fail)
        go_wp2
        go_ret2
        refine ⟨_, _, _, _, by rw [HL.out, HL2.out]; rfl, ?_, ?_, below_drewN HB.out _⟩
        · rw [← H1.out]
          exact (segC_take HS.out cnt (by omega)).below (below_drewN HB.out _)
        · refine .inl ?_
          rw [← H2.out]
          exact List.drop_of_length_le HLN.out
      · have hz' : ¬ (cap - (cnt + 1) = 0) := by omega
        go_enter Try.func125, Try.ntmps125
        go_wp2_with fail
        refine hsearch.mono ?_
        rintro e w1 ⟨rfl, hb1⟩
        have HB := hide hb1
        clear hsearch hb1
        go_wp2
        go_quiet (fail)
        go_wp2
        go_ret2
        refine ⟨_, _, _, _, by rw [HL.out, HL2.out]; rfl, ?_, ?_, below_drewN HB.out _⟩
        · rw [← H1.out]
          exact (segC_take HS.out cnt (by omega)).below (below_drewN HB.out _)
        · rw [← H2.out]
          have hd := segC_drop HS.out (cnt + 1)
          rw [Nat.zero_add] at hd
          exact hd.below (below_drewN HB.out _)
  | false =>
    have hb2 : l.drop cnt = behindC l b := by
      rw [hcut.2]
      refine up_miss hu b fun x hx hk => ?_
      rw [hcnt] at hany
      rw [hany.2 ⟨x, hx, hk⟩] at hf
      cases hf
    have hl2 : (behindC l b).length = l.length - cnt := by rw [← hb2, List.length_drop]
    have H2 := hide hb2
    have HL2 := hide hl2
    rw [hf] at hsearch
    clear hf hany hcut hcnt hb2 hl2 hl1
    rcases hown.2 with ⟨rfl, h0⟩ | ⟨g, cap, cur, rfl, hb, hg, hnc, hcm, _⟩
    · have hl0 : l = [] := List.eq_nil_of_length_eq_zero h0
      subst hl0
      obtain rfl : cnt = 0 := by simpa using hcn
      clear hown hS0 hv
      go_enter Try.func125, Try.ntmps125
      go_wp2_with fail
      refine hsearch.mono ?_
      rintro e w1 ⟨rfl, hb1⟩
      have HB := hide hb1
      clear hsearch hb1
      go_wp2
      go_quiet (fail)
      go_wp2
      go_ret2
      refine ⟨_, _, _, _, by rw [HL.out, HL2.out]; rfl, .inl ?_, .inl ?_, below_drewN HB.out _⟩
      · rw [← H1.out]; rfl
      · rw [← H2.out]; rfl
    · unfold maxLen at hcm
      simp only [Value.slice.injEq] at hv
      obtain ⟨rfl, _, rfl⟩ := hv
      have HS := hide hS0
      have hlt' : (cnt : Int) ≤ (l.length : Int) := by omega
      have hlc' : (l.length : Int) ≤ (cap : Int) := by omega
      clear hown hS0 hg
      by_cases hz : cap = cnt
      · subst hz
        have HLN : Hid (l.length ≤ cap) := by unfold Hid; omega
        go_enter Try.func125, Try.ntmps125
        go_wp2_with fail
        refine hsearch.mono ?_
        rintro e w1 ⟨rfl, hb1⟩
        have HB := hide hb1
        clear hsearch hb1
        go_wp2
        go_quiet (fail)
        go_wp2
        go_ret2
        refine ⟨_, _, _, _, by rw [HL.out, HL2.out, show l.length - cap = 0 from by have := HLN.out; omega]; rfl, ?_, ?_, below_drewN HB.out _⟩
        · rw [← H1.out]
          exact (segC_take HS.out cap (by omega)).below (below_drewN HB.out _)
        · refine .inl ?_
          rw [← H2.out]
          exact List.drop_of_length_le HLN.out
      · have hz' : ¬ (cap - cnt = 0) := by omega
        go_enter Try.func125, Try.ntmps125
        go_wp2_with fail
        refine hsearch.mono ?_
        rintro e w1 ⟨rfl, hb1⟩
        have HB := hide hb1
        clear hsearch hb1
        go_wp2
        go_quiet (fail)
        go_wp2
        go_ret2
        refine ⟨_, _, _, _, by rw [HL.out, HL2.out]; rfl, ?_, ?_, below_drewN HB.out _⟩
        · rw [← H1.out]
          exact (segC_take HS.out cnt (by omega)).below (below_drewN HB.out _)
        · rw [← H2.out]
          have hd := segC_drop HS.out cnt
          rw [Nat.zero_add] at hd
          exact hd.below (below_drewN HB.out _)


theorem aheadC_le (l : List (Int × ByteArray)) (b : Int) : (aheadC l b).length ≤ l.length := List.length_filter_le _ _
theorem behindC_le (l : List (Int × ByteArray)) (b : Int) : (behindC l b).length ≤ l.length := List.length_filter_le _ _

set_option maxHeartbeats 2000000 in
set_option maxRecDepth 100000 in
theorem withC_any (base : Nat) (v : Value) (l : List (Int × ByteArray)) (b : Int) (s : ByteArray) (w : World) (hown : w.ownsRow base 91 2 v l.length (cellsC l)) (hn : l.length ≤ 100) (hu : Up (·.1) l) :
    Calls Try.prog 82 #[v, .int .i64 b, .func (.func 83) #[] #[], .agg #[.int .i64 b, .string s]] w fun e w' => ∃ v', e = .returned v' ∧ w'.ownsRow w.heap.size 91 2 v' (putAt (·.1) l b (b, s)).length (cellsC (putAt (·.1) l b (b, s))) ∧ Below w.heap.size w w' := by
  have HO := hide hown
  clear hown
  go_enter Try.func82, Try.ntmps82
  go_wp2_with fail
  refine (aroundC_any base v l b _ (owns_keep HO.out (below1 _ _)) (by omega) hu).mono ?_
  rintro e w1 ⟨a1, c1, a2, c2, rfl, hs1, hs2, hb1⟩
  have HS1 := hide hs1
  have HS2 := hide hs2
  have hs1 : w.heap.size < w1.heap.size := by have := hb1.size; simp at this; omega
  have y0 := cellKeep hb1 (b := w.heap.size) (o := 0) (v := .int .i64 b) (by simp) (by simp [go_sem])
  have y1 := cellKeep hb1 (b := w.heap.size) (o := 1) (v := .string s) (by simp) (by simp [go_sem])
  have HB := hide (bthen (below1 _ _) hb1)
  have q1 := aheadC_le l b
  have q2 := behindC_le l b
  have hw1 := HB.out.size
  clear hs1 hs2 hb1
  have HL : Hid (∀ w', Below w1.heap.size w1 w' → w'.cell? ⟨w1.heap.size + 1, 0, none⟩ = some (.slice a1 (aheadC l b).length c1) → w'.cell? ⟨w1.heap.size + 1, 1, none⟩ = some (.slice (some ⟨w1.heap.size, 0, none⟩) 1 1) → w'.cell? ⟨w1.heap.size + 1, 2, none⟩ = some (.slice a2 (behindC l b).length c2) → SegW w' (some ⟨w1.heap.size, 0, none⟩) [(b, s)] → w1.heap.size + 1 < w'.heap.size → SegLC w' (w1.heap.size + 1) [(a1, c1, aheadC l b), (some ⟨w1.heap.size, 0, none⟩, 1, [(b, s)]), (a2, c2, behindC l b)]) := by
    intro w' hb d0 d1 d2 hseg hlt
    refine ⟨hlt, fun i x hx => ?_⟩
    match i, hx with
    | 0, hx => cases hx; exact ⟨d0, HS1.out.below hb⟩
    | 1, hx => cases hx; exact ⟨d1, hseg⟩
    | 2, hx => cases hx; exact ⟨d2, HS2.out.below hb⟩
    | n + 3, hx => simp at hx
  have HF : Hid (flatC [(a1, c1, aheadC l b), (some ⟨w1.heap.size, 0, none⟩, 1, [(b, s)]), (a2, c2, behindC l b)] = putAt (·.1) l b (b, s)) := by simp [Hid, flatC, aheadC, behindC, putAt]
  go_wp2_with fail
  refine (concatC_any (w1.heap.size + 1) 3 3 [(a1, c1, aheadC l b), (some ⟨w1.heap.size, 0, none⟩, 1, [(b, s)]), (a2, c2, behindC l b)] _ rfl (by omega) (HL.out _ (bthen (below1 _ _) (below1 _ _)) (by simp [go_sem]) (by simp [go_sem]) (by simp [go_sem]) (.inr ⟨w1.heap.size, 0, rfl, by simp; omega, fun i hi => ?_⟩) (by simp)) (by simp [flatC]; omega)).mono ?_
  · have : i = 0 := by simpa using hi
    subst this
    exact ⟨by simp [go_sem], by simp [go_sem]⟩
  · rintro e w2 ⟨v2, rfl, hown2, hb2⟩
    rw [HF.out] at hown2
    have HO2 := hide hown2
    have hb3 := bthen (bthen (below1 _ _) (below1 _ _)) hb2
    have HB3 := hide (bthen HB.out hb3)
    clear hown2 hb2
    go_wp2
    go_ret
    refine ⟨_, rfl, owns_base HO2.out ?_, HB3.out⟩
    simp
    omega

set_option maxHeartbeats 2000000 in
set_option maxRecDepth 100000 in
theorem withoutC_any (base : Nat) (v : Value) (l : List (Int × ByteArray)) (b : Int) (w : World) (hown : w.ownsRow base 91 2 v l.length (cellsC l)) (hn : l.length ≤ 100) (hu : Up (·.1) l) :
    Calls Try.prog 91 #[v, .int .i64 b, .func (.func 83) #[] #[]] w fun e w' => ∃ v', e = .returned v' ∧ w'.ownsRow w.heap.size 91 2 v' (dropAt (·.1) l b).length (cellsC (dropAt (·.1) l b)) ∧ Below w.heap.size w w' := by
  have HO := hide hown
  clear hown
  go_enter Try.func91, Try.ntmps91
  go_wp2_with fail
  refine (aroundC_any base v l b _ HO.out (by omega) hu).mono ?_
  rintro e w1 ⟨a1, c1, a2, c2, rfl, hs1, hs2, hb1⟩
  have HS1 := hide hs1
  have HS2 := hide hs2
  have HB := hide hb1
  have q1 := aheadC_le l b
  have q2 := behindC_le l b
  have hw1 := HB.out.size
  clear hs1 hs2 hb1
  have HL : Hid (∀ w', Below w1.heap.size w1 w' → w'.cell? ⟨w1.heap.size, 0, none⟩ = some (.slice a1 (aheadC l b).length c1) → w'.cell? ⟨w1.heap.size, 1, none⟩ = some (.slice a2 (behindC l b).length c2) → w1.heap.size < w'.heap.size → SegLC w' w1.heap.size [(a1, c1, aheadC l b), (a2, c2, behindC l b)]) := by
    intro w' hb d0 d2 hlt
    refine ⟨hlt, fun i x hx => ?_⟩
    match i, hx with
    | 0, hx => cases hx; exact ⟨d0, HS1.out.below hb⟩
    | 1, hx => cases hx; exact ⟨d2, HS2.out.below hb⟩
    | n + 2, hx => simp at hx
  have HF : Hid (flatC [(a1, c1, aheadC l b), (a2, c2, behindC l b)] = dropAt (·.1) l b) := by simp [Hid, flatC, aheadC, behindC, dropAt]
  go_wp2_with fail
  refine (concatC_any w1.heap.size 2 2 [(a1, c1, aheadC l b), (a2, c2, behindC l b)] _ rfl (by omega) (HL.out _ (below1 _ _) (by simp [go_sem]) (by simp [go_sem]) (by simp)) (by simp [flatC]; omega)).mono ?_
  rintro e w2 ⟨v2, rfl, hown2, hb2⟩
  rw [HF.out] at hown2
  have HO2 := hide hown2
  have HB3 := hide (bthen HB.out (bthen (below1 _ _) hb2))
  clear hown2 hb2
  go_wp2
  go_ret
  refine ⟨_, rfl, owns_base HO2.out ?_, HB3.out⟩
  simp
  omega

end Go.Proofs.Ytjnpndfpajjihab
