/-
  The walk of the document's own DecodeMark: super blocks; and blocks that name too many.
-/
import Derived.Test.YtjnpndfpajjihaaMDecode2
namespace Go.Proofs.Ytjnpndfpajjihaa
open Go.RowKit

theorem noughts_at (s : ByteArray) (n : Nat) (x : Int) (w : World) (hx : x = (n : Int)) (hs : s.size ≤ 32) (hn : n ≤ 100) :
    Calls Try.prog 81 #[.string s, .int .i64 x] w fun e w' => e = .returned (.bool (zeroFrom s n)) ∧ w = w' := by
  subst hx
  exact noughts_any s n w hs hn

set_option maxHeartbeats 4000000 in
set_option maxRecDepth 100000 in
theorem decode_one (s : ByteArray) (w : World) (h : s.size = 32) (hm : isMagic s = true) (hk : at8 s 4 = 1) :
    Calls Try.prog 41 #[.string s] w fun e w' => ∃ v2, e = .returned (.tuple #[v2, .int .i64 (decOf ⟨1, seqOf s 4, at8 s 9, [], []⟩ (zeroFrom s 10)).2]) ∧ IsMkN w' w.heap.size v2 (decOf ⟨1, seqOf s 4, at8 s 9, [], []⟩ (zeroFrom s 10)).1 ∧ Below w.heap.size w w' := by
  have hm' : ((s.extract 0 4).toList == [87, 66, 75, 49]) = true := by rw [isMagic, if_pos (by omega)] at hm; exact hm
  clear hm
  have HK := hide hk
  clear hk
  have hB : ∀ k (hk : k < s.size), ((s[k]'hk).toNat : Int) = at8 s k := at8_of s
  have hW := wrap_at8 s
  have hW' : ∀ k, IntKind.i64.wrap (at8 s k) = at8 s k := fun k => by have := at8_in s k; rw [IntKind.wrap_i64]; omega
  go_enter Try.func41, Try.ntmps41
  go_wp2
  go_loopw [6] (fun i wr => ∃ k : Nat, k ≤ 4 ∧ i = .int .i64 ((k + 5 : Nat) : Int) ∧ wr.heap[w.heap.size + 1]? = some (.cells #[.int .i64 (at8 s 4), .int .i64 (seqOf s k), .int .i64 0, .slice none 0 0, .slice none 0 0] 47 (0, 0)) ∧
    Below (w.heap.size + 1) (w.alloc (Obj.cells #[.int .i64 0, .int .i64 0, .int .i64 0, .slice none 0 0, .slice none 0 0] 47)) wr) (fun i _ => 9 - (intOf i).toNat)
  case atStart =>
    refine ⟨0, Nat.zero_le _, rfl, ?_, (Below.refl _ _).alloc (by simp) _⟩
    exact new2 w _ _
  case round =>
    obtain ⟨k, hk, rfl, hbox, hbr⟩ := hrel
    have HBOX := hide hbox
    obtain ⟨⟨x0, x1, x2, x3, x4⟩, e0, e1, e2, e3, e4⟩ := box5 hbox
    clear hbox
    have hsr : w.heap.size + 1 < wr.heap.size := (Array.getElem?_eq_some_iff.1 HBOX.out).1
    have hsr' : w.heap.size < wr.heap.size := by omega
    by_cases hlt : k < 4
    · obtain ⟨q, hq⟩ : ∃ q, q = seqOf s k := ⟨_, rfl⟩
      have hq1 := seqOf_lt s k (by omega)
      have hq2 : seqOf s (k + 1) = 256 * seqOf s k + at8 s (k + 5) := rfl
      have hq3 := seqOf_lt s (k + 1) (by omega)
      rw [hq2] at hq3
      rw [← hq] at x1 hq1 hq3
      have HQ := hide hq
      clear hq hq2
      have u1 : IntKind.i64.wrap (256 * q) = 256 * q := by rw [IntKind.wrap_i64]; omega
      have u2 : IntKind.i64.wrap (256 * q + at8 s (k + 5)) = 256 * q + at8 s (k + 5) := by rw [IntKind.wrap_i64]; omega
      have hlt' : (k : Int) + 5 < 9 := by omega
      go_wp2
      go_region
      all_goals
        go_wp2
        go_roundw
        case rel =>
          refine ⟨k + 1, by omega, by go_num, ?_, (hbr.setCell (by simp) _).drew⟩
          refine (heap_setCell_same wr _ _ _ _ _ HBOX.out).trans ?_
          rw [seqOf, ← HQ.out]; rfl
        case measure => simp [intOf]; omega
    · obtain rfl : k = 4 := by omega
      obtain ⟨⟨y0, y1, y2, y3, y4⟩, f0, f1, f2, f3, f4⟩ := box5 (keepR hbr)
      have HB := hide (bthen (below1 _ _) (hbr.mono (by simp)))
      clear hlt hk
      have hk := HK.out
      have HBK := HBOX.out
      rw [hk] at x0 HBK
      replace HBOX := hide HBK
      clear HBK
      rw [show (((4 : Nat) + 5 : Nat) : Int) = 9 from rfl, hk]
      obtain ⟨wq, hwq⟩ : ∃ wq, wq = wr.setCell ⟨w.heap.size + 1, 2, none⟩ (.int .i64 (at8 s 9)) := ⟨_, rfl⟩
      have hboxq : wq.heap[w.heap.size + 1]? = some (.cells #[.int .i64 1, .int .i64 (seqOf s 4), .int .i64 (at8 s 9), .slice none 0 0, .slice none 0 0] 47 (0, 0)) := by
        rw [hwq]; exact (heap_setCell_same wr _ _ _ _ _ HBOX.out).trans rfl
      have hbq : Below (w.heap.size + 1) (w.alloc (Obj.cells #[.int .i64 0, .int .i64 0, .int .i64 0, .slice none 0 0, .slice none 0 0] 47)) wq := by rw [hwq]; exact hbr.setCell (by simp) _
      have HBQ := hide hboxq
      have HBB := hide hbq
      clear hboxq hbq hbr
      go_wp2_with fail
      rw [← hwq]
      clear hwq x0 x1 x2 x3 x4 e0 e1 e2 e3 e4 y0 y1 y2 y3 y4 f0 f1 f2 f3 f4 HB HBOX
      obtain ⟨⟨x0, x1, x2, x3, x4⟩, _⟩ := box5 HBQ.out
      obtain ⟨⟨y0, y1, y2, y3, y4⟩, f0, f1, f2, f3, f4⟩ := box5 (keepR HBB.out)
      have hsq : w.heap.size + 1 < wq.heap.size := (Array.getElem?_eq_some_iff.1 HBQ.out).1
      have HB := hide (bthen (below1 _ _) (HBB.out.mono (by simp)))
      refine (goodMark_any _ ⟨1, seqOf s 4, at8 s 9, [], []⟩ _ ⟨none, 0, none, 0, rfl, .inl rfl, .inl rfl, Nat.zero_le _, Nat.zero_le _⟩ (by simp)).mono ?_
      rintro e w1 ⟨rfl, hb1⟩
      have hs1 : w.heap.size + 1 < w1.heap.size := by have := hb1.size; omega
      have hs1' : w.heap.size < w1.heap.size := by omega
      replace x0 := cellKeep hb1 (by omega) x0
      replace x1 := cellKeep hb1 (by omega) x1
      replace x2 := cellKeep hb1 (by omega) x2
      replace x3 := cellKeep hb1 (by omega) x3
      replace x4 := cellKeep hb1 (by omega) x4
      replace y0 := cellKeep hb1 (by omega) y0
      replace y1 := cellKeep hb1 (by omega) y1
      replace y2 := cellKeep hb1 (by omega) y2
      replace y3 := cellKeep hb1 (by omega) y3
      replace y4 := cellKeep hb1 (by omega) y4
      replace f0 := frozKeep hb1 (by omega) f0
      replace f1 := frozKeep hb1 (by omega) f1
      replace f2 := frozKeep hb1 (by omega) f2
      replace f3 := frozKeep hb1 (by omega) f3
      replace f4 := frozKeep hb1 (by omega) f4
      replace HB := hide (bthen HB.out hb1)
      clear hb1
      by_cases hg : goodM ⟨1, seqOf s 4, at8 s 9, [], []⟩ = 0
      · go_wp2_with fail
        refine (noughts_at s (10) _ _ (by omega) (by omega) (by omega)).mono ?_
        rintro e w2 ⟨rfl, rfl⟩
        cases hz : zeroFrom s (10) with
        | true =>
          have hd := decOf_good hg hz
          have HD := hide hd
          clear hd hz
          go_wp2
          refine bodyPost_ret (v := .tuple #[.agg #[.int .i64 1, .int .i64 (seqOf s 4), .int .i64 (at8 s 9), .slice none 0 0, .slice none 0 0], .int .i64 0]) (by simp [results, Try.results41, go_sem, y0, y1, y2, y3, y4]) rfl ⟨_, by rw [HD.out], ?_, ?_⟩
          · rw [HD.out]
            exact ⟨none, 0, none, 0, rfl, .inl rfl, .inl rfl, Nat.zero_le _, Nat.zero_le _, fun _ _ h => (by cases h), fun _ _ h => (by cases h)⟩
          · repeat refine Below.setCell ?_ (by simp) _
            exact HB.out
        | false =>
          have hd := decOf_behind ⟨1, seqOf s 4, at8 s 9, [], []⟩ hz
          have HD := hide hd
          clear hd hz
          go_wp2_with fail
          refine (bad_any _).mono ?_
          rintro e w9 ⟨rfl, hb9⟩
          have hs9 : w.heap.size < w9.heap.size := by have := hb9.size; omega
          replace y0 := cellKeep hb9 (by omega) y0
          replace y1 := cellKeep hb9 (by omega) y1
          replace y2 := cellKeep hb9 (by omega) y2
          replace y3 := cellKeep hb9 (by omega) y3
          replace y4 := cellKeep hb9 (by omega) y4
          replace f0 := frozKeep hb9 (by omega) f0
          replace f1 := frozKeep hb9 (by omega) f1
          replace f2 := frozKeep hb9 (by omega) f2
          replace f3 := frozKeep hb9 (by omega) f3
          replace f4 := frozKeep hb9 (by omega) f4
          have HB9 := hide (bthen HB.out hb9)
          clear hb9
          go_wp2
          refine bodyPost_ret (v := .tuple #[.agg #[.int .i64 0, .int .i64 0, .int .i64 0, .slice none 0 0, .slice none 0 0], .int .i64 1]) (by simp [results, Try.results41, go_sem, y0, y1, y2, y3, y4]) rfl ⟨_, by rw [HD.out], by rw [HD.out]; exact isZeroN _ _, ?_⟩
          repeat refine Below.setCell ?_ (by simp) _
          exact HB9.out
      · have hg' : (goodM ⟨1, seqOf s 4, at8 s 9, [], []⟩ != 0) = true := by simpa using hg
        have hd := decOf_bad (m := ⟨1, seqOf s 4, at8 s 9, [], []⟩) (zeroFrom s (10)) hg
        have HD := hide hd
        clear hd
        go_wp2_with fail
        refine (bad_any _).mono ?_
        rintro e w9 ⟨rfl, hb9⟩
        have hs9 : w.heap.size < w9.heap.size := by have := hb9.size; omega
        replace y0 := cellKeep hb9 (by omega) y0
        replace y1 := cellKeep hb9 (by omega) y1
        replace y2 := cellKeep hb9 (by omega) y2
        replace y3 := cellKeep hb9 (by omega) y3
        replace y4 := cellKeep hb9 (by omega) y4
        replace f0 := frozKeep hb9 (by omega) f0
        replace f1 := frozKeep hb9 (by omega) f1
        replace f2 := frozKeep hb9 (by omega) f2
        replace f3 := frozKeep hb9 (by omega) f3
        replace f4 := frozKeep hb9 (by omega) f4
        have HB9 := hide (bthen HB.out hb9)
        clear hb9
        go_wp2
        refine bodyPost_ret (v := .tuple #[.agg #[.int .i64 0, .int .i64 0, .int .i64 0, .slice none 0 0, .slice none 0 0], .int .i64 1]) (by simp [results, Try.results41, go_sem, y0, y1, y2, y3, y4]) rfl ⟨_, by rw [HD.out], by rw [HD.out]; exact isZeroN _ _, ?_⟩
        repeat refine Below.setCell ?_ (by simp) _
        exact HB9.out

set_option maxHeartbeats 4000000 in
set_option maxRecDepth 100000 in
theorem decode_tags_many (s : ByteArray) (w : World) (h : s.size = 32) (hm : isMagic s = true) (hk : at8 s 4 = 2) (h9 : 10 < at8 s 9) :
    Calls Try.prog 41 #[.string s] w fun e w' => ∃ v2, e = .returned (.tuple #[v2, .int .i64 1]) ∧ IsMkN w' w.heap.size v2 zeroM ∧ Below w.heap.size w w' := by
  have hm' : ((s.extract 0 4).toList == [87, 66, 75, 49]) = true := by rw [isMagic, if_pos (by omega)] at hm; exact hm
  clear hm
  have HK := hide hk
  clear hk
  have hB : ∀ k (hk : k < s.size), ((s[k]'hk).toNat : Int) = at8 s k := at8_of s
  have hW := wrap_at8 s
  have hW' : ∀ k, IntKind.i64.wrap (at8 s k) = at8 s k := fun k => by have := at8_in s k; rw [IntKind.wrap_i64]; omega
  go_enter Try.func41, Try.ntmps41
  go_wp2
  go_loopw [6] (fun i wr => ∃ k : Nat, k ≤ 4 ∧ i = .int .i64 ((k + 5 : Nat) : Int) ∧ wr.heap[w.heap.size + 1]? = some (.cells #[.int .i64 (at8 s 4), .int .i64 (seqOf s k), .int .i64 0, .slice none 0 0, .slice none 0 0] 47 (0, 0)) ∧
    Below (w.heap.size + 1) (w.alloc (Obj.cells #[.int .i64 0, .int .i64 0, .int .i64 0, .slice none 0 0, .slice none 0 0] 47)) wr) (fun i _ => 9 - (intOf i).toNat)
  case atStart =>
    refine ⟨0, Nat.zero_le _, rfl, ?_, (Below.refl _ _).alloc (by simp) _⟩
    exact new2 w _ _
  case round =>
    obtain ⟨k, hk, rfl, hbox, hbr⟩ := hrel
    have HBOX := hide hbox
    obtain ⟨⟨x0, x1, x2, x3, x4⟩, e0, e1, e2, e3, e4⟩ := box5 hbox
    clear hbox
    have hsr : w.heap.size + 1 < wr.heap.size := (Array.getElem?_eq_some_iff.1 HBOX.out).1
    have hsr' : w.heap.size < wr.heap.size := by omega
    by_cases hlt : k < 4
    · obtain ⟨q, hq⟩ : ∃ q, q = seqOf s k := ⟨_, rfl⟩
      have hq1 := seqOf_lt s k (by omega)
      have hq2 : seqOf s (k + 1) = 256 * seqOf s k + at8 s (k + 5) := rfl
      have hq3 := seqOf_lt s (k + 1) (by omega)
      rw [hq2] at hq3
      rw [← hq] at x1 hq1 hq3
      have HQ := hide hq
      clear hq hq2
      have u1 : IntKind.i64.wrap (256 * q) = 256 * q := by rw [IntKind.wrap_i64]; omega
      have u2 : IntKind.i64.wrap (256 * q + at8 s (k + 5)) = 256 * q + at8 s (k + 5) := by rw [IntKind.wrap_i64]; omega
      have hlt' : (k : Int) + 5 < 9 := by omega
      go_wp2
      go_region
      all_goals
        go_wp2
        go_roundw
        case rel =>
          refine ⟨k + 1, by omega, by go_num, ?_, (hbr.setCell (by simp) _).drew⟩
          refine (heap_setCell_same wr _ _ _ _ _ HBOX.out).trans ?_
          rw [seqOf, ← HQ.out]; rfl
        case measure => simp [intOf]; omega
    · obtain rfl : k = 4 := by omega
      obtain ⟨⟨y0, y1, y2, y3, y4⟩, f0, f1, f2, f3, f4⟩ := box5 (keepR hbr)
      have HB := hide (bthen (below1 _ _) (hbr.mono (by simp)))
      clear hlt hk
      have hk := HK.out
      have HBK := HBOX.out
      rw [hk] at x0 HBK
      replace HBOX := hide HBK
      clear HBK
      rw [show (((4 : Nat) + 5 : Nat) : Int) = 9 from rfl, hk]
      clear hbr
      go_wp2_with fail
      refine (bad_any _).mono ?_
      rintro e w9 ⟨rfl, hb9⟩
      have hs9 : w.heap.size < w9.heap.size := by have := hb9.size; omega
      replace y0 := cellKeep hb9 (by omega) y0
      replace y1 := cellKeep hb9 (by omega) y1
      replace y2 := cellKeep hb9 (by omega) y2
      replace y3 := cellKeep hb9 (by omega) y3
      replace y4 := cellKeep hb9 (by omega) y4
      replace f0 := frozKeep hb9 (by omega) f0
      replace f1 := frozKeep hb9 (by omega) f1
      replace f2 := frozKeep hb9 (by omega) f2
      replace f3 := frozKeep hb9 (by omega) f3
      replace f4 := frozKeep hb9 (by omega) f4
      have HB9 := hide (bthen HB.out hb9)
      clear hb9
      go_wp2
      refine bodyPost_ret (v := .tuple #[.agg #[.int .i64 0, .int .i64 0, .int .i64 0, .slice none 0 0, .slice none 0 0], .int .i64 1]) (by simp [results, Try.results41, go_sem, y0, y1, y2, y3, y4]) rfl ⟨_, rfl, isZeroN _ _, ?_⟩
      repeat refine Below.setCell ?_ (by simp) _
      exact HB9.out

set_option maxHeartbeats 4000000 in
set_option maxRecDepth 100000 in
theorem decode_list_many (s : ByteArray) (w : World) (h : s.size = 32) (hm : isMagic s = true) (hk : at8 s 4 = 3) (h9 : 20 < at8 s 9) :
    Calls Try.prog 41 #[.string s] w fun e w' => ∃ v2, e = .returned (.tuple #[v2, .int .i64 1]) ∧ IsMkN w' w.heap.size v2 zeroM ∧ Below w.heap.size w w' := by
  have hm' : ((s.extract 0 4).toList == [87, 66, 75, 49]) = true := by rw [isMagic, if_pos (by omega)] at hm; exact hm
  clear hm
  have HK := hide hk
  clear hk
  have hB : ∀ k (hk : k < s.size), ((s[k]'hk).toNat : Int) = at8 s k := at8_of s
  have hW := wrap_at8 s
  have hW' : ∀ k, IntKind.i64.wrap (at8 s k) = at8 s k := fun k => by have := at8_in s k; rw [IntKind.wrap_i64]; omega
  go_enter Try.func41, Try.ntmps41
  go_wp2
  go_loopw [6] (fun i wr => ∃ k : Nat, k ≤ 4 ∧ i = .int .i64 ((k + 5 : Nat) : Int) ∧ wr.heap[w.heap.size + 1]? = some (.cells #[.int .i64 (at8 s 4), .int .i64 (seqOf s k), .int .i64 0, .slice none 0 0, .slice none 0 0] 47 (0, 0)) ∧
    Below (w.heap.size + 1) (w.alloc (Obj.cells #[.int .i64 0, .int .i64 0, .int .i64 0, .slice none 0 0, .slice none 0 0] 47)) wr) (fun i _ => 9 - (intOf i).toNat)
  case atStart =>
    refine ⟨0, Nat.zero_le _, rfl, ?_, (Below.refl _ _).alloc (by simp) _⟩
    exact new2 w _ _
  case round =>
    obtain ⟨k, hk, rfl, hbox, hbr⟩ := hrel
    have HBOX := hide hbox
    obtain ⟨⟨x0, x1, x2, x3, x4⟩, e0, e1, e2, e3, e4⟩ := box5 hbox
    clear hbox
    have hsr : w.heap.size + 1 < wr.heap.size := (Array.getElem?_eq_some_iff.1 HBOX.out).1
    have hsr' : w.heap.size < wr.heap.size := by omega
    by_cases hlt : k < 4
    · obtain ⟨q, hq⟩ : ∃ q, q = seqOf s k := ⟨_, rfl⟩
      have hq1 := seqOf_lt s k (by omega)
      have hq2 : seqOf s (k + 1) = 256 * seqOf s k + at8 s (k + 5) := rfl
      have hq3 := seqOf_lt s (k + 1) (by omega)
      rw [hq2] at hq3
      rw [← hq] at x1 hq1 hq3
      have HQ := hide hq
      clear hq hq2
      have u1 : IntKind.i64.wrap (256 * q) = 256 * q := by rw [IntKind.wrap_i64]; omega
      have u2 : IntKind.i64.wrap (256 * q + at8 s (k + 5)) = 256 * q + at8 s (k + 5) := by rw [IntKind.wrap_i64]; omega
      have hlt' : (k : Int) + 5 < 9 := by omega
      go_wp2
      go_region
      all_goals
        go_wp2
        go_roundw
        case rel =>
          refine ⟨k + 1, by omega, by go_num, ?_, (hbr.setCell (by simp) _).drew⟩
          refine (heap_setCell_same wr _ _ _ _ _ HBOX.out).trans ?_
          rw [seqOf, ← HQ.out]; rfl
        case measure => simp [intOf]; omega
    · obtain rfl : k = 4 := by omega
      obtain ⟨⟨y0, y1, y2, y3, y4⟩, f0, f1, f2, f3, f4⟩ := box5 (keepR hbr)
      have HB := hide (bthen (below1 _ _) (hbr.mono (by simp)))
      clear hlt hk
      have hk := HK.out
      have HBK := HBOX.out
      rw [hk] at x0 HBK
      replace HBOX := hide HBK
      clear HBK
      rw [show (((4 : Nat) + 5 : Nat) : Int) = 9 from rfl, hk]
      clear hbr
      go_wp2_with fail
      refine (bad_any _).mono ?_
      rintro e w9 ⟨rfl, hb9⟩
      have hs9 : w.heap.size < w9.heap.size := by have := hb9.size; omega
      replace y0 := cellKeep hb9 (by omega) y0
      replace y1 := cellKeep hb9 (by omega) y1
      replace y2 := cellKeep hb9 (by omega) y2
      replace y3 := cellKeep hb9 (by omega) y3
      replace y4 := cellKeep hb9 (by omega) y4
      replace f0 := frozKeep hb9 (by omega) f0
      replace f1 := frozKeep hb9 (by omega) f1
      replace f2 := frozKeep hb9 (by omega) f2
      replace f3 := frozKeep hb9 (by omega) f3
      replace f4 := frozKeep hb9 (by omega) f4
      have HB9 := hide (bthen HB.out hb9)
      clear hb9
      go_wp2
      refine bodyPost_ret (v := .tuple #[.agg #[.int .i64 0, .int .i64 0, .int .i64 0, .slice none 0 0, .slice none 0 0], .int .i64 1]) (by simp [results, Try.results41, go_sem, y0, y1, y2, y3, y4]) rfl ⟨_, rfl, isZeroN _ _, ?_⟩
      repeat refine Below.setCell ?_ (by simp) _
      exact HB9.out


end Go.Proofs.Ytjnpndfpajjihaa
