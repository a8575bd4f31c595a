/-
  The walk of the document's own DecodeMark: descriptors.
-/
import Derived.Test.YtjnpndfpajjihaaMDecode4
namespace Go.Proofs.Ytjnpndfpajjihaa
open Go.RowKit

set_option maxHeartbeats 4000000 in
set_option maxRecDepth 100000 in
theorem decode_tags (s : ByteArray) (n : Nat) (R : Mk × Int) (w : World) (h : s.size = 32) (hm : isMagic s = true) (hk : at8 s 4 = 2) (h10 : n ≤ 10) (h9 : at8 s 9 = (n : Int)) (hok : (∀ i, i < n → at8 s (11 + 2 * i) ≤ 1) → R = decOf ⟨2, seqOf s 4, 0, gTags s, []⟩ (zeroFrom s (10 + 2 * n))) (hbad : ∀ i, i < n → 1 < at8 s (11 + 2 * i) → R = (zeroM, 1)) :
    Calls Try.prog 41 #[.string s] w fun e w' => ∃ v2, e = .returned (.tuple #[v2, .int .i64 R.2]) ∧ IsMkN w' w.heap.size v2 R.1 ∧ Below w.heap.size w w' := by
  have HOK := hide hok
  have HBAD := hide hbad
  clear hok hbad
  have HM : Hid (manyOf s 10 = n) := many_few h9 h10
  have HLEN : Hid ((gTags s).length = n) := by rw [Hid, gTags_length, HM.out]
  have hn' : (n : Int) ≤ 10 := by omega
  have hm' : ((s.extract 0 4).toList == [87, 66, 75, 49]) = true := by rw [isMagic, if_pos (by omega)] at hm; exact hm
  clear hm
  have HK := hide hk
  clear hk
  have hB : ∀ k (hk : k < s.size), ((s[k]'hk).toNat : Int) = at8 s k := at8_of s
  have hW := wrap_at8 s
  have hW' : ∀ k, IntKind.i64.wrap (at8 s k) = at8 s k := fun k => by have := at8_in s k; rw [IntKind.wrap_i64]; omega
  go_enter Try.func41, Try.ntmps41
  go_wp2
  go_loopw [6] (fun i wr => ∃ k : Nat, k ≤ 4 ∧ i = .int .i64 ((k + 5 : Nat) : Int) ∧ wr.heap[w.heap.size + 1]? = some (.cells #[.int .i64 (at8 s 4), .int .i64 (seqOf s k), .int .i64 0, .slice none 0 0, .slice none 0 0] 47 (0, 0)) ∧
    Below (w.heap.size + 1) (w.alloc (Obj.cells #[.int .i64 0, .int .i64 0, .int .i64 0, .slice none 0 0, .slice none 0 0] 47)) wr) (fun i _ => 9 - (intOf i).toNat)
  case atStart =>
    refine ⟨0, Nat.zero_le _, rfl, ?_, (Below.refl _ _).alloc (by simp) _⟩
    exact new2 w _ _
  case round =>
    obtain ⟨k, hk, rfl, hbox, hbr⟩ := hrel
    have HBOX := hide hbox
    obtain ⟨⟨x0, x1, x2, x3, x4⟩, e0, e1, e2, e3, e4⟩ := box5 hbox
    clear hbox
    have hsr : w.heap.size + 1 < wr.heap.size := (Array.getElem?_eq_some_iff.1 HBOX.out).1
    have hsr' : w.heap.size < wr.heap.size := by omega
    by_cases hlt : k < 4
    · obtain ⟨q, hq⟩ : ∃ q, q = seqOf s k := ⟨_, rfl⟩
      have hq1 := seqOf_lt s k (by omega)
      have hq2 : seqOf s (k + 1) = 256 * seqOf s k + at8 s (k + 5) := rfl
      have hq3 := seqOf_lt s (k + 1) (by omega)
      rw [hq2] at hq3
      rw [← hq] at x1 hq1 hq3
      have HQ := hide hq
      clear hq hq2
      have u1 : IntKind.i64.wrap (256 * q) = 256 * q := by rw [IntKind.wrap_i64]; omega
      have u2 : IntKind.i64.wrap (256 * q + at8 s (k + 5)) = 256 * q + at8 s (k + 5) := by rw [IntKind.wrap_i64]; omega
      have hlt' : (k : Int) + 5 < 9 := by omega
      go_wp2
      go_region
      all_goals
        go_wp2
        go_roundw
        case rel =>
          refine ⟨k + 1, by omega, by go_num, ?_, (hbr.setCell (by simp) _).drew⟩
          refine (heap_setCell_same wr _ _ _ _ _ HBOX.out).trans ?_
          rw [seqOf, ← HQ.out]; rfl
        case measure => simp [intOf]; omega
    · obtain rfl : k = 4 := by omega
      obtain ⟨⟨y0, y1, y2, y3, y4⟩, f0, f1, f2, f3, f4⟩ := box5 (keepR hbr)
      have HB := hide (bthen (below1 _ _) (hbr.mono (by simp)))
      clear hlt hk
      have hk := HK.out
      have HBK := HBOX.out
      rw [hk] at x0 HBK
      replace HBOX := hide HBK
      clear HBK
      rw [show (((4 : Nat) + 5 : Nat) : Int) = 9 from rfl, hk]
      clear x0 x1 x2 x3 x4 e0 e1 e2 e3 e4 y0 y1 y2 y3 y4 f0 f1 f2 f3 f4 HB
      obtain ⟨⟨x0, x1, x2, x3, x4⟩, e0, e1, e2, e3, e4⟩ := box5 HBOX.out
      go_wp2
      go_loopw [9] (fun i wr => ∃ (k : Nat) (a2 : Option Addr) (c2 : Nat), k ≤ n ∧ i = .int .i64 k ∧ wr.heap[w.heap.size + 1]? = some (.cells #[.int .i64 2, .int .i64 (seqOf s 4), .int .i64 0, .slice a2 k c2, .slice none 0 0] 47 (0, 0)) ∧ Hid (wr.ownsRow (w.heap.size + 2) 87 2 (.slice a2 k c2) k (cellsT ((gTags s).take k))) ∧ Hid (∀ i, i < k → at8 s (11 + 2 * i) ≤ 1) ∧ Below (w.heap.size + 1) (w.alloc (Obj.cells #[.int .i64 0, .int .i64 0, .int .i64 0, .slice none 0 0, .slice none 0 0] 47)) wr) (fun i _ => n - (intOf i).toNat)
      case atStart => exact ⟨0, none, 0, Nat.zero_le _, rfl, HBOX.out, World.ownsRow_nil _ _ _ _, (fun i hi => by omega), hbr⟩
      case round =>
        clear hbr x0 x1 x2 x3 x4 e0 e1 e2 e3 e4 HBOX hsr hsr'
        obtain ⟨k, a2, c2, hk2, rfl, hbox, hown, hfl, hbr⟩ := hrel
        have HBOX := hide hbox
        have hsr : w.heap.size + 1 < wr.heap.size := (Array.getElem?_eq_some_iff.1 hbox).1
        have hsr' : w.heap.size < wr.heap.size := by omega
        obtain ⟨⟨x0, x1, x2, x3, x4⟩, e0, e1, e2, e3, e4⟩ := box5 hbox
        clear hbox
        by_cases hlt : k < n
        · have hlt' : (k : Int) < (n : Int) := by omega
          have hk32 : 10 + 2 * k < s.size := by omega
          have hk33 : 11 + 2 * k < s.size := by omega
          have hT : ((10 : Int) + 2 * (k : Int)).toNat = 10 + 2 * k := by omega
          have hT2 : ((11 : Int) + 2 * (k : Int)).toNat = 11 + 2 * k := by omega
          have u1 : IntKind.i64.wrap (2 * (k : Int)) = 2 * (k : Int) := by rw [IntKind.wrap_i64]; omega
          have u2 : IntKind.i64.wrap (10 + 2 * (k : Int)) = 10 + 2 * (k : Int) := by rw [IntKind.wrap_i64]; omega
          have u3 : IntKind.i64.wrap (11 + 2 * (k : Int)) = 11 + 2 * (k : Int) := by rw [IntKind.wrap_i64]; omega
          have i1 : 0 ≤ 10 + 2 * (k : Int) := by omega
          have i2 : 10 + 2 * (k : Int) < 32 := by omega
          have i3 : 0 ≤ 11 + 2 * (k : Int) := by omega
          have i4 : 11 + 2 * (k : Int) < 32 := by omega
          by_cases hf : 1 < at8 s (11 + 2 * k)
          · have HD : Hid (R = (zeroM, 1)) := HBAD.out k hlt hf
            obtain ⟨⟨y0, y1, y2, y3, y4⟩, f0, f1, f2, f3, f4⟩ := box5 (keepR hbr)
            have HB := hide (bthen (below1 _ _) (hbr.mono (by simp)))
            clear hown hbr HBOX hfl
            go_wp2_with fail
            refine (bad_any _).mono ?_
            rintro e w9 ⟨rfl, hb9⟩
            have hs9 : w.heap.size < w9.heap.size := by have := hb9.size; omega
            replace y0 := cellKeep hb9 (by omega) y0
            replace y1 := cellKeep hb9 (by omega) y1
            replace y2 := cellKeep hb9 (by omega) y2
            replace y3 := cellKeep hb9 (by omega) y3
            replace y4 := cellKeep hb9 (by omega) y4
            replace f0 := frozKeep hb9 (by omega) f0
            replace f1 := frozKeep hb9 (by omega) f1
            replace f2 := frozKeep hb9 (by omega) f2
            replace f3 := frozKeep hb9 (by omega) f3
            replace f4 := frozKeep hb9 (by omega) f4
            have HB9 := hide (bthen HB.out hb9)
            clear hb9
            go_wp2
            refine bodyPost_ret (v := .tuple #[.agg #[.int .i64 0, .int .i64 0, .int .i64 0, .slice none 0 0, .slice none 0 0], .int .i64 1]) (by simp [results, Try.results41, go_sem, y0, y1, y2, y3, y4]) rfl ⟨_, by rw [HD.out], by rw [HD.out]; exact isZeroN _ _, ?_⟩
            repeat refine Below.setCell ?_ (by simp) _
            exact HB9.out
          · have h01 : at8 s (11 + 2 * k) = 0 ∨ at8 s (11 + 2 * k) = 1 := by have := at8_in s (11 + 2 * k); omega
            have HFL : Hid (∀ i, i < k + 1 → at8 s (11 + 2 * i) ≤ 1) := by
              intro i hi
              by_cases e : i = k
              · rw [e]; omega
              · exact hfl.out i (by omega)
            clear hf hfl
            rcases h01 with h01 | h01
            · have HX : Hid ((gTags s).take (k + 1) = (gTags s).take k ++ [(at8 s (10 + 2 * k), false)]) := by rw [Hid, List.take_add_one, gTags_at s k (by rw [HM.out]; exact hlt), h01]; rfl
              go_wp2
              go_region_law (refine step_appT rfl (.tmp 73) (.tmp 87) rfl (w.heap.size + 2) (.slice a2 k c2) k ((gTags s).take k) (by simp [Act.eval]) (hown.out.alloc _) ⟨wr.heap.size, 0, none⟩ (at8 s (10 + 2 * k)) false (by simp [Act.eval]) (by simp [go_sem]) (by simp [go_sem]) (by omega) (by simp; omega) ?_; intro a5 c5 w5 HO5 hg5; have hbox5 : w5.heap[w.heap.size + 1]? = some (.cells #[.int .i64 2, .int .i64 (seqOf s 4), .int .i64 0, .slice a2 k c2, .slice none 0 0] 47 (0, 0)) := ((hg5.block (w.heap.size + 1) (by simp; omega) (fun e => by have := hown.out.lt _ e.symm; omega)).trans ((Below.heap_alloc wr _ _ hsr).trans HBOX.out)); have o5 : w5.cell? ⟨w.heap.size + 1, 3, none⟩ = some (.slice a2 k c2) := (box5 hbox5).1.2.2.2.1; have fz5 : w5.frozen? ⟨w.heap.size + 1, 3, none⟩ = false := (box5 hbox5).2.2.2.2.1; have HB5 := hide hbox5; have hb5 : Below (w.heap.size + 1) (w.alloc (Obj.cells #[.int .i64 0, .int .i64 0, .int .i64 0, .slice none 0 0, .slice none 0 0] 47)) w5 := (((hbr.alloc (by omega) _).drew).grown hg5 (by simp; omega) (fun k hk => by have := hown.out.lt k hk; omega)); clear hbox5 hg5)
              all_goals
                clear x0 x1 x2 x3 x4 e0 e1 e2 e3 e4 hbr hown HBOX
                go_wp2
                go_roundw
                case rel =>
                  refine ⟨k + 1, a5, c5, by omega, by go_num, ?_, ?_, HFL, hb5.setCell (by simp) _⟩
                  · rw [heap_setCell_same w5 _ _ _ _ _ HB5.out]; rfl
                  · rw [HX.out]
                    exact ownsRow_setCell_below HO5.out (by simp) _
                case measure => simp [intOf]; omega
            · have HX : Hid ((gTags s).take (k + 1) = (gTags s).take k ++ [(at8 s (10 + 2 * k), true)]) := by rw [Hid, List.take_add_one, gTags_at s k (by rw [HM.out]; exact hlt), h01]; rfl
              go_wp2
              go_region_law (refine step_appT rfl (.tmp 73) (.tmp 87) rfl (w.heap.size + 2) (.slice a2 k c2) k ((gTags s).take k) (by simp [Act.eval]) (hown.out.alloc _) ⟨wr.heap.size, 0, none⟩ (at8 s (10 + 2 * k)) true (by simp [Act.eval]) (by simp [go_sem]) (by simp [go_sem]) (by omega) (by simp; omega) ?_; intro a5 c5 w5 HO5 hg5; have hbox5 : w5.heap[w.heap.size + 1]? = some (.cells #[.int .i64 2, .int .i64 (seqOf s 4), .int .i64 0, .slice a2 k c2, .slice none 0 0] 47 (0, 0)) := ((hg5.block (w.heap.size + 1) (by simp; omega) (fun e => by have := hown.out.lt _ e.symm; omega)).trans ((Below.heap_alloc wr _ _ hsr).trans HBOX.out)); have o5 : w5.cell? ⟨w.heap.size + 1, 3, none⟩ = some (.slice a2 k c2) := (box5 hbox5).1.2.2.2.1; have fz5 : w5.frozen? ⟨w.heap.size + 1, 3, none⟩ = false := (box5 hbox5).2.2.2.2.1; have HB5 := hide hbox5; have hb5 : Below (w.heap.size + 1) (w.alloc (Obj.cells #[.int .i64 0, .int .i64 0, .int .i64 0, .slice none 0 0, .slice none 0 0] 47)) w5 := (((hbr.alloc (by omega) _).drew).grown hg5 (by simp; omega) (fun k hk => by have := hown.out.lt k hk; omega)); clear hbox5 hg5)
              all_goals
                clear x0 x1 x2 x3 x4 e0 e1 e2 e3 e4 hbr hown HBOX
                go_wp2
                go_roundw
                case rel =>
                  refine ⟨k + 1, a5, c5, by omega, by go_num, ?_, ?_, HFL, hb5.setCell (by simp) _⟩
                  · rw [heap_setCell_same w5 _ _ _ _ _ HB5.out]; rfl
                  · rw [HX.out]
                    exact ownsRow_setCell_below HO5.out (by simp) _
                case measure => simp [intOf]; omega
        · have e : n = k := by omega
          subst e
          have hown' := hown.out
          rw [List.take_of_length_le (by rw [HLEN.out]; exact Nat.le_refl _)] at hown'
          obtain ⟨a4, c4, hv4, hS4, hA4⟩ := SegT.of_owns hown'
          rw [HLEN.out] at hv4
          simp only [Value.slice.injEq] at hv4
          obtain ⟨ha4, _, hc4⟩ := hv4
          subst ha4 hc4
          have HS4 := hide hS4
          have HA4 := hide hA4
          have HR := hide (HOK.out hfl.out)
          obtain ⟨⟨y0, y1, y2, y3, y4⟩, f0, f1, f2, f3, f4⟩ := box5 (keepR hbr)
          have HB := hide (bthen (below1 _ _) (hbr.mono (by simp)))
          clear hown hown' hS4 hA4 hbr HBOX e0 e1 e2 e3 e4 hlt hk2 hfl
          go_wp2_with fail
          refine (goodMark_any _ ⟨2, seqOf s 4, 0, gTags s, []⟩ _ ⟨a2, c2, none, 0, by simp only [HLEN.out]; rfl, HS4.out, .inl rfl, by show (gTags s).length ≤ maxLen; rw [HLEN.out]; unfold maxLen; omega, Nat.zero_le _⟩ (by show (gTags s).length * 8 ≤ _; rw [HLEN.out]; omega)).mono ?_
          rintro e w1 ⟨rfl, hb1⟩
          have hs1 : w.heap.size + 1 < w1.heap.size := by have := hb1.size; omega
          have hs1' : w.heap.size < w1.heap.size := by omega
          replace x0 := cellKeep hb1 (by omega) x0
          replace x1 := cellKeep hb1 (by omega) x1
          replace x2 := cellKeep hb1 (by omega) x2
          replace x3 := cellKeep hb1 (by omega) x3
          replace x4 := cellKeep hb1 (by omega) x4
          replace y0 := cellKeep hb1 (by omega) y0
          replace y1 := cellKeep hb1 (by omega) y1
          replace y2 := cellKeep hb1 (by omega) y2
          replace y3 := cellKeep hb1 (by omega) y3
          replace y4 := cellKeep hb1 (by omega) y4
          replace f0 := frozKeep hb1 (by omega) f0
          replace f1 := frozKeep hb1 (by omega) f1
          replace f2 := frozKeep hb1 (by omega) f2
          replace f3 := frozKeep hb1 (by omega) f3
          replace f4 := frozKeep hb1 (by omega) f4
          have HS5 := hide (HS4.out.below hb1)
          replace HB := hide (bthen HB.out hb1)
          clear hb1
          by_cases hg : goodM ⟨2, seqOf s 4, 0, gTags s, []⟩ = 0
          · go_wp2_with fail
            refine (noughts_at s (10 + 2 * n) _ _ (by omega) (by omega) (by omega)).mono ?_
            rintro e w2 ⟨rfl, rfl⟩
            cases hz : zeroFrom s (10 + 2 * n) with
            | true =>
              have hd := HR.out.trans (decOf_good hg hz)
              have HD := hide hd
              clear hd hz
              go_wp2
              refine bodyPost_ret (v := .tuple #[.agg #[.int .i64 2, .int .i64 (seqOf s 4), .int .i64 0, .slice a2 n c2, .slice none 0 0], .int .i64 0]) (by simp [results, Try.results41, go_sem, y0, y1, y2, y3, y4]) rfl ⟨_, by rw [HD.out], ?_, ?_⟩
              · rw [HD.out]
                refine ⟨a2, c2, none, 0, by simp only [HLEN.out]; rfl, ?_, .inl rfl, by show (gTags s).length ≤ maxLen; rw [HLEN.out]; unfold maxLen; omega, Nat.zero_le _, fun b off e => (by have := HA4.out b off e; omega), fun _ _ h => (by cases h)⟩
                repeat refine SegT.setNe ?_ (fun b off e => by have := HA4.out b off e; simp; omega) _
                exact HS5.out
              · repeat refine Below.setCell ?_ (by simp) _
                exact HB.out
            | false =>
              have hd := HR.out.trans (decOf_behind ⟨2, seqOf s 4, 0, gTags s, []⟩ hz)
              have HD := hide hd
              clear hd hz
              go_wp2_with fail
              refine (bad_any _).mono ?_
              rintro e w9 ⟨rfl, hb9⟩
              have hs9 : w.heap.size < w9.heap.size := by have := hb9.size; omega
              replace y0 := cellKeep hb9 (by omega) y0
              replace y1 := cellKeep hb9 (by omega) y1
              replace y2 := cellKeep hb9 (by omega) y2
              replace y3 := cellKeep hb9 (by omega) y3
              replace y4 := cellKeep hb9 (by omega) y4
              replace f0 := frozKeep hb9 (by omega) f0
              replace f1 := frozKeep hb9 (by omega) f1
              replace f2 := frozKeep hb9 (by omega) f2
              replace f3 := frozKeep hb9 (by omega) f3
              replace f4 := frozKeep hb9 (by omega) f4
              have HB9 := hide (bthen HB.out hb9)
              clear hb9
              go_wp2
              refine bodyPost_ret (v := .tuple #[.agg #[.int .i64 0, .int .i64 0, .int .i64 0, .slice none 0 0, .slice none 0 0], .int .i64 1]) (by simp [results, Try.results41, go_sem, y0, y1, y2, y3, y4]) rfl ⟨_, by rw [HD.out], by rw [HD.out]; exact isZeroN _ _, ?_⟩
              repeat refine Below.setCell ?_ (by simp) _
              exact HB9.out
          · have hg' : (goodM ⟨2, seqOf s 4, 0, gTags s, []⟩ != 0) = true := by simpa using hg
            have hd := HR.out.trans (decOf_bad (m := ⟨2, seqOf s 4, 0, gTags s, []⟩) (zeroFrom s (10 + 2 * n)) hg)
            have HD := hide hd
            clear hd
            go_wp2_with fail
            refine (bad_any _).mono ?_
            rintro e w9 ⟨rfl, hb9⟩
            have hs9 : w.heap.size < w9.heap.size := by have := hb9.size; omega
            replace y0 := cellKeep hb9 (by omega) y0
            replace y1 := cellKeep hb9 (by omega) y1
            replace y2 := cellKeep hb9 (by omega) y2
            replace y3 := cellKeep hb9 (by omega) y3
            replace y4 := cellKeep hb9 (by omega) y4
            replace f0 := frozKeep hb9 (by omega) f0
            replace f1 := frozKeep hb9 (by omega) f1
            replace f2 := frozKeep hb9 (by omega) f2
            replace f3 := frozKeep hb9 (by omega) f3
            replace f4 := frozKeep hb9 (by omega) f4
            have HB9 := hide (bthen HB.out hb9)
            clear hb9
            go_wp2
            refine bodyPost_ret (v := .tuple #[.agg #[.int .i64 0, .int .i64 0, .int .i64 0, .slice none 0 0, .slice none 0 0], .int .i64 1]) (by simp [results, Try.results41, go_sem, y0, y1, y2, y3, y4]) rfl ⟨_, by rw [HD.out], by rw [HD.out]; exact isZeroN _ _, ?_⟩
            repeat refine Below.setCell ?_ (by simp) _
            exact HB9.out

end Go.Proofs.Ytjnpndfpajjihaa
