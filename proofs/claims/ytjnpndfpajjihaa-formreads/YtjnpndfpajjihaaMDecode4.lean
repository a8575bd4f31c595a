/-
  The walk of the document's own DecodeMark: lists.
-/
import Derived.Test.YtjnpndfpajjihaaMDecode3
import Derived.Test.YtjnpndfpajjihaaSGuess
namespace Go.Proofs.Ytjnpndfpajjihaa
open Go.RowKit

/-- append of one number, of one tag onto a row of the call's own, as one step of a region that draws its order. -/
theorem step_appI {ops : Array Oper} {o : Oper} {a : Act} {w : World} {K : Act → World → Prop} {Q : Exit → Act → World → Prop} {E : Prop} (hgd : o.guard = none) (s x : Operand)
    (ho : o.op = .call { callee := .builtin .append, args := #[s, x], argTypes := #[45, 45] })
    (base : Nat) (v : Value) (n : Nat) (ss : List Int) (hs : a.eval s = v) (hown : w.ownsRow base 3 1 v n (cellsI ss)) (ad : Addr) (t : Int) (hx : a.eval x = .slice (some ad) 1 1)
    (hc : w.cell? (ad.add 0) = some (.int .i64 t)) (h63 : n ≤ 1000) (hbase : base ≤ w.heap.size)
    (h : ∀ a2 c2 w', Hid (w'.ownsRow base 3 1 (.slice a2 (n + 1) c2) (n + 1) (cellsI (ss ++ [t]))) → w.grownBy w' v.ownBlock → K (a.put o.dst (.slice a2 (n + 1) c2)) w') :
    if Region.wanted o (yielded ops a.tmps) = true then Oper.wp Try.prog o a w K Q else E := by
  obtain ⟨i0, hi, hz0, hz1, hz2⟩ := info_parts infoI
  refine step_app hgd s x 45 ho 3 i0 (.int .i64 0) 1 8 Try.underlying45 hi hz0 hz1 hz2 rfl (by decide) base v n (cellsI ss) hs hown ad [.int .i64 t] hx rfl
    (by
        intro j u hj
        match j, hj with
        | 0, hj => simp at hj; subst hj; exact hc) (by intro u hu; simp at hu; subst hu; rfl) h63 (by decide) hbase ?_
  intro v' w' r1 r2
  have e : cellsI ss ++ [.int .i64 t] = cellsI (ss ++ [t]) := by simp [cellsI]
  rw [e] at r1
  obtain ⟨a2, c2, hv, _, _⟩ := SegI.of_owns r1
  have hn : (ss ++ [t]).length = n + 1 := by
    have := hown.1
    rw [cellsI_length] at this
    simp; omega
  rw [hn] at hv
  subst hv
  exact h a2 c2 w' r1 r2
theorem step_appT {ops : Array Oper} {o : Oper} {a : Act} {w : World} {K : Act → World → Prop} {Q : Exit → Act → World → Prop} {E : Prop} (hgd : o.guard = none) (s x : Operand)
    (ho : o.op = .call { callee := .builtin .append, args := #[s, x], argTypes := #[44, 44] })
    (base : Nat) (v : Value) (n : Nat) (ss : List (Int × Bool)) (hs : a.eval s = v) (hown : w.ownsRow base 87 2 v n (cellsT ss)) (ad : Addr) (t : Int) (f : Bool) (hx : a.eval x = .slice (some ad) 1 1)
    (hc : w.cell? (ad.add 0) = some (.int .i64 t)) (hc2 : w.cell? (ad.add 1) = some (.bool f)) (h63 : n ≤ 1000) (hbase : base ≤ w.heap.size)
    (h : ∀ a2 c2 w', Hid (w'.ownsRow base 87 2 (.slice a2 (n + 1) c2) (n + 1) (cellsT (ss ++ [(t, f)]))) → w.grownBy w' v.ownBlock → K (a.put o.dst (.slice a2 (n + 1) c2)) w') :
    if Region.wanted o (yielded ops a.tmps) = true then Oper.wp Try.prog o a w K Q else E := by
  obtain ⟨i0, hi, hz0, hz1, hz2⟩ := info_parts infoT
  refine step_app hgd s x 44 ho 87 i0 (.agg #[.int .i64 0, .bool false]) 2 16 Try.underlying44 hi hz0 hz1 hz2 rfl (by decide) base v n (cellsT ss) hs hown ad [.int .i64 t, .bool f] hx rfl
    (by
        intro j u hj
        match j, hj with
        | 0, hj => simp at hj; subst hj; exact hc
        | 1, hj => simp at hj; subst hj; exact hc2) (by intro u hu; simp at hu; rcases hu with rfl | rfl <;> rfl) h63 (by decide) hbase ?_
  intro v' w' r1 r2
  have e : cellsT ss ++ [.int .i64 t, .bool f] = cellsT (ss ++ [(t, f)]) := by rw [cellsT_append]; rfl
  rw [e] at r1
  obtain ⟨a2, c2, hv, _, _⟩ := SegT.of_owns r1
  have hn : (ss ++ [(t, f)]).length = n + 1 := by
    have := hown.1
    rw [cellsT_length] at this
    simp; omega
  rw [hn] at hv
  subst hv
  exact h a2 c2 w' r1 r2

set_option maxHeartbeats 4000000 in
set_option maxRecDepth 100000 in
theorem decode_list (s : ByteArray) (n : Nat) (w : World) (h : s.size = 32) (hm : isMagic s = true) (hk : at8 s 4 = 3) (h20 : n ≤ 20) (h9 : at8 s 9 = (n : Int)) :
    Calls Try.prog 41 #[.string s] w fun e w' => ∃ v2, e = .returned (.tuple #[v2, .int .i64 (decOf ⟨3, seqOf s 4, 0, [], gBlocks s⟩ (zeroFrom s (10 + n))).2]) ∧ IsMkN w' w.heap.size v2 (decOf ⟨3, seqOf s 4, 0, [], gBlocks s⟩ (zeroFrom s (10 + n))).1 ∧ Below w.heap.size w w' := by
  have HM : Hid (manyOf s 20 = n) := many_few h9 h20
  have HLEN : Hid ((gBlocks s).length = n) := by rw [Hid, gBlocks_length, HM.out]
  have hn' : (n : Int) ≤ 20 := by omega
  have hm' : ((s.extract 0 4).toList == [87, 66, 75, 49]) = true := by rw [isMagic, if_pos (by omega)] at hm; exact hm
  clear hm
  have HK := hide hk
  clear hk
  have hB : ∀ k (hk : k < s.size), ((s[k]'hk).toNat : Int) = at8 s k := at8_of s
  have hW := wrap_at8 s
  have hW' : ∀ k, IntKind.i64.wrap (at8 s k) = at8 s k := fun k => by have := at8_in s k; rw [IntKind.wrap_i64]; omega
  go_enter Try.func41, Try.ntmps41
  go_wp2
  go_loopw [6] (fun i wr => ∃ k : Nat, k ≤ 4 ∧ i = .int .i64 ((k + 5 : Nat) : Int) ∧ wr.heap[w.heap.size + 1]? = some (.cells #[.int .i64 (at8 s 4), .int .i64 (seqOf s k), .int .i64 0, .slice none 0 0, .slice none 0 0] 47 (0, 0)) ∧
    Below (w.heap.size + 1) (w.alloc (Obj.cells #[.int .i64 0, .int .i64 0, .int .i64 0, .slice none 0 0, .slice none 0 0] 47)) wr) (fun i _ => 9 - (intOf i).toNat)
  case atStart =>
    refine ⟨0, Nat.zero_le _, rfl, ?_, (Below.refl _ _).alloc (by simp) _⟩
    exact new2 w _ _
  case round =>
    obtain ⟨k, hk, rfl, hbox, hbr⟩ := hrel
    have HBOX := hide hbox
    obtain ⟨⟨x0, x1, x2, x3, x4⟩, e0, e1, e2, e3, e4⟩ := box5 hbox
    clear hbox
    have hsr : w.heap.size + 1 < wr.heap.size := (Array.getElem?_eq_some_iff.1 HBOX.out).1
    have hsr' : w.heap.size < wr.heap.size := by omega
    by_cases hlt : k < 4
    · obtain ⟨q, hq⟩ : ∃ q, q = seqOf s k := ⟨_, rfl⟩
      have hq1 := seqOf_lt s k (by omega)
      have hq2 : seqOf s (k + 1) = 256 * seqOf s k + at8 s (k + 5) := rfl
      have hq3 := seqOf_lt s (k + 1) (by omega)
      rw [hq2] at hq3
      rw [← hq] at x1 hq1 hq3
      have HQ := hide hq
      clear hq hq2
      have u1 : IntKind.i64.wrap (256 * q) = 256 * q := by rw [IntKind.wrap_i64]; omega
      have u2 : IntKind.i64.wrap (256 * q + at8 s (k + 5)) = 256 * q + at8 s (k + 5) := by rw [IntKind.wrap_i64]; omega
      have hlt' : (k : Int) + 5 < 9 := by omega
      go_wp2
      go_region
      all_goals
        go_wp2
        go_roundw
        case rel =>
          refine ⟨k + 1, by omega, by go_num, ?_, (hbr.setCell (by simp) _).drew⟩
          refine (heap_setCell_same wr _ _ _ _ _ HBOX.out).trans ?_
          rw [seqOf, ← HQ.out]; rfl
        case measure => simp [intOf]; omega
    · obtain rfl : k = 4 := by omega
      obtain ⟨⟨y0, y1, y2, y3, y4⟩, f0, f1, f2, f3, f4⟩ := box5 (keepR hbr)
      have HB := hide (bthen (below1 _ _) (hbr.mono (by simp)))
      clear hlt hk
      have hk := HK.out
      have HBK := HBOX.out
      rw [hk] at x0 HBK
      replace HBOX := hide HBK
      clear HBK
      rw [show (((4 : Nat) + 5 : Nat) : Int) = 9 from rfl, hk]
      clear x0 x1 x2 x3 x4 e0 e1 e2 e3 e4 y0 y1 y2 y3 y4 f0 f1 f2 f3 f4 HB
      obtain ⟨⟨x0, x1, x2, x3, x4⟩, e0, e1, e2, e3, e4⟩ := box5 HBOX.out
      go_wp2
      go_loopw [10] (fun i wr => ∃ (k : Nat) (a2 : Option Addr) (c2 : Nat), k ≤ n ∧ i = .int .i64 k ∧ wr.heap[w.heap.size + 1]? = some (.cells #[.int .i64 3, .int .i64 (seqOf s 4), .int .i64 0, .slice none 0 0, .slice a2 k c2] 47 (0, 0)) ∧ Hid (wr.ownsRow (w.heap.size + 2) 3 1 (.slice a2 k c2) k (cellsI ((gBlocks s).take k))) ∧ Below (w.heap.size + 1) (w.alloc (Obj.cells #[.int .i64 0, .int .i64 0, .int .i64 0, .slice none 0 0, .slice none 0 0] 47)) wr) (fun i _ => n - (intOf i).toNat)
      case atStart => exact ⟨0, none, 0, Nat.zero_le _, rfl, HBOX.out, World.ownsRow_nil _ _ _ _, hbr⟩
      case round =>
        clear hbr x0 x1 x2 x3 x4 e0 e1 e2 e3 e4 HBOX hsr hsr'
        obtain ⟨k, a2, c2, hk2, rfl, hbox, hown, hbr⟩ := hrel
        have HBOX := hide hbox
        have hsr : w.heap.size + 1 < wr.heap.size := (Array.getElem?_eq_some_iff.1 hbox).1
        have hsr' : w.heap.size < wr.heap.size := by omega
        obtain ⟨⟨x0, x1, x2, x3, x4⟩, e0, e1, e2, e3, e4⟩ := box5 hbox
        clear hbox
        by_cases hlt : k < n
        · have hlt' : (k : Int) < (n : Int) := by omega
          have hk32 : 10 + k < s.size := by omega
          have hT : ((10 : Int) + (k : Int)).toNat = 10 + k := by omega
          have u1 : IntKind.i64.wrap (10 + (k : Int)) = 10 + (k : Int) := by rw [IntKind.wrap_i64]; omega
          have i1 : 0 ≤ 10 + (k : Int) := by omega
          have i2 : 10 + (k : Int) < 32 := by omega
          have HX : Hid ((gBlocks s).take (k + 1) = (gBlocks s).take k ++ [at8 s (10 + k)]) := by rw [Hid, List.take_add_one, gBlocks_at s k (by rw [HM.out]; exact hlt)]; rfl
          go_wp2
          go_region_law (refine step_appI rfl (.tmp 108) (.tmp 114) rfl (w.heap.size + 2) (.slice a2 k c2) k ((gBlocks s).take k) (by simp [Act.eval]) (hown.out.alloc _) ⟨wr.heap.size, 0, none⟩ (at8 s (10 + k)) (by simp [Act.eval]) (by simp [go_sem]) (by omega) (by simp; omega) ?_; intro a5 c5 w5 HO5 hg5; have hbox5 : w5.heap[w.heap.size + 1]? = some (.cells #[.int .i64 3, .int .i64 (seqOf s 4), .int .i64 0, .slice none 0 0, .slice a2 k c2] 47 (0, 0)) := ((hg5.block (w.heap.size + 1) (by simp; omega) (fun e => by have := hown.out.lt _ e.symm; omega)).trans ((Below.heap_alloc wr _ _ hsr).trans HBOX.out)); have o5 : w5.cell? ⟨w.heap.size + 1, 4, none⟩ = some (.slice a2 k c2) := (box5 hbox5).1.2.2.2.2; have fz5 : w5.frozen? ⟨w.heap.size + 1, 4, none⟩ = false := (box5 hbox5).2.2.2.2.2; have HB5 := hide hbox5; have hb5 : Below (w.heap.size + 1) (w.alloc (Obj.cells #[.int .i64 0, .int .i64 0, .int .i64 0, .slice none 0 0, .slice none 0 0] 47)) w5 := (((hbr.alloc (by omega) _).drew).grown hg5 (by simp; omega) (fun k hk => by have := hown.out.lt k hk; omega)); clear hbox5 hg5)
          all_goals
            clear x0 x1 x2 x3 x4 e0 e1 e2 e3 e4 hbr hown HBOX
            go_wp2
            go_roundw
            case rel =>
              refine ⟨k + 1, a5, c5, by omega, by go_num, ?_, ?_, hb5.setCell (by simp) _⟩
              · rw [heap_setCell_same w5 _ _ _ _ _ HB5.out]; rfl
              · rw [HX.out]
                exact ownsRow_setCell_below HO5.out (by simp) _
            case measure => simp [intOf]; omega
        · have e : n = k := by omega
          subst e
          have hown' := hown.out
          rw [List.take_of_length_le (by rw [HLEN.out]; exact Nat.le_refl _)] at hown'
          obtain ⟨a4, c4, hv4, hS4, hA4⟩ := SegI.of_owns hown'
          rw [HLEN.out] at hv4
          simp only [Value.slice.injEq] at hv4
          obtain ⟨ha4, _, hc4⟩ := hv4
          subst ha4 hc4
          have HS4 := hide hS4
          have HA4 := hide hA4
          obtain ⟨⟨y0, y1, y2, y3, y4⟩, f0, f1, f2, f3, f4⟩ := box5 (keepR hbr)
          have HB := hide (bthen (below1 _ _) (hbr.mono (by simp)))
          clear hown hown' hS4 hA4 hbr HBOX e0 e1 e2 e3 e4 hlt hk2
          go_wp2_with fail
          refine (goodMark_any _ ⟨3, seqOf s 4, 0, [], gBlocks s⟩ _ ⟨none, 0, a2, c2, by simp only [HLEN.out]; rfl, .inl rfl, HS4.out, Nat.zero_le _, by show (gBlocks s).length ≤ maxLen; rw [HLEN.out]; unfold maxLen; omega⟩ (by simp)).mono ?_
          rintro e w1 ⟨rfl, hb1⟩
          have hs1 : w.heap.size + 1 < w1.heap.size := by have := hb1.size; omega
          have hs1' : w.heap.size < w1.heap.size := by omega
          replace x0 := cellKeep hb1 (by omega) x0
          replace x1 := cellKeep hb1 (by omega) x1
          replace x2 := cellKeep hb1 (by omega) x2
          replace x3 := cellKeep hb1 (by omega) x3
          replace x4 := cellKeep hb1 (by omega) x4
          replace y0 := cellKeep hb1 (by omega) y0
          replace y1 := cellKeep hb1 (by omega) y1
          replace y2 := cellKeep hb1 (by omega) y2
          replace y3 := cellKeep hb1 (by omega) y3
          replace y4 := cellKeep hb1 (by omega) y4
          replace f0 := frozKeep hb1 (by omega) f0
          replace f1 := frozKeep hb1 (by omega) f1
          replace f2 := frozKeep hb1 (by omega) f2
          replace f3 := frozKeep hb1 (by omega) f3
          replace f4 := frozKeep hb1 (by omega) f4
          have HS5 := hide (HS4.out.below hb1)
          replace HB := hide (bthen HB.out hb1)
          clear hb1
          by_cases hg : goodM ⟨3, seqOf s 4, 0, [], gBlocks s⟩ = 0
          · go_wp2_with fail
            refine (noughts_at s (10 + n) _ _ (by omega) (by omega) (by omega)).mono ?_
            rintro e w2 ⟨rfl, rfl⟩
            cases hz : zeroFrom s (10 + n) with
            | true =>
              have hd := decOf_good hg hz
              have HD := hide hd
              clear hd hz
              go_wp2
              refine bodyPost_ret (v := .tuple #[.agg #[.int .i64 3, .int .i64 (seqOf s 4), .int .i64 0, .slice none 0 0, .slice a2 n c2], .int .i64 0]) (by simp [results, Try.results41, go_sem, y0, y1, y2, y3, y4]) rfl ⟨_, by rw [HD.out], ?_, ?_⟩
              · rw [HD.out]
                refine ⟨none, 0, a2, c2, by simp only [HLEN.out]; rfl, .inl rfl, ?_, Nat.zero_le _, by show (gBlocks s).length ≤ maxLen; rw [HLEN.out]; unfold maxLen; omega, fun _ _ h => (by cases h), fun b off e => (by have := HA4.out b off e; omega)⟩
                repeat refine SegI.setNe ?_ (fun b off e => by have := HA4.out b off e; simp; omega) _
                exact HS5.out
              · repeat refine Below.setCell ?_ (by simp) _
                exact HB.out
            | false =>
              have hd := decOf_behind ⟨3, seqOf s 4, 0, [], gBlocks s⟩ hz
              have HD := hide hd
              clear hd hz
              go_wp2_with fail
              refine (bad_any _).mono ?_
              rintro e w9 ⟨rfl, hb9⟩
              have hs9 : w.heap.size < w9.heap.size := by have := hb9.size; omega
              replace y0 := cellKeep hb9 (by omega) y0
              replace y1 := cellKeep hb9 (by omega) y1
              replace y2 := cellKeep hb9 (by omega) y2
              replace y3 := cellKeep hb9 (by omega) y3
              replace y4 := cellKeep hb9 (by omega) y4
              replace f0 := frozKeep hb9 (by omega) f0
              replace f1 := frozKeep hb9 (by omega) f1
              replace f2 := frozKeep hb9 (by omega) f2
              replace f3 := frozKeep hb9 (by omega) f3
              replace f4 := frozKeep hb9 (by omega) f4
              have HB9 := hide (bthen HB.out hb9)
              clear hb9
              go_wp2
              refine bodyPost_ret (v := .tuple #[.agg #[.int .i64 0, .int .i64 0, .int .i64 0, .slice none 0 0, .slice none 0 0], .int .i64 1]) (by simp [results, Try.results41, go_sem, y0, y1, y2, y3, y4]) rfl ⟨_, by rw [HD.out], by rw [HD.out]; exact isZeroN _ _, ?_⟩
              repeat refine Below.setCell ?_ (by simp) _
              exact HB9.out
          · have hg' : (goodM ⟨3, seqOf s 4, 0, [], gBlocks s⟩ != 0) = true := by simpa using hg
            have hd := decOf_bad (m := ⟨3, seqOf s 4, 0, [], gBlocks s⟩) (zeroFrom s (10 + n)) hg
            have HD := hide hd
            clear hd
            go_wp2_with fail
            refine (bad_any _).mono ?_
            rintro e w9 ⟨rfl, hb9⟩
            have hs9 : w.heap.size < w9.heap.size := by have := hb9.size; omega
            replace y0 := cellKeep hb9 (by omega) y0
            replace y1 := cellKeep hb9 (by omega) y1
            replace y2 := cellKeep hb9 (by omega) y2
            replace y3 := cellKeep hb9 (by omega) y3
            replace y4 := cellKeep hb9 (by omega) y4
            replace f0 := frozKeep hb9 (by omega) f0
            replace f1 := frozKeep hb9 (by omega) f1
            replace f2 := frozKeep hb9 (by omega) f2
            replace f3 := frozKeep hb9 (by omega) f3
            replace f4 := frozKeep hb9 (by omega) f4
            have HB9 := hide (bthen HB.out hb9)
            clear hb9
            go_wp2
            refine bodyPost_ret (v := .tuple #[.agg #[.int .i64 0, .int .i64 0, .int .i64 0, .slice none 0 0, .slice none 0 0], .int .i64 1]) (by simp [results, Try.results41, go_sem, y0, y1, y2, y3, y4]) rfl ⟨_, by rw [HD.out], by rw [HD.out]; exact isZeroN _ _, ?_⟩
            repeat refine Below.setCell ?_ (by simp) _
            exact HB9.out

end Go.Proofs.Ytjnpndfpajjihaa
