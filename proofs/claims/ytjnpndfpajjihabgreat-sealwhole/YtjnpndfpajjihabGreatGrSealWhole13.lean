/-
  The walk of stamp.Decode.
  The walks of package disk's small functions: isPlace, fits.
  The walk of disk.Good.
-/
import Derived.Test.YtjnpndfpajjihabGreatSDecode
import Derived.Test.YtjnpndfpajjihabGreatGrSealWhole0
namespace Go.Proofs.YtjnpndfpajjihabGreat
open Go.RowKit

theorem list_ne {s t : ByteArray} (h : ¬ t = s) : (t.toList == s.toList) = false := by
  rw [beq_eq_false_iff_ne]
  intro e
  rw [ByteArray.toList_eq, ByteArray.toList_eq] at e
  exact h (ByteArray.ext (Array.ext' e))

/-- What Decode answers. -/
def stampDec (s : ByteArray) : Mk × Int := if s.size = 32 ∧ goodM (gsM s) = 0 ∧ encT (gsM s) = s then (gsM s, 0) else (zeroM, 1)

set_option maxHeartbeats 2000000 in
set_option maxRecDepth 100000 in
theorem stampDecode_short (s : ByteArray) (w : World) (h : ¬ s.size = 32) :
    Calls Tryz.prog 83 #[.string s] w fun e w' => ∃ v2, e = .returned (.tuple #[v2, .int .i64 1]) ∧ IsMkN w' w.heap.size v2 zeroM ∧ Below w.heap.size w w' := by
  have h' : ((s.size : Int) != 32) = true := by
    rw [bne_iff_ne]; omega
  go_enter Tryz.func83, Tryz.ntmps83
  go_wp2
  refine bodyPost_ret (v := .tuple #[.agg #[.int .i64 0, .int .i64 0, .int .i64 0, .slice none 0 0, .slice none 0 0], .int .i64 1]) (by simp [results, Tryz.results83, go_sem]) rfl ⟨_, rfl, isZeroN _ _, ?_⟩
  repeat refine Below.setCell ?_ (by simp) _
  exact below1 _ _

set_option maxHeartbeats 4000000 in
set_option maxRecDepth 100000 in
theorem stampDecode_full (s : ByteArray) (w : World) (h : s.size = 32) :
    Calls Tryz.prog 83 #[.string s] w fun e w' => ∃ v2, e = .returned (.tuple #[v2, .int .i64 (stampDec s).2]) ∧ IsMkN w' w.heap.size v2 (stampDec s).1 ∧ Below w.heap.size w w' := by
  go_enter Tryz.func83, Tryz.ntmps83
  go_wp2_with fail
  refine (guess_any s _ h).mono ?_
  rintro e w1 ⟨v1, rfl, hd1, hb1⟩
  obtain ⟨m, hm⟩ : ∃ m, m = gsM s := ⟨_, rfl⟩
  rw [← hm] at hd1
  obtain ⟨a, c, a', c', rfl, hT, hI, hl, hl', hA, hA'⟩ := hd1
  have HD1 : Hid (IsMk w1 (.agg #[.int .i64 m.kind, .int .i64 m.seq, .int .i64 m.pos, .slice a m.tags.length c, .slice a' m.blocks.length c']) m) := ⟨a, c, a', c', rfl, hT, hI, hl, hl'⟩
  have HT := hide hT
  have HI := hide hI
  have HL := hide (And.intro hl hl')
  have HA : Hid ((∀ b off, a = some ⟨b, off, none⟩ → w.heap.size + 1 ≤ b) ∧ ∀ b off, a' = some ⟨b, off, none⟩ → w.heap.size + 1 ≤ b) := ⟨fun b off e => (by have := hA b off e; simp at this; omega), fun b off e => (by have := hA' b off e; simp at this; omega)⟩
  clear hT hI hl hl' hA hA'
  have hs1 : w.heap.size < w1.heap.size := by have := hb1.size; simp at this; omega
  obtain ⟨⟨y0, y1, y2, y3, y4⟩, f0, f1, f2, f3, f4⟩ := box5 (keep0 hb1)
  have HB1 := hide (bthen (below1 _ _) hb1)
  have HM := hide hm
  clear hb1 hm
  go_wp2_with fail
  refine (stampEncode_any _ m _ (HD1.out.below (below1 _ _))).mono ?_
  rintro e w2 ⟨rfl, hb2⟩
  have hs2 : w1.heap.size < w2.heap.size := by have := hb2.size; simp at this; omega
  have hs2' : w.heap.size < w2.heap.size := by omega
  obtain ⟨⟨x0, x1, x2, x3, x4⟩, _⟩ := box5 (keep0 hb2)
  have hb12 := bthen (below1 _ _) hb2
  replace y0 := cellKeep hb12 (by omega) y0
  replace y1 := cellKeep hb12 (by omega) y1
  replace y2 := cellKeep hb12 (by omega) y2
  replace y3 := cellKeep hb12 (by omega) y3
  replace y4 := cellKeep hb12 (by omega) y4
  replace f0 := frozKeep hb12 (by omega) f0
  replace f1 := frozKeep hb12 (by omega) f1
  replace f2 := frozKeep hb12 (by omega) f2
  replace f3 := frozKeep hb12 (by omega) f3
  replace f4 := frozKeep hb12 (by omega) f4
  have HT2 := hide (HT.out.below hb12)
  have HI2 := hide (HI.out.below hb12)
  have HB2 := hide (bthen HB1.out hb12)
  clear hb2 hb12 HB1
  by_cases hg : goodM m = 0
  · obtain ⟨t, ht⟩ : ∃ t, t = encT m := ⟨_, rfl⟩
    rw [← ht, hg]
    by_cases hE : t = s
    · have HD : Hid (stampDec s = (m, 0)) := by
        rw [Hid, stampDec, ← HM.out, if_pos ⟨h, hg, by rw [← ht]; exact hE⟩]
      clear ht hg
      subst hE
      go_wp2
      refine bodyPost_ret (v := .tuple #[.agg #[.int .i64 m.kind, .int .i64 m.seq, .int .i64 m.pos, .slice a m.tags.length c, .slice a' m.blocks.length c'], .int .i64 0]) (by simp [results, Tryz.results83, go_sem, y0, y1, y2, y3, y4]) rfl ⟨_, by rw [HD.out], ?_, ?_⟩
      · rw [HD.out]
        refine ⟨a, c, a', c', rfl, ?_, ?_, HL.out.1, HL.out.2, fun b off e => (by have := HA.out.1 b off e; omega), fun b off e => (by have := HA.out.2 b off e; omega)⟩
        · repeat refine SegT.setNe ?_ (fun b off e => by have := HA.out.1 b off e; simp; omega) _
          exact HT2.out
        · repeat refine SegI.setNe ?_ (fun b off e => by have := HA.out.2 b off e; simp; omega) _
          exact HI2.out
      · repeat refine Below.setCell ?_ (by simp) _
        exact HB2.out
    · have HD : Hid (stampDec s = (zeroM, 1)) := by
        rw [Hid, stampDec, ← HM.out, if_neg (fun x => hE (by rw [ht]; exact x.2.2))]
      have hE' := list_ne hE
      clear ht hg
      go_wp2
      refine bodyPost_ret (v := .tuple #[.agg #[.int .i64 0, .int .i64 0, .int .i64 0, .slice none 0 0, .slice none 0 0], .int .i64 1]) (by simp [results, Tryz.results83, go_sem, y0, y1, y2, y3, y4]) rfl ⟨_, by rw [HD.out], by rw [HD.out]; exact isZeroN _ _, ?_⟩
      repeat refine Below.setCell ?_ (by simp) _
      exact HB2.out
  · have HD : Hid (stampDec s = (zeroM, 1)) := by
      rw [Hid, stampDec, ← HM.out, if_neg (fun x => hg x.2.1)]
    have hg' : (goodM m != 0) = true := by simpa using hg
    go_wp2
    refine bodyPost_ret (v := .tuple #[.agg #[.int .i64 0, .int .i64 0, .int .i64 0, .slice none 0 0, .slice none 0 0], .int .i64 1]) (by simp [results, Tryz.results83, go_sem, y0, y1, y2, y3, y4]) rfl ⟨_, by rw [HD.out], by rw [HD.out]; exact isZeroN _ _, ?_⟩
    repeat refine Below.setCell ?_ (by simp) _
    exact HB2.out

/-- stamp.Decode: the mark that has just these bytes, or that there is none. -/
theorem stampDecode_new (s : ByteArray) (w : World) :
    Calls Tryz.prog 83 #[.string s] w fun e w' => ∃ v2, e = .returned (.tuple #[v2, .int .i64 (stampDec s).2]) ∧ IsMkN w' w.heap.size v2 (stampDec s).1 ∧ Below w.heap.size w w' := by
  by_cases h : s.size = 32
  · exact stampDecode_full s w h
  · have e : stampDec s = (zeroM, 1) := if_neg fun x => h x.1
    rw [e]
    exact stampDecode_short s w h

theorem stampDecode_any (s : ByteArray) (w : World) :
    Calls Tryz.prog 83 #[.string s] w fun e w' => ∃ v2, e = .returned (.tuple #[v2, .int .i64 (stampDec s).2]) ∧ IsMk w' v2 (stampDec s).1 ∧ Below w.heap.size w w' :=
  (stampDecode_new s w).mono fun _ _ ⟨v2, h1, h2, h3⟩ => ⟨v2, h1, h2.is, h3⟩

end Go.Proofs.YtjnpndfpajjihabGreat

namespace Go.Proofs.YtjnpndfpajjihabGreat
open Go.RowKit

set_option maxHeartbeats 400000 in
theorem isPlace_any (n : Int) (w : World) :
    Calls Tryz.prog 119 #[.int .i64 n] w fun e w' => e = .returned (.bool (placeB n)) ∧ w = w' := by
  by_cases h0 : 0 ≤ n <;> by_cases h1 : n < 37
  all_goals
    go_enter Tryz.func119, Tryz.ntmps119
    go_wp2
    go_ret
    exact ⟨by simp [placeB, h0, h1], rfl⟩

set_option maxHeartbeats 400000 in
theorem fits_any (s : ByteArray) (w : World) :
    Calls Tryz.prog 118 #[.string s] w fun e w' => e = .returned (.bool (fitsB s)) ∧ w = w' := by
  go_enter Tryz.func118, Tryz.ntmps118
  go_wp2
  go_ret
  exact ⟨rfl, rfl⟩

end Go.Proofs.YtjnpndfpajjihabGreat

namespace Go.Proofs.YtjnpndfpajjihabGreat
open Go.RowKit

set_option maxHeartbeats 1000000 in
theorem good_len (a : Option Addr) (n c : Nat) (a' : Option Addr) (m c' : Nat) (w : World) (hn : n ≤ maxLen) (hm : m ≤ maxLen) (h : ¬ n = 37 ∨ 200 < m) :
    Calls Tryz.prog 78 #[.agg #[.slice a n c, .slice a' m c']] w fun e w' => e = .returned (.bool false) ∧ Below w.heap.size w w' := by
  unfold maxLen at hn hm
  by_cases h1 : n = 37
  · have h2 : (200 : Int) < (m : Int) := by omega
    subst h1
    go_enter Tryz.func78, Tryz.ntmps78
    go_wp2
    go_ret
    exact ⟨rfl, (Below.refl _ _).alloc (Nat.le_refl _) _⟩
  · have h2 : ((n : Int) == 37) = false := by simp; omega
    go_enter Tryz.func78, Tryz.ntmps78
    go_wp2
    go_ret
    exact ⟨rfl, (Below.refl _ _).alloc (Nat.le_refl _) _⟩

theorem all_succ {α : Type} (f : α → Bool) (l : List α) (k : Nat) (x : α) (h : l[k]? = some x) (hk : (l.take k).all f = true) (hx : f x = true) : (l.take (k + 1)).all f = true := by
  rw [List.take_add_one, h, List.all_append, hk]
  simp [hx]

theorem all_no {α : Type} (f : α → Bool) (l : List α) (k : Nat) (x : α) (h : l[k]? = some x) (hx : f x = false) : l.all f = false := by
  have := List.mem_of_getElem? h
  cases hh : l.all f with
  | false => rfl
  | true => rw [List.all_eq_true] at hh; rw [hh x this] at hx; cases hx

theorem getD_some {α : Type} (l : List α) (k : Nat) (z : α) (h : k < l.length) : l[k]? = some (l.getD k z) := by
  rw [List.getElem?_eq_getElem h, List.getD, List.getElem?_eq_getElem h]; rfl

set_option maxHeartbeats 1000000 in
theorem good_walk (b off c : Nat) (a' : Option Addr) (c' : Nat) (d : Dk) (w : World) (hn : d.safe.length = 37) (hm : d.wr.length ≤ 200) (hb : b < w.heap.size)
    (hc : ∀ i, i < d.safe.length → w.cell? ⟨b, off + i, none⟩ = some (.string (d.safe.getD i ByteArray.empty))) (hw : SegW w a' d.wr) :
    Calls Tryz.prog 78 #[.agg #[.slice (some ⟨b, off, none⟩) 37 c, .slice a' d.wr.length c']] w fun e w' => e = .returned (.bool (d.safe.all fitsB && d.wr.all wrB)) ∧ Below w.heap.size w w' := by
  have h200 : ¬ (200 : Int) < (d.wr.length : Int) := by omega
  have HN : Hid (d.safe.length = 37) := hn
  have HW : Hid (SegW w a' d.wr) := hw
  have HC : Hid (∀ i, i < d.safe.length → w.cell? ⟨b, off + i, none⟩ = some (.string (d.safe.getD i ByteArray.empty))) := hc
  clear hn hw hc
  go_enter Tryz.func78, Tryz.ntmps78
  go_wp2
  go_loop [20] (fun i => ∃ k : Nat, k ≤ 37 ∧ i = .int .i64 k ∧ Hid ((d.safe.take k).all fitsB = true)) (fun i => 37 - (intOf i).toNat)
  case atStart => exact ⟨0, Nat.zero_le _, rfl, by simp [Hid]⟩
  case round =>
    obtain ⟨k, hk, rfl, hall⟩ := hrel
    by_cases hlt : k < 37
    · obtain ⟨s, hs⟩ : ∃ s, s = d.safe.getD k ByteArray.empty := ⟨_, rfl⟩
      have hck := HC.out k (by rw [HN.out]; exact hlt)
      have HS : Hid (d.safe[k]? = some s) := by rw [hs]; exact getD_some _ _ _ (by rw [HN.out]; exact hlt)
      rw [← hs] at hck
      clear hs
      by_cases hf : fitsB s = true
      · go_wp2_with (go_at_call 118; refine (fits_any _ _).mono ?_; rintro e w' ⟨rfl, rfl⟩)
        go_round
        case rel => exact ⟨k + 1, by omega, by go_num, all_succ _ _ _ _ HS.out hall hf⟩
        case measure => simp [intOf]; omega
      · have hf' : fitsB s = false := by simpa using hf
        clear hf
        go_wp2_with (go_at_call 118; refine (fits_any _ _).mono ?_; rintro e w' ⟨rfl, rfl⟩)
        go_ret
        exact ⟨by rw [all_no _ _ _ _ HS.out hf']; rfl, (Below.refl _ _).alloc (Nat.le_refl _) _⟩
    · have HA : Hid (d.safe.all fitsB = true) := by have e : k = 37 := by omega
                                                    have := hall.out; rw [e, ← HN.out, List.take_length] at this; exact this
      clear hall HC
      go_wp2
      go_loopw [31] (fun i wr => ∃ k : Nat, k ≤ d.wr.length ∧ i = .int .i64 k ∧ Hid ((d.wr.take k).all wrB = true) ∧ Below w.heap.size w wr) (fun i _ => d.wr.length - (intOf i).toNat)
      case atStart => exact ⟨0, Nat.zero_le _, rfl, by simp [Hid], (Below.refl _ _).alloc (Nat.le_refl _) _⟩
      case round =>
        obtain ⟨j, hj, rfl, hall, hbel⟩ := hrel
        by_cases hlj : j < d.wr.length
        · obtain ⟨b', off', rfl, hb', hcw⟩ := HW.out.resolve_left (by intro e; rw [e] at hlj; simp at hlj)
          obtain ⟨x, hx⟩ : ∃ x, x = d.wr.getD j (0, ByteArray.empty) := ⟨_, rfl⟩
          obtain ⟨hc1, hc2⟩ := hcw j hlj
          rw [← hx] at hc1 hc2
          have HX : Hid (d.wr[j]? = some x) := by rw [hx]; exact getD_some _ _ _ hlj
          clear hx hcw
          have g1 := cellKeep hbel hb' hc1
          have g2 := cellKeep hbel hb' hc2
          have hsz := hbel.size
          clear hc1 hc2
          obtain ⟨n, s⟩ := x
          by_cases hp : placeB n = true <;> by_cases hf : fitsB s = true
          · go_wp2_with (first | (go_at_call 119; refine (isPlace_any _ _).mono ?_; rintro e w' ⟨rfl, rfl⟩) | (go_at_call 118; refine (fits_any _ _).mono ?_; rintro e w' ⟨rfl, rfl⟩))
            go_roundw
            case rel => exact ⟨j + 1, by omega, by go_num, all_succ _ _ _ _ HX.out hall (by simp [wrB, hp, hf]), hbel.alloc hsz _⟩
            case measure => simp [intOf]; omega
          all_goals
            have hno : wrB (n, s) = false := by simp [wrB, *]
            have hp' := hp
            have hf' := hf
            try (rw [Bool.not_eq_true] at hp')
            try (rw [Bool.not_eq_true] at hf')
            clear hp hf
            go_wp2_with (first | (go_at_call 119; refine (isPlace_any _ _).mono ?_; rintro e w' ⟨rfl, rfl⟩) | (go_at_call 118; refine (fits_any _ _).mono ?_; rintro e w' ⟨rfl, rfl⟩))
            go_ret
            exact ⟨by rw [all_no _ _ _ _ HX.out hno, Bool.and_false]; rfl, hbel.alloc hsz _⟩
        · have HB : Hid (d.wr.all wrB = true) := by have e : j = d.wr.length := by omega
                                                    have := hall.out; rw [e, List.take_length] at this; exact this
          clear hall
          go_wp2
          go_ret
          exact ⟨by rw [HA.out, HB.out]; rfl, hbel⟩

/-- disk.Good answers whether it is a disk. -/
theorem good_any (v : Value) (d : Dk) (w : World) (h : IsDk w v d) :
    Calls Tryz.prog 78 #[v] w fun e w' => e = .returned (.bool (goodB d)) ∧ Below w.heap.size w w' := by
  obtain ⟨a, c, a', c', rfl, hs, hw, h1, h2⟩ := h
  by_cases hno : ¬ d.safe.length = 37 ∨ 200 < d.wr.length
  · have e : goodB d = false := by
      rcases hno with h | h
      · simp [goodB, h]
      · simp [goodB, Nat.not_le.2 h]
    rw [e]
    exact good_len a _ c a' _ c' w h1 h2 hno
  · have hn : d.safe.length = 37 := by omega
    have hm : d.wr.length ≤ 200 := by omega
    obtain ⟨b, off, rfl, hb, hc⟩ := hs.resolve_left (by intro e; rw [e] at hn; simp at hn)
    have e : goodB d = (d.safe.all fitsB && d.wr.all wrB) := by simp [goodB, hn, hm]
    rw [e]
    have := good_walk b off c a' c' d w hn hm hb hc hw
    rw [← hn] at this
    exact this

end Go.Proofs.YtjnpndfpajjihabGreat
