/-
  The walk of stamp.Decode.
-/
import Derived.Test.YtjnpndfpajjihaaSDecode
namespace Go.Proofs.Ytjnpndfpajjihaa
open Go.RowKit

theorem list_ne {s t : ByteArray} (h : ¬ t = s) : (t.toList == s.toList) = false := by
  rw [beq_eq_false_iff_ne]
  intro e
  rw [ByteArray.toList_eq, ByteArray.toList_eq] at e
  exact h (ByteArray.ext (Array.ext' e))

/-- What Decode answers. -/
def stampDec (s : ByteArray) : Mk × Int := if s.size = 32 ∧ goodM (gsM s) = 0 ∧ encT (gsM s) = s then (gsM s, 0) else (zeroM, 1)

set_option maxHeartbeats 2000000 in
set_option maxRecDepth 100000 in
theorem stampDecode_short (s : ByteArray) (w : World) (h : ¬ s.size = 32) :
    Calls Try.prog 40 #[.string s] w fun e w' => ∃ v2, e = .returned (.tuple #[v2, .int .i64 1]) ∧ IsMkN w' w.heap.size v2 zeroM ∧ Below w.heap.size w w' := by
  have h' : ((s.size : Int) != 32) = true := by
    rw [bne_iff_ne]; omega
  go_enter Try.func40, Try.ntmps40
  go_wp2
  refine bodyPost_ret (v := .tuple #[.agg #[.int .i64 0, .int .i64 0, .int .i64 0, .slice none 0 0, .slice none 0 0], .int .i64 1]) (by simp [results, Try.results40, go_sem]) rfl ⟨_, rfl, isZeroN _ _, ?_⟩
  repeat refine Below.setCell ?_ (by simp) _
  exact below1 _ _

set_option maxHeartbeats 4000000 in
set_option maxRecDepth 100000 in
theorem stampDecode_full (s : ByteArray) (w : World) (h : s.size = 32) :
    Calls Try.prog 40 #[.string s] w fun e w' => ∃ v2, e = .returned (.tuple #[v2, .int .i64 (stampDec s).2]) ∧ IsMkN w' w.heap.size v2 (stampDec s).1 ∧ Below w.heap.size w w' := by
  go_enter Try.func40, Try.ntmps40
  go_wp2_with fail
  refine (guess_any s _ h).mono ?_
  rintro e w1 ⟨v1, rfl, hd1, hb1⟩
  obtain ⟨m, hm⟩ : ∃ m, m = gsM s := ⟨_, rfl⟩
  rw [← hm] at hd1
  obtain ⟨a, c, a', c', rfl, hT, hI, hl, hl', hA, hA'⟩ := hd1
  have HD1 : Hid (IsMk w1 (.agg #[.int .i64 m.kind, .int .i64 m.seq, .int .i64 m.pos, .slice a m.tags.length c, .slice a' m.blocks.length c']) m) := ⟨a, c, a', c', rfl, hT, hI, hl, hl'⟩
  have HT := hide hT
  have HI := hide hI
  have HL := hide (And.intro hl hl')
  have HA : Hid ((∀ b off, a = some ⟨b, off, none⟩ → w.heap.size + 1 ≤ b) ∧ ∀ b off, a' = some ⟨b, off, none⟩ → w.heap.size + 1 ≤ b) := ⟨fun b off e => (by have := hA b off e; simp at this; omega), fun b off e => (by have := hA' b off e; simp at this; omega)⟩
  clear hT hI hl hl' hA hA'
  have hs1 : w.heap.size < w1.heap.size := by have := hb1.size; simp at this; omega
  obtain ⟨⟨y0, y1, y2, y3, y4⟩, f0, f1, f2, f3, f4⟩ := box5 (keep0 hb1)
  have HB1 := hide (bthen (below1 _ _) hb1)
  have HM := hide hm
  clear hb1 hm
  go_wp2_with fail
  refine (stampEncode_any _ m _ (HD1.out.below (below1 _ _))).mono ?_
  rintro e w2 ⟨rfl, hb2⟩
  have hs2 : w1.heap.size < w2.heap.size := by have := hb2.size; simp at this; omega
  have hs2' : w.heap.size < w2.heap.size := by omega
  obtain ⟨⟨x0, x1, x2, x3, x4⟩, _⟩ := box5 (keep0 hb2)
  have hb12 := bthen (below1 _ _) hb2
  replace y0 := cellKeep hb12 (by omega) y0
  replace y1 := cellKeep hb12 (by omega) y1
  replace y2 := cellKeep hb12 (by omega) y2
  replace y3 := cellKeep hb12 (by omega) y3
  replace y4 := cellKeep hb12 (by omega) y4
  replace f0 := frozKeep hb12 (by omega) f0
  replace f1 := frozKeep hb12 (by omega) f1
  replace f2 := frozKeep hb12 (by omega) f2
  replace f3 := frozKeep hb12 (by omega) f3
  replace f4 := frozKeep hb12 (by omega) f4
  have HT2 := hide (HT.out.below hb12)
  have HI2 := hide (HI.out.below hb12)
  have HB2 := hide (bthen HB1.out hb12)
  clear hb2 hb12 HB1
  by_cases hg : goodM m = 0
  · obtain ⟨t, ht⟩ : ∃ t, t = encT m := ⟨_, rfl⟩
    rw [← ht, hg]
    by_cases hE : t = s
    · have HD : Hid (stampDec s = (m, 0)) := by
        rw [Hid, stampDec, ← HM.out, if_pos ⟨h, hg, by rw [← ht]; exact hE⟩]
      clear ht hg
      subst hE
      go_wp2
      refine bodyPost_ret (v := .tuple #[.agg #[.int .i64 m.kind, .int .i64 m.seq, .int .i64 m.pos, .slice a m.tags.length c, .slice a' m.blocks.length c'], .int .i64 0]) (by simp [results, Try.results40, go_sem, y0, y1, y2, y3, y4]) rfl ⟨_, by rw [HD.out], ?_, ?_⟩
      · rw [HD.out]
        refine ⟨a, c, a', c', rfl, ?_, ?_, HL.out.1, HL.out.2, fun b off e => (by have := HA.out.1 b off e; omega), fun b off e => (by have := HA.out.2 b off e; omega)⟩
        · repeat refine SegT.setNe ?_ (fun b off e => by have := HA.out.1 b off e; simp; omega) _
          exact HT2.out
        · repeat refine SegI.setNe ?_ (fun b off e => by have := HA.out.2 b off e; simp; omega) _
          exact HI2.out
      · repeat refine Below.setCell ?_ (by simp) _
        exact HB2.out
    · have HD : Hid (stampDec s = (zeroM, 1)) := by
        rw [Hid, stampDec, ← HM.out, if_neg (fun x => hE (by rw [ht]; exact x.2.2))]
      have hE' := list_ne hE
      clear ht hg
      go_wp2
      refine bodyPost_ret (v := .tuple #[.agg #[.int .i64 0, .int .i64 0, .int .i64 0, .slice none 0 0, .slice none 0 0], .int .i64 1]) (by simp [results, Try.results40, go_sem, y0, y1, y2, y3, y4]) rfl ⟨_, by rw [HD.out], by rw [HD.out]; exact isZeroN _ _, ?_⟩
      repeat refine Below.setCell ?_ (by simp) _
      exact HB2.out
  · have HD : Hid (stampDec s = (zeroM, 1)) := by
      rw [Hid, stampDec, ← HM.out, if_neg (fun x => hg x.2.1)]
    have hg' : (goodM m != 0) = true := by simpa using hg
    go_wp2
    refine bodyPost_ret (v := .tuple #[.agg #[.int .i64 0, .int .i64 0, .int .i64 0, .slice none 0 0, .slice none 0 0], .int .i64 1]) (by simp [results, Try.results40, go_sem, y0, y1, y2, y3, y4]) rfl ⟨_, by rw [HD.out], by rw [HD.out]; exact isZeroN _ _, ?_⟩
    repeat refine Below.setCell ?_ (by simp) _
    exact HB2.out

/-- stamp.Decode: the mark that has just these bytes, or that there is none. -/
theorem stampDecode_new (s : ByteArray) (w : World) :
    Calls Try.prog 40 #[.string s] w fun e w' => ∃ v2, e = .returned (.tuple #[v2, .int .i64 (stampDec s).2]) ∧ IsMkN w' w.heap.size v2 (stampDec s).1 ∧ Below w.heap.size w w' := by
  by_cases h : s.size = 32
  · exact stampDecode_full s w h
  · have e : stampDec s = (zeroM, 1) := if_neg fun x => h x.1
    rw [e]
    exact stampDecode_short s w h

theorem stampDecode_any (s : ByteArray) (w : World) :
    Calls Try.prog 40 #[.string s] w fun e w' => ∃ v2, e = .returned (.tuple #[v2, .int .i64 (stampDec s).2]) ∧ IsMk w' v2 (stampDec s).1 ∧ Below w.heap.size w w' :=
  (stampDecode_new s w).mono fun _ _ ⟨v2, h1, h2, h3⟩ => ⟨v2, h1, h2.is, h3⟩

end Go.Proofs.Ytjnpndfpajjihaa
