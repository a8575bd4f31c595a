/-
  The walks of the statements FormOnly, FormBack and FormHides.
-/
import Derived.Test.YtjnpndfpajjihaaSMarks
import Derived.Test.YtjnpndfpajjihaaMPure
import Derived.Test.YtjnpndfpajjihaaMSame
namespace Go.Proofs.Ytjnpndfpajjihaa
open Go.RowKit

theorem dec_cases (s : ByteArray) : (∃ m, stampDec s = (m, 0) ∧ goodM m = 0 ∧ encT m = s) ∨ stampDec s = (zeroM, 1) := by
  by_cases h : s.size = 32 ∧ goodM (gsM s) = 0 ∧ encT (gsM s) = s
  · exact .inl ⟨gsM s, if_pos h, h.2.1, h.2.2⟩
  · exact .inr (if_neg h)

set_option maxHeartbeats 2000000 in
set_option maxRecDepth 100000 in
theorem only_walk (s : ByteArray) (w : World) :
    Calls Try.prog 11 #[.string s] w fun e w' => e = .returned (.bool true) ∧ Below w.heap.size w w' := by
  go_enter Try.func11, Try.ntmps11
  go_wp2_with fail
  refine (stampDecode_any s _).mono ?_
  rintro e w1 ⟨v1, rfl, hd1, hb1⟩
  rcases dec_cases s with ⟨m, hx, hg, hE⟩ | hx
  · rw [hx] at hd1 ⊢
    have HD1 : Hid (IsMk w1 v1 m) := hd1
    obtain ⟨a, c, a', c', rfl, _, _, _, _⟩ := HD1.out
    have HG := hide hg
    have HE := hide hE
    have HB1 := hide hb1
    clear hd1 hx hg hE hb1
    go_wp2_with fail
    refine (keepMarks_any _).mono ?_
    rintro e w2 ⟨rfl, hb2⟩
    have hs2 : w1.heap.size < w2.heap.size := by have := hb2.size; simp at this; omega
    obtain ⟨⟨x0, x1, x2, x3, x4⟩, _⟩ := box5 (keep0 hb2)
    have HB2 := hide (bthen (below1 _ _) hb2)
    clear hb2
    go_wp2_with fail
    refine (stampEncode_any _ m _ (HD1.out.below HB2.out)).mono ?_
    rintro e w3 ⟨rfl, hb3⟩
    rw [HG.out, HE.out]
    have HB3 := hide (bthen (bthen HB1.out HB2.out) hb3)
    clear hb3 x0 x1 x2 x3 x4
    go_wp2
    go_ret
    exact ⟨rfl, HB3.out⟩
  · rw [hx] at hd1 ⊢
    have HD1 : Hid (IsMk w1 v1 zeroM) := hd1
    obtain ⟨a, c, a', c', rfl, _, _, _, _⟩ := HD1.out
    have HB1 := hide hb1
    clear hd1 hx hb1
    go_wp2_with fail
    refine (sameMark_any _ _ zeroM _ (HD1.out.below (below1 _ _)) (isZero _)).mono ?_
    rintro e w2 ⟨rfl, hb2⟩
    have HB2 := hide (bthen (below1 _ _) hb2)
    clear hb2
    go_wp2_with fail
    refine (keepMarks_any _).mono ?_
    rintro e w3 ⟨rfl, hb3⟩
    have HB3 := hide (bthen (bthen HB1.out HB2.out) hb3)
    clear hb3
    go_wp2
    go_ret
    exact ⟨rfl, HB3.out⟩

set_option maxHeartbeats 2000000 in
set_option maxRecDepth 100000 in
theorem back_walk (v : Value) (m : Mk) (w : World) (h : IsMk w v m) :
    Calls Try.prog 10 #[v] w fun e w' => e = .returned (.bool true) ∧ Below w.heap.size w w' := by
  have HI := hide h
  obtain ⟨a, c, a', c', rfl, _, _, _, _⟩ := h
  go_enter Try.func10, Try.ntmps10
  go_wp2_with fail
  refine (stampEncode_any _ m _ (HI.out.below (below1 _ _))).mono ?_
  rintro e w1 ⟨rfl, hb1⟩
  have hs1 : w.heap.size < w1.heap.size := by have := hb1.size; simp at this; omega
  have hk1 := keep0 hb1
  obtain ⟨⟨x0, x1, x2, x3, x4⟩, _⟩ := box5 hk1
  have HK1 := hide hk1
  have HB1 := hide (bthen (below1 _ _) hb1)
  clear hb1 hk1
  by_cases hg : goodM m = 0
  · have HG := hide hg
    have hz := enc_size hg
    rw [hg]
    clear hg x0 x1 x2 x3 x4
    go_wp2_with fail
    refine (keepMarks_any _).mono ?_
    rintro e w2 ⟨rfl, hb2⟩
    have HB2 := hide hb2
    have hs2 : w.heap.size < w2.heap.size := by have := hb2.size; omega
    clear hb2
    go_wp2_with fail
    refine (stampDecode_any (encT m) _).mono ?_
    rintro e w3 ⟨v3, rfl, hd3, hb3⟩
    rw [dec_enc HG.out] at hd3 ⊢
    have HD3 : Hid (IsMk w3 v3 m) := hd3
    obtain ⟨b, d, b', d', rfl, _, _, _, _⟩ := HD3.out
    have hs3 : w.heap.size < w3.heap.size := by have := hb3.size; omega
    have hb13 := bthen HB2.out hb3
    obtain ⟨⟨x0, x1, x2, x3, x4⟩, _⟩ := box5 ((hb13.block _ hs1).trans HK1.out)
    have HB3 := hide (bthen HB1.out hb13)
    clear hd3 hb3 hb13
    generalize encT m = t at *
    go_wp2_with fail
    refine (sameMark_any _ _ m _ (HI.out.below (bthen HB3.out (below1 _ _))) (HD3.out.below (below1 _ _))).mono ?_
    rintro e w4 ⟨rfl, hb4⟩
    have HB4 := hide (bthen HB3.out (bthen (below1 _ _) hb4))
    clear hb4 x0 x1 x2 x3 x4
    go_wp2
    go_ret
    exact ⟨rfl, HB4.out⟩
  · have hE : encT m = ⟨#[]⟩ := by rw [encT, if_neg hg]; rfl
    have hg' : (goodM m != 0) = true := by simpa using hg
    rw [hE]
    clear hE hg
    go_wp2_with fail
    refine (stampGood_any _ m _ (HI.out.below HB1.out)).mono ?_
    rintro e w2 ⟨rfl, hb2⟩
    have HB2 := hide (bthen HB1.out hb2)
    clear hb2 x0 x1 x2 x3 x4
    go_wp2_with fail
    refine (keepMarks_any _).mono ?_
    rintro e w3 ⟨rfl, hb3⟩
    have HB3 := hide (bthen HB2.out hb3)
    clear hb3
    go_wp2
    go_ret
    exact ⟨rfl, HB3.out⟩

set_option maxHeartbeats 2000000 in
set_option maxRecDepth 100000 in
theorem hides_walk (s : ByteArray) (w : World) (hn : s.size ≤ maxLen) :
    Calls Try.prog 12 #[.string s] w fun e w' => e = .returned (.bool true) ∧ Below w.heap.size w w' := by
  have HN := hide hn
  unfold maxLen at hn
  by_cases h32 : s.size = 32
  · have hz : (escT s).size = 32 := by rw [esc_size]; exact h32
    have HZ := hide hz
    have HD := hide (dec_magic (esc_magic s))
    have HU := hide (unesc_esc s)
    have HM : Hid (((s.extract 0 4).toList == [87, 66, 75, 49]) = isMagic s) := by rw [Hid, isMagic, if_pos (by omega)]
    go_enter Try.func12, Try.ntmps12
    go_wp2_with fail
    refine (stampEscape_any s _ HN.out).mono ?_
    rintro e w1 ⟨rfl, rfl⟩
    generalize escT s = x at *
    generalize isMagic s = y at *
    go_wp2_with fail
    refine (stampDecode_any x _).mono ?_
    rintro e w2 ⟨v2, rfl, hd2, hb2⟩
    rw [HD.out] at hd2 ⊢
    obtain ⟨a, c, a', c', rfl, _, _, _, _⟩ := hd2
    have HB2 := hide hb2
    clear hb2
    go_wp2_with fail
    refine (stampUnescape_any x y _ (by rw [HZ.out]; decide)).mono ?_
    rintro e w3 ⟨rfl, rfl⟩
    rw [HU.out]
    have hM' := HM.out
    clear HM
    cases y
    all_goals
      go_wp2_with fail
      refine (keepMarks_any _).mono ?_
      rintro e w4 ⟨rfl, hb4⟩
      have HB4 := hide (bthen HB2.out (bthen (below1 _ _) hb4))
      clear hb4
      go_wp2
      go_ret
      exact ⟨rfl, HB4.out⟩
  · have h' : ((s.size : Int) != 32) = true := by
      rw [bne_iff_ne]; omega
    go_enter Try.func12, Try.ntmps12
    go_wp2_with fail
    refine (keepMarks_any _).mono ?_
    rintro e w4 ⟨rfl, hb4⟩
    have HB4 := hide hb4
    clear hb4
    go_wp2
    go_ret
    exact ⟨rfl, HB4.out⟩

end Go.Proofs.Ytjnpndfpajjihaa
