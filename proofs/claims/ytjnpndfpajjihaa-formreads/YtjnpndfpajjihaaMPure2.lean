/-
  What the document's DecodeMark answers is what stamp.Decode answers: as plain data; then DecodeMark, whole.
-/
import Derived.Test.YtjnpndfpajjihaaMPure
import Derived.Test.YtjnpndfpajjihaaMDecode5
namespace Go.Proofs.Ytjnpndfpajjihaa
open Go.RowKit

theorem at8_out (s : ByteArray) (k : Nat) (h : s.size ≤ k) : at8 s k = 0 := by
  rw [at8_bl, List.getD, List.getElem?_eq_none (by rw [bl_length]; exact h)]; rfl
theorem zero_iff (s : ByteArray) (k : Nat) : zeroFrom s k = true ↔ ∀ j, at8 s (k + j) = 0 := by
  unfold zeroFrom
  rw [List.all_eq_true]
  constructor
  · intro h j
    rw [at8_bl, List.getD]
    cases hx : (bl s)[k + j]? with
    | none => rfl
    | some x =>
      have : x ∈ s.data.toList.drop k := by
        apply List.mem_of_getElem? (i := j)
        rw [List.getElem?_drop]; exact hx
      have := h x this
      rw [beq_iff_eq] at this
      rw [this]; rfl
  · intro h x hx
    obtain ⟨j, hj⟩ := List.getElem?_of_mem hx
    rw [List.getElem?_drop] at hj
    have := h j
    rw [at8_bl, List.getD, show (bl s)[k + j]? = some x from hj] at this
    rw [beq_iff_eq]
    exact UInt8.toNat_inj.1 (by show x.toNat = 0; simpa using this)

/-- The bytes of a good mark that was guessed are the block's own just where what stands behind its number is. -/
theorem enc_iff {s : ByteArray} {M : Mk} (h32 : s.size = 32) (hm : isMagic s = true) (hM : gsM s = M) (hg : goodM M = 0) :
    encT M = s ↔ ∀ j, j < 23 → at8 s (9 + j) = (((tailB M).getD j 0).toNat : Int) := by
  constructor
  · intro h j _
    have := enc_tail hg j
    rw [h] at this
    exact this
  · intro h
    obtain ⟨_, ⟨q1, q2, _, _⟩, _, _, _, _, _⟩ := goodM_parts hg
    obtain ⟨h0, h1, h2, h3, h4, h5, h6, h7, h8⟩ := enc_head hg
    obtain ⟨m0, m1, m2, m3⟩ := (magic_iff s (by omega)).1 hm
    have hk : M.kind = at8 s 4 := by rw [← hM]; rfl
    have hq : M.seq = 256 * (256 * (256 * (256 * 0 + at8 s 5) + at8 s 6) + at8 s 7) + at8 s 8 := by rw [← hM]; rfl
    have b5 := at8_in s 5
    have b6 := at8_in s 6
    have b7 := at8_in s 7
    have b8 := at8_in s 8
    have hz := enc_size hg
    apply same_at8 (by rw [hz, h32])
    intro k hk32
    rw [hz] at hk32
    by_cases h9 : k < 9
    · match k, h9 with
      | 0, _ => rw [h0, m0]
      | 1, _ => rw [h1, m1]
      | 2, _ => rw [h2, m2]
      | 3, _ => rw [h3, m3]
      | 4, _ => rw [h4, hk]
      | 5, _ => rw [h5, hq]; omega
      | 6, _ => rw [h6, hq]; omega
      | 7, _ => rw [h7, hq]; omega
      | 8, _ => rw [h8, hq]; omega
    · obtain ⟨j, rfl⟩ : ∃ j, k = 9 + j := ⟨k - 9, by omega⟩
      rw [enc_tail hg j, h j (by omega)]

theorem dec_by {s : ByteArray} {M : Mk} {z : Bool} (h32 : s.size = 32) (hM : gsM s = M) (hz : goodM M = 0 → (z = true ↔ encT M = s)) : decOf M z = stampDec s := by
  unfold decOf stampDec
  rw [hM]
  by_cases hg : goodM M = 0
  · by_cases h : z = true
    · rw [if_pos ⟨hg, h⟩, if_pos ⟨h32, hg, (hz hg).1 h⟩]
    · rw [if_neg (fun x => h x.2), if_neg (fun x => h ((hz hg).2 x.2.2))]
  · rw [if_neg (fun x => hg x.1), if_neg (fun x => hg x.2.1)]

theorem dec_one {s : ByteArray} (h32 : s.size = 32) (hm : isMagic s = true) (hk : at8 s 4 = 1) : decOf ⟨1, seqOf s 4, at8 s 9, [], []⟩ (zeroFrom s 10) = stampDec s := by
  have hM : gsM s = ⟨1, seqOf s 4, at8 s 9, [], []⟩ := by rw [gsM, if_pos hk, if_neg (by omega), if_neg (by omega), hk]
  refine dec_by h32 hM fun hg => ?_
  rw [enc_iff h32 hm hM hg, zero_iff]
  have hT : tailB ⟨1, seqOf s 4, at8 s 9, [], []⟩ = [UInt8.ofNat (at8 s 9).toNat] := by rw [tailB, if_pos rfl]
  rw [hT]
  constructor
  · intro h j _
    cases j with
    | zero => exact (ofNat8 (at8_in s 9).1 (at8_in s 9).2).symm
    | succ j => have := h j; rw [show 9 + (j + 1) = 10 + j from by omega, this]; rfl
  · intro h j
    by_cases hj : j < 22
    · have := h (j + 1) (by omega)
      rw [show 10 + j = 9 + (j + 1) from by omega, this]; rfl
    · exact at8_out s _ (by omega)

theorem dec_other {s : ByteArray} (h32 : s.size = 32) (hm : isMagic s = true) (h1 : ¬ at8 s 4 = 1) (h2 : ¬ at8 s 4 = 2) (h3 : ¬ at8 s 4 = 3) : decOf ⟨at8 s 4, seqOf s 4, 0, [], []⟩ (zeroFrom s 9) = stampDec s := by
  have hM : gsM s = ⟨at8 s 4, seqOf s 4, 0, [], []⟩ := by rw [gsM, if_neg h1, if_neg h2, if_neg h3]
  refine dec_by h32 hM fun hg => ?_
  rw [enc_iff h32 hm hM hg, zero_iff]
  have hT : tailB ⟨at8 s 4, seqOf s 4, 0, [], []⟩ = [] := by rw [tailB, if_neg h1, if_neg h2, if_neg h3]
  rw [hT]
  constructor
  · intro h j _
    rw [h j]; rfl
  · intro h j
    by_cases hj : j < 23
    · rw [h j hj]; rfl
    · exact at8_out s _ (by omega)

theorem list_mark {s : ByteArray} (hk : at8 s 4 = 3) : gsM s = ⟨3, seqOf s 4, 0, [], gBlocks s⟩ := by rw [gsM, if_neg (by omega), if_neg (by omega), if_pos hk, hk]
theorem list_tail (s : ByteArray) : tailB ⟨3, seqOf s 4, 0, [], gBlocks s⟩ = UInt8.ofNat (gBlocks s).length :: numB (gBlocks s) := by
  rw [tailB, if_neg (show ¬ ((3 : Int) = 1) by decide), if_neg (show ¬ ((3 : Int) = 2) by decide), if_pos rfl]
theorem numB_out (l : List Int) (i : Nat) (h : l.length ≤ i) : (numB l).getD i 0 = 0 := by
  rw [List.getD, List.getElem?_eq_none (by rw [numB_length]; exact h)]; rfl
theorem tagB_out (l : List (Int × Bool)) (i : Nat) (h : 2 * l.length ≤ i) : (tagB l).getD i 0 = 0 := by
  rw [List.getD, List.getElem?_eq_none (by rw [tagB_length]; exact h)]; rfl

theorem dec_list {s : ByteArray} {n : Nat} (h32 : s.size = 32) (hm : isMagic s = true) (hk : at8 s 4 = 3) (h20 : n ≤ 20) (h9 : at8 s 9 = (n : Int)) : decOf ⟨3, seqOf s 4, 0, [], gBlocks s⟩ (zeroFrom s (10 + n)) = stampDec s := by
  refine dec_by h32 (list_mark hk) fun hg => ?_
  have hl : (gBlocks s).length = n := by rw [gBlocks_length, many_few h9 h20]
  rw [enc_iff h32 hm (list_mark hk) hg, zero_iff, list_tail]
  constructor
  · intro h j hj
    cases j with
    | zero =>
      show at8 s 9 = ((UInt8.ofNat (gBlocks s).length).toNat : Int)
      rw [hl, h9]; simp; omega
    | succ j =>
      rw [List.getD_cons_succ, show 9 + (j + 1) = 10 + j from by omega]
      by_cases hjn : j < n
      · rw [numB_at _ j _ (gBlocks_at s j (by rw [many_few h9 h20]; exact hjn)), ofNat8 (at8_in s _).1 (at8_in s _).2]
      · rw [numB_out _ _ (by omega)]
        have := h (j - n)
        rw [show 10 + n + (j - n) = 10 + j from by omega] at this
        rw [this]; rfl
  · intro h j
    by_cases hj : n + j < 22
    · have := h (n + j + 1) (by omega)
      rw [List.getD_cons_succ, numB_out _ _ (by omega), show 9 + (n + j + 1) = 10 + n + j from by omega] at this
      rw [this]; rfl
    · exact at8_out s _ (by omega)

theorem dec_list_many {s : ByteArray} (h32 : s.size = 32) (hm : isMagic s = true) (hk : at8 s 4 = 3) (h9 : 20 < at8 s 9) : stampDec s = (zeroM, 1) := by
  refine if_neg fun ⟨_, hg, he⟩ => ?_
  rw [list_mark hk] at hg he
  have := (enc_iff h32 hm (list_mark hk) hg).1 he 0 (by omega)
  rw [list_tail, List.getD_cons_zero, gBlocks_length, many_most (show ((20 : Nat) : Int) < at8 s 9 by omega)] at this
  have e : at8 s 9 = 20 := this
  omega

theorem tags_mark {s : ByteArray} (hk : at8 s 4 = 2) : gsM s = ⟨2, seqOf s 4, 0, gTags s, []⟩ := by rw [gsM, if_neg (by omega), if_pos hk, if_neg (by omega), hk]
theorem tags_tail (s : ByteArray) : tailB ⟨2, seqOf s 4, 0, gTags s, []⟩ = UInt8.ofNat (gTags s).length :: tagB (gTags s) := by
  rw [tailB, if_neg (show ¬ ((2 : Int) = 1) by decide), if_pos rfl]

theorem dec_tags {s : ByteArray} {n : Nat} (h32 : s.size = 32) (hm : isMagic s = true) (hk : at8 s 4 = 2) (h10 : n ≤ 10) (h9 : at8 s 9 = (n : Int)) (hf : ∀ i, i < n → at8 s (11 + 2 * i) ≤ 1) : stampDec s = decOf ⟨2, seqOf s 4, 0, gTags s, []⟩ (zeroFrom s (10 + 2 * n)) := by
  symm
  refine dec_by h32 (tags_mark hk) fun hg => ?_
  have hl : (gTags s).length = n := by rw [gTags_length, many_few h9 h10]
  rw [enc_iff h32 hm (tags_mark hk) hg, zero_iff, tags_tail]
  constructor
  · intro h j hj
    cases j with
    | zero =>
      show at8 s 9 = ((UInt8.ofNat (gTags s).length).toNat : Int)
      rw [hl, h9]; simp; omega
    | succ j =>
      rw [List.getD_cons_succ, show 9 + (j + 1) = 10 + j from by omega]
      by_cases hjn : j < 2 * n
      · have hT := tagB_at (gTags s) (j / 2) _ (gTags_at s (j / 2) (by rw [many_few h9 h10]; omega))
        by_cases h0 : j % 2 = 0
        · rw [show j = 2 * (j / 2) from by omega, hT.1, ofNat8 (at8_in s _).1 (at8_in s _).2]
        · have h1 := hf (j / 2) (by omega)
          have h2 := at8_in s (11 + 2 * (j / 2))
          rw [show j = 2 * (j / 2) + 1 from by omega, hT.2, show 10 + (2 * (j / 2) + 1) = 11 + 2 * (j / 2) from by omega]
          have h01 : at8 s (11 + 2 * (j / 2)) = 0 ∨ at8 s (11 + 2 * (j / 2)) = 1 := by omega
          rcases h01 with h01 | h01 <;> rw [h01] <;> rfl
      · rw [tagB_out _ _ (by omega)]
        have := h (j - 2 * n)
        rw [show 10 + 2 * n + (j - 2 * n) = 10 + j from by omega] at this
        rw [this]; rfl
  · intro h j
    by_cases hj : 2 * n + j < 22
    · have := h (2 * n + j + 1) (by omega)
      rw [List.getD_cons_succ, tagB_out _ _ (by omega), show 9 + (2 * n + j + 1) = 10 + 2 * n + j from by omega] at this
      rw [this]; rfl
    · exact at8_out s _ (by omega)

theorem dec_tags_flag {s : ByteArray} {n : Nat} (h32 : s.size = 32) (hm : isMagic s = true) (hk : at8 s 4 = 2) (h10 : n ≤ 10) (h9 : at8 s 9 = (n : Int)) (i : Nat) (hi : i < n) (hf : 1 < at8 s (11 + 2 * i)) : stampDec s = (zeroM, 1) := by
  refine if_neg fun ⟨_, hg, he⟩ => ?_
  rw [tags_mark hk] at hg he
  have := (enc_iff h32 hm (tags_mark hk) hg).1 he (2 * i + 1 + 1) (by omega)
  rw [tags_tail, List.getD_cons_succ] at this
  have hT := tagB_at (gTags s) i _ (gTags_at s i (by rw [many_few h9 h10]; exact hi))
  rw [hT.2, show 9 + (2 * i + 1 + 1) = 11 + 2 * i from by omega] at this
  split at this
  · have e : at8 s (11 + 2 * i) = 1 := this
    omega
  · have e : at8 s (11 + 2 * i) = 0 := this
    omega

theorem dec_tags_many {s : ByteArray} (h32 : s.size = 32) (hm : isMagic s = true) (hk : at8 s 4 = 2) (h9 : 10 < at8 s 9) : stampDec s = (zeroM, 1) := by
  refine if_neg fun ⟨_, hg, he⟩ => ?_
  rw [tags_mark hk] at hg he
  have := (enc_iff h32 hm (tags_mark hk) hg).1 he 0 (by omega)
  rw [tags_tail, List.getD_cons_zero, gTags_length, many_most (show ((10 : Nat) : Int) < at8 s 9 by omega)] at this
  have e : at8 s 9 = 10 := this
  omega

set_option maxHeartbeats 400000 in
/-- wastebookref.DecodeMark: the mark that has just these bytes, or that there is none. -/
theorem decodeMark_new (s : ByteArray) (w : World) :
    Calls Try.prog 41 #[.string s] w fun e w' => ∃ v2, e = .returned (.tuple #[v2, .int .i64 (stampDec s).2]) ∧ IsMkN w' w.heap.size v2 (stampDec s).1 ∧ Below w.heap.size w w' := by
  by_cases h : s.size = 32
  · cases hm : isMagic s with
    | false =>
      rw [dec_magic hm]
      exact decode_magic s w h hm
    | true =>
      by_cases h1 : at8 s 4 = 1
      · have := decode_one s w h hm h1
        rw [dec_one h hm h1] at this
        exact this
      · by_cases h2 : at8 s 4 = 2
        · by_cases h10 : at8 s 9 ≤ 10
          · obtain ⟨n, hn⟩ := Int.eq_ofNat_of_zero_le (at8_in s 9).1
            exact decode_tags s n (stampDec s) w h hm h2 (by omega) hn (dec_tags h hm h2 (by omega) hn) (dec_tags_flag h hm h2 (by omega) hn)
          · rw [dec_tags_many h hm h2 (by omega)]
            exact decode_tags_many s w h hm h2 (by omega)
        · by_cases h3 : at8 s 4 = 3
          · by_cases h20 : at8 s 9 ≤ 20
            · obtain ⟨n, hn⟩ := Int.eq_ofNat_of_zero_le (at8_in s 9).1
              have := decode_list s n w h hm h3 (by omega) hn
              rw [dec_list h hm h3 (by omega) hn] at this
              exact this
            · rw [dec_list_many h hm h3 (by omega)]
              exact decode_list_many s w h hm h3 (by omega)
          · have := decode_other s w h hm h1 h2 h3
            rw [dec_other h hm h1 h2 h3] at this
            exact this
  · have e : stampDec s = (zeroM, 1) := if_neg fun x => h x.1
    rw [e]
    exact decode_short s w h

theorem decodeMark_any (s : ByteArray) (w : World) :
    Calls Try.prog 41 #[.string s] w fun e w' => ∃ v2, e = .returned (.tuple #[v2, .int .i64 (stampDec s).2]) ∧ IsMk w' v2 (stampDec s).1 ∧ Below w.heap.size w w' :=
  (decodeMark_new s w).mono fun _ _ ⟨v2, h1, h2, h3⟩ => ⟨v2, h1, h2.is, h3⟩

end Go.Proofs.Ytjnpndfpajjihaa
