/-
  Marks and their bytes, as plain data: what stands at each place of a mark's block. Nothing of the program is proved here.
-/
import Derived.Test.YtjnpndfpajjihaaSDecode2
import Derived.Test.YtjnpndfpajjihaaSUnesc
namespace Go.Proofs.Ytjnpndfpajjihaa
open Go.RowKit

/-- The bytes of a text as a list. -/
def bl (s : ByteArray) : List UInt8 := s.data.toList
theorem bl_length (s : ByteArray) : (bl s).length = s.size := rfl
theorem bl_inj {s t : ByteArray} (h : bl s = bl t) : s = t := ByteArray.ext (Array.ext' h)
theorem bl_append (s t : ByteArray) : bl (s ++ t) = bl s ++ bl t := by simp [bl, ByteArray.data_append]
theorem at8_bl (s : ByteArray) (k : Nat) : at8 s k = (((bl s).getD k 0).toNat : Int) := by
  by_cases h : k < s.size
  · rw [← at8_of s k h, List.getD, List.getElem?_eq_getElem (show k < (bl s).length from h)]; rfl
  · have h' : ¬ k < s.data.size := h
    rw [List.getD, List.getElem?_eq_none (by rw [bl_length]; omega)]
    unfold at8
    show ((s.data[k]!).toNat : Int) = _
    rw [getElem!_neg s.data k h']
    rfl
theorem same_at8 {s t : ByteArray} (hz : s.size = t.size) (h : ∀ k, k < s.size → at8 s k = at8 t k) : s = t := by
  apply bl_inj
  apply List.ext_getElem (by rw [bl_length, bl_length]; exact hz)
  intro k h1 h2
  have := h k h1
  rw [at8_bl, at8_bl, List.getD, List.getD, List.getElem?_eq_getElem h1, List.getElem?_eq_getElem h2] at this
  exact UInt8.toNat_inj.1 (Int.ofNat_inj.1 (by simpa using this))

theorem magic_iff (s : ByteArray) (h : 4 ≤ s.size) : isMagic s = true ↔ at8 s 0 = 87 ∧ at8 s 1 = 66 ∧ at8 s 2 = 75 ∧ at8 s 3 = 49 := by
  have e : (s.extract 0 4).toList = (bl s).take 4 := by
    rw [ByteArray.toList_eq]; simp [bl, ByteArray.data_extract]
  rw [isMagic, if_pos h, e, beq_iff_eq, at8_bl, at8_bl, at8_bl, at8_bl]
  have hl : 4 ≤ (bl s).length := h
  match hb : bl s, hl with
  | a :: b :: c :: d :: r, _ =>
    simp only [List.take_succ_cons, List.take_zero, List.cons.injEq, and_true, List.getD_cons_zero, List.getD_cons_succ]
    constructor
    · rintro ⟨rfl, rfl, rfl, rfl⟩; exact ⟨rfl, rfl, rfl, rfl⟩
    · rintro ⟨h1, h2, h3, h4⟩
      exact ⟨UInt8.toNat_inj.1 (by show a.toNat = 87; omega), UInt8.toNat_inj.1 (by show b.toNat = 66; omega), UInt8.toNat_inj.1 (by show c.toNat = 75; omega), UInt8.toNat_inj.1 (by show d.toNat = 49; omega)⟩

/-- What stands ahead, and what stands behind it. -/
def headL (k q : Int) : List UInt8 := [87, 66, 75, 49, UInt8.ofNat k.toNat, UInt8.ofNat (q / 16777216).toNat, UInt8.ofNat (q / 65536 % 256).toNat, UInt8.ofNat (q / 256 % 256).toNat, UInt8.ofNat (q % 256).toNat]
def tagB : List (Int × Bool) → List UInt8
  | [] => []
  | x :: r => UInt8.ofNat x.1.toNat :: (if x.2 then 1 else 0) :: tagB r
def numB (l : List Int) : List UInt8 := l.map fun x => UInt8.ofNat x.toNat
def tailB (m : Mk) : List UInt8 :=
  if m.kind = 1 then [UInt8.ofNat m.pos.toNat] else if m.kind = 2 then UInt8.ofNat m.tags.length :: tagB m.tags else if m.kind = 3 then UInt8.ofNat m.blocks.length :: numB m.blocks else []

theorem bl_one (n : Nat) : bl (oneB n) = [UInt8.ofNat n] := rfl
theorem bl_head (k q : Int) : bl (headT k q) = headL k q := by
  rw [headT, bl_append, bl_append, bl_append, bl_append, bl_append, bl_one, bl_one, bl_one, bl_one, bl_one]; rfl
theorem bl_tags (s : ByteArray) (l : List (Int × Bool)) : bl (tagsT s l) = bl s ++ tagB l := by
  induction l generalizing s with
  | nil => simp [tagsT, tagB]
  | cons x r ih =>
    rw [tagsT, ih, bl_append, bl_append, bl_one, tagB]
    have : bl (if x.2 then (⟨#[1]⟩ : ByteArray) else ⟨#[0]⟩) = [if x.2 then 1 else 0] := by cases x.2 <;> rfl
    rw [this]
    simp
theorem bl_nums (s : ByteArray) (l : List Int) : bl (numsT s l) = bl s ++ numB l := by
  induction l generalizing s with
  | nil => simp [numsT, numB]
  | cons x r ih => rw [numsT, ih, bl_append, bl_one]; simp [numB]
theorem bl_body (m : Mk) : bl (bodyT m) = headL m.kind m.seq ++ tailB m := by
  unfold bodyT tailB
  by_cases h1 : m.kind = 1
  · rw [if_pos h1, if_pos h1, bl_append, bl_head, bl_one]
  · rw [if_neg h1, if_neg h1]
    by_cases h2 : m.kind = 2
    · rw [if_pos h2, if_pos h2, bl_tags, bl_append, bl_head, bl_one]; simp
    · rw [if_neg h2, if_neg h2]
      by_cases h3 : m.kind = 3
      · rw [if_pos h3, if_pos h3, bl_nums, bl_append, bl_head, bl_one]; simp
      · rw [if_neg h3, if_neg h3, bl_head]; simp
theorem tagB_length (l : List (Int × Bool)) : (tagB l).length = 2 * l.length := by
  induction l with
  | nil => rfl
  | cons x r ih => simp only [tagB, List.length_cons, ih]; omega
theorem numB_length (l : List Int) : (numB l).length = l.length := by simp [numB]
theorem tailB_length {m : Mk} (h : goodM m = 0) : (tailB m).length ≤ 21 := by
  obtain ⟨_, _, _, ht, hb, _, _⟩ := goodM_parts h
  unfold tailB
  by_cases h1 : m.kind = 1
  · rw [if_pos h1]; simp
  · rw [if_neg h1]
    by_cases h2 : m.kind = 2
    · rw [if_pos h2, List.length_cons, tagB_length]; have := ht h2; omega
    · rw [if_neg h2]
      by_cases h3 : m.kind = 3
      · rw [if_pos h3, List.length_cons, numB_length]; have := hb h3; omega
      · rw [if_neg h3]; simp
theorem bl_enc {m : Mk} (h : goodM m = 0) : bl (encT m) = headL m.kind m.seq ++ (tailB m ++ List.replicate (23 - (tailB m).length) 0) := by
  have hl := tailB_length h
  have hb : (bl (bodyT m)).length = 9 + (tailB m).length := by rw [bl_body, List.length_append]; rfl
  have hs : (bodyT m).size = 9 + (tailB m).length := hb
  rw [encT, if_pos h]
  show fitL (bodyT m) = _
  rw [fitL, hs]
  show (bl (bodyT m)).take 32 ++ _ = _
  rw [List.take_of_length_le (by omega), bl_body, List.append_assoc, show 32 - (9 + (tailB m).length) = 23 - (tailB m).length from by omega]
theorem enc_size {m : Mk} (h : goodM m = 0) : (encT m).size = 32 := by
  have hl := tailB_length h
  have : (bl (encT m)).length = 32 := by
    rw [bl_enc h, List.length_append, List.length_append, List.length_replicate]
    show 9 + _ = 32
    omega
  exact this
theorem enc_tail {m : Mk} (h : goodM m = 0) (j : Nat) : at8 (encT m) (9 + j) = (((tailB m).getD j 0).toNat : Int) := by
  rw [at8_bl, bl_enc h, List.getD, List.getElem?_append_right (show (headL m.kind m.seq).length ≤ 9 + j from Nat.le_add_right 9 j)]
  rw [show 9 + j - (headL m.kind m.seq).length = j from by show 9 + j - 9 = j; omega]
  by_cases hj : j < (tailB m).length
  · rw [List.getElem?_append_left hj, List.getD]
  · rw [List.getElem?_append_right (by omega), List.getD, List.getElem?_eq_none (l := tailB m) (by omega), List.getElem?_replicate]
    split <;> rfl
theorem ofNat8 {x : Int} (h0 : 0 ≤ x) (h1 : x ≤ 255) : ((UInt8.ofNat x.toNat).toNat : Int) = x := by
  simp
  omega
theorem enc_head {m : Mk} (h : goodM m = 0) : at8 (encT m) 0 = 87 ∧ at8 (encT m) 1 = 66 ∧ at8 (encT m) 2 = 75 ∧ at8 (encT m) 3 = 49 ∧ at8 (encT m) 4 = m.kind ∧ at8 (encT m) 5 = m.seq / 16777216 ∧ at8 (encT m) 6 = m.seq / 65536 % 256 ∧ at8 (encT m) 7 = m.seq / 256 % 256 ∧ at8 (encT m) 8 = m.seq % 256 := by
  obtain ⟨_, _, _, _, _, _, _⟩ := goodM_parts h
  simp only [at8_bl, bl_enc h, headL, List.cons_append, List.getD_cons_zero, List.getD_cons_succ]
  refine ⟨rfl, rfl, rfl, rfl, ofNat8 (by omega) (by omega), ofNat8 (by omega) (by omega), ofNat8 (by omega) (by omega), ofNat8 (by omega) (by omega), ofNat8 (by omega) (by omega)⟩
theorem enc_magic {m : Mk} (h : goodM m = 0) : isMagic (encT m) = true := by
  obtain ⟨h0, h1, h2, h3, _⟩ := enc_head h
  exact (magic_iff _ (by rw [enc_size h]; omega)).2 ⟨h0, h1, h2, h3⟩

theorem tagB_at (l : List (Int × Bool)) (i : Nat) (x : Int × Bool) (h : l[i]? = some x) : (tagB l).getD (2 * i) 0 = UInt8.ofNat x.1.toNat ∧ (tagB l).getD (2 * i + 1) 0 = if x.2 then 1 else 0 := by
  induction l generalizing i with
  | nil => simp at h
  | cons y r ih =>
    cases i with
    | zero => simp at h; subst h; exact ⟨rfl, rfl⟩
    | succ i =>
      have := ih i (by simpa using h)
      rw [show 2 * (i + 1) = 2 * i + 1 + 1 from by omega, tagB]
      simp only [List.getD_cons_succ]
      exact this
theorem numB_at (l : List Int) (i : Nat) (x : Int) (h : l[i]? = some x) : (numB l).getD i 0 = UInt8.ofNat x.toNat := by
  rw [List.getD, numB, List.getElem?_map, h]; rfl

/-- A good mark is read as it was. -/
theorem back {m : Mk} (h : goodM m = 0) : gsM (encT m) = m := by
  obtain ⟨⟨k1, k2⟩, ⟨q1, q2, p1, p2⟩, ⟨f1, f2, f3⟩, ht, hb, hr, hr'⟩ := goodM_parts h
  obtain ⟨_, _, _, _, h4, h5, h6, h7, h8⟩ := enc_head h
  have hq : seqOf (encT m) 4 = m.seq := by
    simp only [seqOf]
    rw [show 0 + 5 = 5 from rfl, show 1 + 5 = 6 from rfl, show 2 + 5 = 7 from rfl, show 3 + 5 = 8 from rfl, h5, h6, h7, h8]
    omega
  have h9 := enc_tail h 0
  rw [show 9 + 0 = 9 from rfl] at h9
  obtain ⟨kind, seq, pos, tags, blocks⟩ := m
  dsimp only at *
  unfold gsM
  rw [hq, h4]
  by_cases e1 : kind = 1
  · rw [if_pos e1, if_neg (by omega), if_neg (by omega), f2 (by omega), f3 (by omega)]
    rw [tailB, if_pos e1] at h9
    rw [f2 (by omega), f3 (by omega)] at h9
    rw [h9]
    show Mk.mk kind seq ((UInt8.ofNat pos.toNat).toNat : Int) [] [] = _
    rw [ofNat8 (by omega) (by omega)]
  · obtain rfl := f1 e1
    rw [if_neg e1]
    by_cases e2 : kind = 2
    · have hl := ht e2
      rw [if_pos e2, if_neg (by omega), f3 (by omega)]
      have hmany : manyOf (encT ⟨kind, seq, 0, tags, blocks⟩) 10 = tags.length := by
        rw [manyOf, h9, tailB, if_neg e1, if_pos e2]
        show min (((UInt8.ofNat tags.length).toNat : Int)).toNat 10 = _
        simp
        omega
      have hg : gTags (encT ⟨kind, seq, 0, tags, blocks⟩) = tags := by
        apply List.ext_getElem?
        intro i
        by_cases hi : i < tags.length
        · rw [gTags_at _ i (by rw [hmany]; exact hi)]
          obtain ⟨x, hx⟩ : ∃ x, tags[i]? = some x := ⟨_, List.getElem?_eq_getElem hi⟩
          have hbx := rises_bd _ _ hr (by omega) x.1 (List.mem_map.2 ⟨x, List.mem_of_getElem? hx, rfl⟩)
          have hT := tagB_at tags i x hx
          have t1 := enc_tail h (1 + 2 * i)
          have t2 := enc_tail h (2 + 2 * i)
          rw [tailB, if_neg e1, if_pos e2] at t1 t2
          rw [show 9 + (1 + 2 * i) = 10 + 2 * i from by omega, show 1 + 2 * i = 2 * i + 1 from by omega] at t1
          rw [show 9 + (2 + 2 * i) = 11 + 2 * i from by omega, show 2 + 2 * i = 2 * i + 1 + 1 from by omega] at t2
          simp only [List.getD_cons_succ] at t1 t2
          rw [hT.1] at t1
          rw [hT.2] at t2
          rw [t1, t2, hx, ofNat8 (by omega) (by omega)]
          obtain ⟨xi, f⟩ := x
          cases f <;> rfl
        · rw [List.getElem?_eq_none (by rw [gTags_length, hmany]; omega), List.getElem?_eq_none (by omega)]
      have hf3 := f3 (by omega)
      subst hf3
      rw [hg]
    · rw [if_neg e2, f2 e2]
      by_cases e3 : kind = 3
      · have hl := hb e3
        rw [if_pos e3]
        have hf2 := f2 e2
        subst hf2
        have hmany : manyOf (encT ⟨kind, seq, 0, [], blocks⟩) 20 = blocks.length := by
          rw [manyOf, h9, tailB, if_neg e1, if_neg e2, if_pos e3]
          show min (((UInt8.ofNat blocks.length).toNat : Int)).toNat 20 = _
          simp
          omega
        have hg : gBlocks (encT ⟨kind, seq, 0, [], blocks⟩) = blocks := by
          apply List.ext_getElem?
          intro i
          by_cases hi : i < blocks.length
          · rw [gBlocks_at _ i (by rw [hmany]; exact hi)]
            obtain ⟨x, hx⟩ : ∃ x, blocks[i]? = some x := ⟨_, List.getElem?_eq_getElem hi⟩
            have hbx := rises_bd _ _ hr' (by omega) x (List.mem_of_getElem? hx)
            have t1 := enc_tail h (1 + i)
            rw [tailB, if_neg e1, if_neg e2, if_pos e3] at t1
            rw [show 9 + (1 + i) = 10 + i from by omega, show 1 + i = i + 1 from by omega] at t1
            simp only [List.getD_cons_succ] at t1
            rw [numB_at blocks i x hx] at t1
            rw [t1, hx, ofNat8 (by omega) (by omega)]
          · rw [List.getElem?_eq_none (by rw [gBlocks_length, hmany]; omega), List.getElem?_eq_none (by omega)]
        rw [hg]
      · rw [if_neg e3, f3 e3]

theorem dec_enc {m : Mk} (h : goodM m = 0) : stampDec (encT m) = (m, 0) := by
  rw [stampDec, back h, if_pos ⟨enc_size h, h, rfl⟩]
theorem dec_magic {s : ByteArray} (h : isMagic s = false) : stampDec s = (zeroM, 1) := by
  refine if_neg fun x => ?_
  have := enc_magic x.2.1
  rw [x.2.2, h] at this
  cases this

theorem magic_take {s : ByteArray} (hm : isMagic s = true) : (bl s).take 4 = [87, 66, 75, 49] := by
  have e : (s.extract 0 4).toList = (bl s).take 4 := by
    rw [ByteArray.toList_eq]; simp [bl, ByteArray.data_extract]
  rw [isMagic, if_pos (magic_four hm), e, beq_iff_eq] at hm
  exact hm
theorem esc_size (s : ByteArray) : (escT s).size = s.size := by
  unfold escT
  cases hm : isMagic s with
  | false => rfl
  | true =>
    have := magic_four hm
    rw [if_pos rfl, ByteArray.size_append, ByteArray.size_extract]
    show 4 + _ = _
    omega
theorem esc_magic (s : ByteArray) : isMagic (escT s) = false := by
  cases hm : isMagic s with
  | false => rw [escT, hm]; exact hm
  | true =>
    have h4 := magic_four hm
    cases he : isMagic (escT s) with
    | false => rfl
    | true =>
      have := ((magic_iff _ (by rw [esc_size]; exact h4)).1 he).1
      rw [escT, if_pos hm, at8_bl, bl_append] at this
      exact absurd this (by show ¬ ((0 : Int) = 87); decide)
theorem unesc_esc (s : ByteArray) : unescT (escT s) (isMagic s) = s := by
  cases hm : isMagic s with
  | false => rw [escT, hm, unescT, if_pos (.inl rfl)]; rfl
  | true =>
    have h4 := magic_four hm
    have hz := esc_size s
    rw [unescT, if_neg (by rintro (h | h); cases h; omega)]
    have hE : bl (escT s) = [0, 0, 0, 0] ++ (bl s).drop 4 := by
      rw [escT, if_pos hm, bl_append]
      congr 1
      simp only [bl, ByteArray.data_extract, Array.toList_extract]
      rw [List.extract_eq_take_drop]
      apply List.take_of_length_le
      rw [List.length_drop]
      exact Nat.le_refl _
    have hX : bl ((escT s).extract 4 (escT s).size) = (bl s).drop 4 := by
      have : bl ((escT s).extract 4 (escT s).size) = (bl (escT s)).drop 4 := by
        simp only [bl, ByteArray.data_extract, Array.toList_extract]
        rw [List.extract_eq_take_drop]
        apply List.take_of_length_le
        rw [List.length_drop]
        exact Nat.le_refl _
      rw [this, hE]
      rfl
    apply bl_inj
    have hM : bl (⟨#[87, 66, 75, 49]⟩ : ByteArray) = [87, 66, 75, 49] := rfl
    rw [bl_append, hX, hM, ← magic_take hm, List.take_append_drop]

end Go.Proofs.Ytjnpndfpajjihaa
