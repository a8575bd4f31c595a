/-
  Marks and their bytes, as plain data: what stands at each place of a mark's block. Nothing of the program is proved here.
  The walk of the document's own DecodeMark: super blocks; and blocks that name too many.
  The walk of the document's own DecodeMark: lists.
  The walk of the document's own DecodeMark: descriptors.
  What the document's DecodeMark answers is what stamp.Decode answers: as plain data; then DecodeMark, whole.
-/
import Derived.Test.YtjnpndfpajjihabSDecode2
import Derived.Test.YtjnpndfpajjihabSEscU
import Derived.Test.YtjnpndfpajjihabMDecode2
import Derived.Test.YtjnpndfpajjihabSGuess
namespace Go.Proofs.Ytjnpndfpajjihab
open Go.RowKit

/-- The bytes of a text as a list. -/
def bl (s : ByteArray) : List UInt8 := s.data.toList
theorem bl_length (s : ByteArray) : (bl s).length = s.size := rfl
theorem bl_inj {s t : ByteArray} (h : bl s = bl t) : s = t := ByteArray.ext (Array.ext' h)
theorem bl_append (s t : ByteArray) : bl (s ++ t) = bl s ++ bl t := by simp [bl, ByteArray.data_append]
theorem at8_bl (s : ByteArray) (k : Nat) : at8 s k = (((bl s).getD k 0).toNat : Int) := by
  by_cases h : k < s.size
  · rw [← at8_of s k h, List.getD, List.getElem?_eq_getElem (show k < (bl s).length from h)]; rfl
  · have h' : ¬ k < s.data.size := h
    rw [List.getD, List.getElem?_eq_none (by rw [bl_length]; omega)]
    unfold at8
    show ((s.data[k]!).toNat : Int) = _
    rw [getElem!_neg s.data k h']
    rfl
theorem same_at8 {s t : ByteArray} (hz : s.size = t.size) (h : ∀ k, k < s.size → at8 s k = at8 t k) : s = t := by
  apply bl_inj
  apply List.ext_getElem (by rw [bl_length, bl_length]; exact hz)
  intro k h1 h2
  have := h k h1
  rw [at8_bl, at8_bl, List.getD, List.getD, List.getElem?_eq_getElem h1, List.getElem?_eq_getElem h2] at this
  exact UInt8.toNat_inj.1 (Int.ofNat_inj.1 (by simpa using this))

theorem magic_iff (s : ByteArray) (h : 4 ≤ s.size) : isMagic s = true ↔ at8 s 0 = 87 ∧ at8 s 1 = 66 ∧ at8 s 2 = 75 ∧ at8 s 3 = 49 := by
  have e : (s.extract 0 4).toList = (bl s).take 4 := by
    rw [ByteArray.toList_eq]; simp [bl, ByteArray.data_extract]
  rw [isMagic, if_pos h, e, beq_iff_eq, at8_bl, at8_bl, at8_bl, at8_bl]
  have hl : 4 ≤ (bl s).length := h
  match hb : bl s, hl with
  | a :: b :: c :: d :: r, _ =>
    simp only [List.take_succ_cons, List.take_zero, List.cons.injEq, and_true, List.getD_cons_zero, List.getD_cons_succ]
    constructor
    · rintro ⟨rfl, rfl, rfl, rfl⟩; exact ⟨rfl, rfl, rfl, rfl⟩
    · rintro ⟨h1, h2, h3, h4⟩
      exact ⟨UInt8.toNat_inj.1 (by show a.toNat = 87; omega), UInt8.toNat_inj.1 (by show b.toNat = 66; omega), UInt8.toNat_inj.1 (by show c.toNat = 75; omega), UInt8.toNat_inj.1 (by show d.toNat = 49; omega)⟩

/-- What stands ahead, and what stands behind it. -/
def headL (k q : Int) : List UInt8 := [87, 66, 75, 49, UInt8.ofNat k.toNat, UInt8.ofNat (q / 16777216).toNat, UInt8.ofNat (q / 65536 % 256).toNat, UInt8.ofNat (q / 256 % 256).toNat, UInt8.ofNat (q % 256).toNat]
def tagB : List (Int × Bool) → List UInt8
  | [] => []
  | x :: r => UInt8.ofNat x.1.toNat :: (if x.2 then 1 else 0) :: tagB r
def numB (l : List Int) : List UInt8 := l.map fun x => UInt8.ofNat x.toNat
def tailB (m : Mk) : List UInt8 :=
  if m.kind = 1 then [UInt8.ofNat m.pos.toNat] else if m.kind = 2 then UInt8.ofNat m.tags.length :: tagB m.tags else if m.kind = 3 then UInt8.ofNat m.blocks.length :: numB m.blocks else []

theorem bl_one (n : Nat) : bl (oneB n) = [UInt8.ofNat n] := rfl
theorem bl_head (k q : Int) : bl (headT k q) = headL k q := by
  rw [headT, bl_append, bl_append, bl_append, bl_append, bl_append, bl_one, bl_one, bl_one, bl_one, bl_one]; rfl
theorem bl_tags (s : ByteArray) (l : List (Int × Bool)) : bl (tagsT s l) = bl s ++ tagB l := by
  induction l generalizing s with
  | nil => simp [tagsT, tagB]
  | cons x r ih =>
    rw [tagsT, ih, bl_append, bl_append, bl_one, tagB]
    have : bl (if x.2 then (⟨#[1]⟩ : ByteArray) else ⟨#[0]⟩) = [if x.2 then 1 else 0] := by cases x.2 <;> rfl
    rw [this]
    simp
theorem bl_nums (s : ByteArray) (l : List Int) : bl (numsT s l) = bl s ++ numB l := by
  induction l generalizing s with
  | nil => simp [numsT, numB]
  | cons x r ih => rw [numsT, ih, bl_append, bl_one]; simp [numB]
theorem bl_body (m : Mk) : bl (bodyT m) = headL m.kind m.seq ++ tailB m := by
  unfold bodyT tailB
  by_cases h1 : m.kind = 1
  · rw [if_pos h1, if_pos h1, bl_append, bl_head, bl_one]
  · rw [if_neg h1, if_neg h1]
    by_cases h2 : m.kind = 2
    · rw [if_pos h2, if_pos h2, bl_tags, bl_append, bl_head, bl_one]; simp
    · rw [if_neg h2, if_neg h2]
      by_cases h3 : m.kind = 3
      · rw [if_pos h3, if_pos h3, bl_nums, bl_append, bl_head, bl_one]; simp
      · rw [if_neg h3, if_neg h3, bl_head]; simp
theorem tagB_length (l : List (Int × Bool)) : (tagB l).length = 2 * l.length := by
  induction l with
  | nil => rfl
  | cons x r ih => simp only [tagB, List.length_cons, ih]; omega
theorem numB_length (l : List Int) : (numB l).length = l.length := by simp [numB]
theorem tailB_length {m : Mk} (h : goodM m = 0) : (tailB m).length ≤ 21 := by
  obtain ⟨_, _, _, ht, hb, _, _⟩ := goodM_parts h
  unfold tailB
  by_cases h1 : m.kind = 1
  · rw [if_pos h1]; simp
  · rw [if_neg h1]
    by_cases h2 : m.kind = 2
    · rw [if_pos h2, List.length_cons, tagB_length]; have := ht h2; omega
    · rw [if_neg h2]
      by_cases h3 : m.kind = 3
      · rw [if_pos h3, List.length_cons, numB_length]; have := hb h3; omega
      · rw [if_neg h3]; simp
theorem bl_enc {m : Mk} (h : goodM m = 0) : bl (encT m) = headL m.kind m.seq ++ (tailB m ++ List.replicate (23 - (tailB m).length) 0) := by
  have hl := tailB_length h
  have hb : (bl (bodyT m)).length = 9 + (tailB m).length := by rw [bl_body, List.length_append]; rfl
  have hs : (bodyT m).size = 9 + (tailB m).length := hb
  rw [encT, if_pos h]
  show fitL (bodyT m) = _
  rw [fitL, hs]
  show (bl (bodyT m)).take 32 ++ _ = _
  rw [List.take_of_length_le (by omega), bl_body, List.append_assoc, show 32 - (9 + (tailB m).length) = 23 - (tailB m).length from by omega]
theorem enc_size {m : Mk} (h : goodM m = 0) : (encT m).size = 32 := by
  have hl := tailB_length h
  have : (bl (encT m)).length = 32 := by
    rw [bl_enc h, List.length_append, List.length_append, List.length_replicate]
    show 9 + _ = 32
    omega
  exact this
theorem enc_tail {m : Mk} (h : goodM m = 0) (j : Nat) : at8 (encT m) (9 + j) = (((tailB m).getD j 0).toNat : Int) := by
  rw [at8_bl, bl_enc h, List.getD, List.getElem?_append_right (show (headL m.kind m.seq).length ≤ 9 + j from Nat.le_add_right 9 j)]
  rw [show 9 + j - (headL m.kind m.seq).length = j from by show 9 + j - 9 = j; omega]
  by_cases hj : j < (tailB m).length
  · rw [List.getElem?_append_left hj, List.getD]
  · rw [List.getElem?_append_right (by omega), List.getD, List.getElem?_eq_none (l := tailB m) (by omega), List.getElem?_replicate]
    split <;> rfl
theorem ofNat8 {x : Int} (h0 : 0 ≤ x) (h1 : x ≤ 255) : ((UInt8.ofNat x.toNat).toNat : Int) = x := by
  simp
  omega
theorem enc_head {m : Mk} (h : goodM m = 0) : at8 (encT m) 0 = 87 ∧ at8 (encT m) 1 = 66 ∧ at8 (encT m) 2 = 75 ∧ at8 (encT m) 3 = 49 ∧ at8 (encT m) 4 = m.kind ∧ at8 (encT m) 5 = m.seq / 16777216 ∧ at8 (encT m) 6 = m.seq / 65536 % 256 ∧ at8 (encT m) 7 = m.seq / 256 % 256 ∧ at8 (encT m) 8 = m.seq % 256 := by
  obtain ⟨_, _, _, _, _, _, _⟩ := goodM_parts h
  simp only [at8_bl, bl_enc h, headL, List.cons_append, List.getD_cons_zero, List.getD_cons_succ]
  refine ⟨rfl, rfl, rfl, rfl, ofNat8 (by omega) (by omega), ofNat8 (by omega) (by omega), ofNat8 (by omega) (by omega), ofNat8 (by omega) (by omega), ofNat8 (by omega) (by omega)⟩
theorem enc_magic {m : Mk} (h : goodM m = 0) : isMagic (encT m) = true := by
  obtain ⟨h0, h1, h2, h3, _⟩ := enc_head h
  exact (magic_iff _ (by rw [enc_size h]; omega)).2 ⟨h0, h1, h2, h3⟩

theorem tagB_at (l : List (Int × Bool)) (i : Nat) (x : Int × Bool) (h : l[i]? = some x) : (tagB l).getD (2 * i) 0 = UInt8.ofNat x.1.toNat ∧ (tagB l).getD (2 * i + 1) 0 = if x.2 then 1 else 0 := by
  induction l generalizing i with
  | nil => simp at h
  | cons y r ih =>
    cases i with
    | zero => simp at h; subst h; exact ⟨rfl, rfl⟩
    | succ i =>
      have := ih i (by simpa using h)
      rw [show 2 * (i + 1) = 2 * i + 1 + 1 from by omega, tagB]
      simp only [List.getD_cons_succ]
      exact this
theorem numB_at (l : List Int) (i : Nat) (x : Int) (h : l[i]? = some x) : (numB l).getD i 0 = UInt8.ofNat x.toNat := by
  rw [List.getD, numB, List.getElem?_map, h]; rfl

/-- A good mark is read as it was. -/
theorem back {m : Mk} (h : goodM m = 0) : gsM (encT m) = m := by
  obtain ⟨⟨k1, k2⟩, ⟨q1, q2, p1, p2⟩, ⟨f1, f2, f3⟩, ht, hb, hr, hr'⟩ := goodM_parts h
  obtain ⟨_, _, _, _, h4, h5, h6, h7, h8⟩ := enc_head h
  have hq : seqOf (encT m) 4 = m.seq := by
    simp only [seqOf]
    rw [show 0 + 5 = 5 from rfl, show 1 + 5 = 6 from rfl, show 2 + 5 = 7 from rfl, show 3 + 5 = 8 from rfl, h5, h6, h7, h8]
    omega
  have h9 := enc_tail h 0
  rw [show 9 + 0 = 9 from rfl] at h9
  obtain ⟨kind, seq, pos, tags, blocks⟩ := m
  dsimp only at *
  unfold gsM
  rw [hq, h4]
  by_cases e1 : kind = 1
  · rw [if_pos e1, if_neg (by omega), if_neg (by omega), f2 (by omega), f3 (by omega)]
    rw [tailB, if_pos e1] at h9
    rw [f2 (by omega), f3 (by omega)] at h9
    rw [h9]
    show Mk.mk kind seq ((UInt8.ofNat pos.toNat).toNat : Int) [] [] = _
    rw [ofNat8 (by omega) (by omega)]
  · obtain rfl := f1 e1
    rw [if_neg e1]
    by_cases e2 : kind = 2
    · have hl := ht e2
      rw [if_pos e2, if_neg (by omega), f3 (by omega)]
      have hmany : manyOf (encT ⟨kind, seq, 0, tags, blocks⟩) 10 = tags.length := by
        rw [manyOf, h9, tailB, if_neg e1, if_pos e2]
        show min (((UInt8.ofNat tags.length).toNat : Int)).toNat 10 = _
        simp
        omega
      have hg : gTags (encT ⟨kind, seq, 0, tags, blocks⟩) = tags := by
        apply List.ext_getElem?
        intro i
        by_cases hi : i < tags.length
        · rw [gTags_at _ i (by rw [hmany]; exact hi)]
          obtain ⟨x, hx⟩ : ∃ x, tags[i]? = some x := ⟨_, List.getElem?_eq_getElem hi⟩
          have hbx := rises_bd _ _ hr (by omega) x.1 (List.mem_map.2 ⟨x, List.mem_of_getElem? hx, rfl⟩)
          have hT := tagB_at tags i x hx
          have t1 := enc_tail h (1 + 2 * i)
          have t2 := enc_tail h (2 + 2 * i)
          rw [tailB, if_neg e1, if_pos e2] at t1 t2
          rw [show 9 + (1 + 2 * i) = 10 + 2 * i from by omega, show 1 + 2 * i = 2 * i + 1 from by omega] at t1
          rw [show 9 + (2 + 2 * i) = 11 + 2 * i from by omega, show 2 + 2 * i = 2 * i + 1 + 1 from by omega] at t2
          simp only [List.getD_cons_succ] at t1 t2
          rw [hT.1] at t1
          rw [hT.2] at t2
          rw [t1, t2, hx, ofNat8 (by omega) (by omega)]
          obtain ⟨xi, f⟩ := x
          cases f <;> rfl
        · rw [List.getElem?_eq_none (by rw [gTags_length, hmany]; omega), List.getElem?_eq_none (by omega)]
      have hf3 := f3 (by omega)
      subst hf3
      rw [hg]
    · rw [if_neg e2, f2 e2]
      by_cases e3 : kind = 3
      · have hl := hb e3
        rw [if_pos e3]
        have hf2 := f2 e2
        subst hf2
        have hmany : manyOf (encT ⟨kind, seq, 0, [], blocks⟩) 20 = blocks.length := by
          rw [manyOf, h9, tailB, if_neg e1, if_neg e2, if_pos e3]
          show min (((UInt8.ofNat blocks.length).toNat : Int)).toNat 20 = _
          simp
          omega
        have hg : gBlocks (encT ⟨kind, seq, 0, [], blocks⟩) = blocks := by
          apply List.ext_getElem?
          intro i
          by_cases hi : i < blocks.length
          · rw [gBlocks_at _ i (by rw [hmany]; exact hi)]
            obtain ⟨x, hx⟩ : ∃ x, blocks[i]? = some x := ⟨_, List.getElem?_eq_getElem hi⟩
            have hbx := rises_bd _ _ hr' (by omega) x (List.mem_of_getElem? hx)
            have t1 := enc_tail h (1 + i)
            rw [tailB, if_neg e1, if_neg e2, if_pos e3] at t1
            rw [show 9 + (1 + i) = 10 + i from by omega, show 1 + i = i + 1 from by omega] at t1
            simp only [List.getD_cons_succ] at t1
            rw [numB_at blocks i x hx] at t1
            rw [t1, hx, ofNat8 (by omega) (by omega)]
          · rw [List.getElem?_eq_none (by rw [gBlocks_length, hmany]; omega), List.getElem?_eq_none (by omega)]
        rw [hg]
      · rw [if_neg e3, f3 e3]

theorem dec_enc {m : Mk} (h : goodM m = 0) : stampDec (encT m) = (m, 0) := by
  rw [stampDec, back h, if_pos ⟨enc_size h, h, rfl⟩]
theorem dec_magic {s : ByteArray} (h : isMagic s = false) : stampDec s = (zeroM, 1) := by
  refine if_neg fun x => ?_
  have := enc_magic x.2.1
  rw [x.2.2, h] at this
  cases this

theorem magic_take {s : ByteArray} (hm : isMagic s = true) : (bl s).take 4 = [87, 66, 75, 49] := by
  have e : (s.extract 0 4).toList = (bl s).take 4 := by
    rw [ByteArray.toList_eq]; simp [bl, ByteArray.data_extract]
  rw [isMagic, if_pos (magic_four hm), e, beq_iff_eq] at hm
  exact hm
theorem esc_size (s : ByteArray) : (escT s).size = s.size := by
  unfold escT
  cases hm : isMagic s with
  | false => rfl
  | true =>
    have := magic_four hm
    rw [if_pos rfl, ByteArray.size_append, ByteArray.size_extract]
    show 4 + _ = _
    omega
theorem esc_magic (s : ByteArray) : isMagic (escT s) = false := by
  cases hm : isMagic s with
  | false => rw [escT, hm]; exact hm
  | true =>
    have h4 := magic_four hm
    cases he : isMagic (escT s) with
    | false => rfl
    | true =>
      have := ((magic_iff _ (by rw [esc_size]; exact h4)).1 he).1
      rw [escT, if_pos hm, at8_bl, bl_append] at this
      exact absurd this (by show ¬ ((0 : Int) = 87); decide)
theorem unesc_esc (s : ByteArray) : unescT (escT s) (isMagic s) = s := by
  cases hm : isMagic s with
  | false => rw [escT, hm, unescT, if_pos (.inl rfl)]; rfl
  | true =>
    have h4 := magic_four hm
    have hz := esc_size s
    rw [unescT, if_neg (by rintro (h | h); cases h; omega)]
    have hE : bl (escT s) = [0, 0, 0, 0] ++ (bl s).drop 4 := by
      rw [escT, if_pos hm, bl_append]
      congr 1
      simp only [bl, ByteArray.data_extract, Array.toList_extract]
      rw [List.extract_eq_take_drop]
      apply List.take_of_length_le
      rw [List.length_drop]
      exact Nat.le_refl _
    have hX : bl ((escT s).extract 4 (escT s).size) = (bl s).drop 4 := by
      have : bl ((escT s).extract 4 (escT s).size) = (bl (escT s)).drop 4 := by
        simp only [bl, ByteArray.data_extract, Array.toList_extract]
        rw [List.extract_eq_take_drop]
        apply List.take_of_length_le
        rw [List.length_drop]
        exact Nat.le_refl _
      rw [this, hE]
      rfl
    apply bl_inj
    have hM : bl (⟨#[87, 66, 75, 49]⟩ : ByteArray) = [87, 66, 75, 49] := rfl
    rw [bl_append, hX, hM, ← magic_take hm, List.take_append_drop]

end Go.Proofs.Ytjnpndfpajjihab

namespace Go.Proofs.Ytjnpndfpajjihab
open Go.RowKit

theorem noughts_at (s : ByteArray) (n : Nat) (x : Int) (w : World) (hx : x = (n : Int)) (hs : s.size ≤ 32) (hn : n ≤ 100) :
    Calls Try.prog 150 #[.string s, .int .i64 x] w fun e w' => e = .returned (.bool (zeroFrom s n)) ∧ w = w' := by
  subst hx
  exact noughts_any s n w hs hn

set_option maxHeartbeats 4000000 in
set_option maxRecDepth 100000 in
theorem decode_one (s : ByteArray) (w : World) (h : s.size = 32) (hm : isMagic s = true) (hk : at8 s 4 = 1) :
    Calls Try.prog 98 #[.string s] w fun e w' => ∃ v2, e = .returned (.tuple #[v2, .int .i64 (decOf ⟨1, seqOf s 4, at8 s 9, [], []⟩ (zeroFrom s 10)).2]) ∧ IsMkN w' w.heap.size v2 (decOf ⟨1, seqOf s 4, at8 s 9, [], []⟩ (zeroFrom s 10)).1 ∧ Below w.heap.size w w' := by
  have hm' : ((s.extract 0 4).toList == [87, 66, 75, 49]) = true := by rw [isMagic, if_pos (by omega)] at hm; exact hm
  clear hm
  have HK := hide hk
  clear hk
  have hB : ∀ k (hk : k < s.size), ((s[k]'hk).toNat : Int) = at8 s k := at8_of s
  have hW := wrap_at8 s
  have hW' : ∀ k, IntKind.i64.wrap (at8 s k) = at8 s k := fun k => by have := at8_in s k; rw [IntKind.wrap_i64]; omega
  go_enter Try.func98, Try.ntmps98
  go_wp2
  go_loopw [6] (fun i wr => ∃ k : Nat, k ≤ 4 ∧ i = .int .i64 ((k + 5 : Nat) : Int) ∧ wr.heap[w.heap.size + 1]? = some (.cells #[.int .i64 (at8 s 4), .int .i64 (seqOf s k), .int .i64 0, .slice none 0 0, .slice none 0 0] 130 (0, 0)) ∧
    Below (w.heap.size + 1) (w.alloc (Obj.cells #[.int .i64 0, .int .i64 0, .int .i64 0, .slice none 0 0, .slice none 0 0] 130)) wr) (fun i _ => 9 - (intOf i).toNat)
  case atStart =>
    refine ⟨0, Nat.zero_le _, rfl, ?_, (Below.refl _ _).alloc (by simp) _⟩
    exact new2 w _ _
  case round =>
    obtain ⟨k, hk, rfl, hbox, hbr⟩ := hrel
    have HBOX := hide hbox
    obtain ⟨⟨x0, x1, x2, x3, x4⟩, e0, e1, e2, e3, e4⟩ := box5 hbox
    clear hbox
    have hsr : w.heap.size + 1 < wr.heap.size := (Array.getElem?_eq_some_iff.1 HBOX.out).1
    have hsr' : w.heap.size < wr.heap.size := by omega
    by_cases hlt : k < 4
    · obtain ⟨q, hq⟩ : ∃ q, q = seqOf s k := ⟨_, rfl⟩
      have hq1 := seqOf_lt s k (by omega)
      have hq2 : seqOf s (k + 1) = 256 * seqOf s k + at8 s (k + 5) := rfl
      have hq3 := seqOf_lt s (k + 1) (by omega)
      rw [hq2] at hq3
      rw [← hq] at x1 hq1 hq3
      have HQ := hide hq
      clear hq hq2
      have u1 : IntKind.i64.wrap (256 * q) = 256 * q := by rw [IntKind.wrap_i64]; omega
      have u2 : IntKind.i64.wrap (256 * q + at8 s (k + 5)) = 256 * q + at8 s (k + 5) := by rw [IntKind.wrap_i64]; omega
      have hlt' : (k : Int) + 5 < 9 := by omega
      go_wp2
      go_region
      all_goals
        go_wp2
        go_roundw
        case rel =>
          refine ⟨k + 1, by omega, by go_num, ?_, (hbr.setCell (by simp) _).drew⟩
          refine (heap_setCell_same wr _ _ _ _ _ HBOX.out).trans ?_
          rw [seqOf, ← HQ.out]; rfl
        case measure => simp [intOf]; omega
    · obtain rfl : k = 4 := by omega
      obtain ⟨⟨y0, y1, y2, y3, y4⟩, f0, f1, f2, f3, f4⟩ := box5 (keepR hbr)
      have HB := hide (bthen (below1 _ _) (hbr.mono (by simp)))
      clear hlt hk
      have hk := HK.out
      have HBK := HBOX.out
      rw [hk] at x0 HBK
      replace HBOX := hide HBK
      clear HBK
      rw [show (((4 : Nat) + 5 : Nat) : Int) = 9 from rfl, hk]
      obtain ⟨wq, hwq⟩ : ∃ wq, wq = wr.setCell ⟨w.heap.size + 1, 2, none⟩ (.int .i64 (at8 s 9)) := ⟨_, rfl⟩
      have hboxq : wq.heap[w.heap.size + 1]? = some (.cells #[.int .i64 1, .int .i64 (seqOf s 4), .int .i64 (at8 s 9), .slice none 0 0, .slice none 0 0] 130 (0, 0)) := by
        rw [hwq]; exact (heap_setCell_same wr _ _ _ _ _ HBOX.out).trans rfl
      have hbq : Below (w.heap.size + 1) (w.alloc (Obj.cells #[.int .i64 0, .int .i64 0, .int .i64 0, .slice none 0 0, .slice none 0 0] 130)) wq := by rw [hwq]; exact hbr.setCell (by simp) _
      have HBQ := hide hboxq
      have HBB := hide hbq
      clear hboxq hbq hbr
      go_wp2_with fail
      rw [← hwq]
      clear hwq x0 x1 x2 x3 x4 e0 e1 e2 e3 e4 y0 y1 y2 y3 y4 f0 f1 f2 f3 f4 HB HBOX
      obtain ⟨⟨x0, x1, x2, x3, x4⟩, _⟩ := box5 HBQ.out
      obtain ⟨⟨y0, y1, y2, y3, y4⟩, f0, f1, f2, f3, f4⟩ := box5 (keepR HBB.out)
      have hsq : w.heap.size + 1 < wq.heap.size := (Array.getElem?_eq_some_iff.1 HBQ.out).1
      have HB := hide (bthen (below1 _ _) (HBB.out.mono (by simp)))
      refine (goodMark_any _ ⟨1, seqOf s 4, at8 s 9, [], []⟩ _ ⟨none, 0, none, 0, rfl, .inl rfl, .inl rfl, Nat.zero_le _, Nat.zero_le _⟩ (by simp)).mono ?_
      rintro e w1 ⟨rfl, hb1⟩
      have hs1 : w.heap.size + 1 < w1.heap.size := by have := hb1.size; omega
      have hs1' : w.heap.size < w1.heap.size := by omega
      replace x0 := cellKeep hb1 (by omega) x0
      replace x1 := cellKeep hb1 (by omega) x1
      replace x2 := cellKeep hb1 (by omega) x2
      replace x3 := cellKeep hb1 (by omega) x3
      replace x4 := cellKeep hb1 (by omega) x4
      replace y0 := cellKeep hb1 (by omega) y0
      replace y1 := cellKeep hb1 (by omega) y1
      replace y2 := cellKeep hb1 (by omega) y2
      replace y3 := cellKeep hb1 (by omega) y3
      replace y4 := cellKeep hb1 (by omega) y4
      replace f0 := frozKeep hb1 (by omega) f0
      replace f1 := frozKeep hb1 (by omega) f1
      replace f2 := frozKeep hb1 (by omega) f2
      replace f3 := frozKeep hb1 (by omega) f3
      replace f4 := frozKeep hb1 (by omega) f4
      replace HB := hide (bthen HB.out hb1)
      clear hb1
      by_cases hg : goodM ⟨1, seqOf s 4, at8 s 9, [], []⟩ = 0
      · go_wp2_with fail
        refine (noughts_at s (10) _ _ (by omega) (by omega) (by omega)).mono ?_
        rintro e w2 ⟨rfl, rfl⟩
        cases hz : zeroFrom s (10) with
        | true =>
          have hd := decOf_good hg hz
          have HD := hide hd
          clear hd hz
          go_wp2
          refine bodyPost_ret (v := .tuple #[.agg #[.int .i64 1, .int .i64 (seqOf s 4), .int .i64 (at8 s 9), .slice none 0 0, .slice none 0 0], .int .i64 0]) (by simp [results, Try.results98, go_sem, y0, y1, y2, y3, y4]) rfl ⟨_, by rw [HD.out], ?_, ?_⟩
          · rw [HD.out]
            exact ⟨none, 0, none, 0, rfl, .inl rfl, .inl rfl, Nat.zero_le _, Nat.zero_le _, fun _ _ h => (by cases h), fun _ _ h => (by cases h)⟩
          · repeat refine Below.setCell ?_ (by simp) _
            exact HB.out
        | false =>
          have hd := decOf_behind ⟨1, seqOf s 4, at8 s 9, [], []⟩ hz
          have HD := hide hd
          clear hd hz
          go_wp2_with fail
          refine (bad_any _).mono ?_
          rintro e w9 ⟨rfl, hb9⟩
          have hs9 : w.heap.size < w9.heap.size := by have := hb9.size; omega
          replace y0 := cellKeep hb9 (by omega) y0
          replace y1 := cellKeep hb9 (by omega) y1
          replace y2 := cellKeep hb9 (by omega) y2
          replace y3 := cellKeep hb9 (by omega) y3
          replace y4 := cellKeep hb9 (by omega) y4
          replace f0 := frozKeep hb9 (by omega) f0
          replace f1 := frozKeep hb9 (by omega) f1
          replace f2 := frozKeep hb9 (by omega) f2
          replace f3 := frozKeep hb9 (by omega) f3
          replace f4 := frozKeep hb9 (by omega) f4
          have HB9 := hide (bthen HB.out hb9)
          clear hb9
          go_wp2
          refine bodyPost_ret (v := .tuple #[.agg #[.int .i64 0, .int .i64 0, .int .i64 0, .slice none 0 0, .slice none 0 0], .int .i64 1]) (by simp [results, Try.results98, go_sem, y0, y1, y2, y3, y4]) rfl ⟨_, by rw [HD.out], by rw [HD.out]; exact isZeroN _ _, ?_⟩
          repeat refine Below.setCell ?_ (by simp) _
          exact HB9.out
      · have hg' : (goodM ⟨1, seqOf s 4, at8 s 9, [], []⟩ != 0) = true := by simpa using hg
        have hd := decOf_bad (m := ⟨1, seqOf s 4, at8 s 9, [], []⟩) (zeroFrom s (10)) hg
        have HD := hide hd
        clear hd
        go_wp2_with fail
        refine (bad_any _).mono ?_
        rintro e w9 ⟨rfl, hb9⟩
        have hs9 : w.heap.size < w9.heap.size := by have := hb9.size; omega
        replace y0 := cellKeep hb9 (by omega) y0
        replace y1 := cellKeep hb9 (by omega) y1
        replace y2 := cellKeep hb9 (by omega) y2
        replace y3 := cellKeep hb9 (by omega) y3
        replace y4 := cellKeep hb9 (by omega) y4
        replace f0 := frozKeep hb9 (by omega) f0
        replace f1 := frozKeep hb9 (by omega) f1
        replace f2 := frozKeep hb9 (by omega) f2
        replace f3 := frozKeep hb9 (by omega) f3
        replace f4 := frozKeep hb9 (by omega) f4
        have HB9 := hide (bthen HB.out hb9)
        clear hb9
        go_wp2
        refine bodyPost_ret (v := .tuple #[.agg #[.int .i64 0, .int .i64 0, .int .i64 0, .slice none 0 0, .slice none 0 0], .int .i64 1]) (by simp [results, Try.results98, go_sem, y0, y1, y2, y3, y4]) rfl ⟨_, by rw [HD.out], by rw [HD.out]; exact isZeroN _ _, ?_⟩
        repeat refine Below.setCell ?_ (by simp) _
        exact HB9.out

set_option maxHeartbeats 4000000 in
set_option maxRecDepth 100000 in
theorem decode_tags_many (s : ByteArray) (w : World) (h : s.size = 32) (hm : isMagic s = true) (hk : at8 s 4 = 2) (h9 : 10 < at8 s 9) :
    Calls Try.prog 98 #[.string s] w fun e w' => ∃ v2, e = .returned (.tuple #[v2, .int .i64 1]) ∧ IsMkN w' w.heap.size v2 zeroM ∧ Below w.heap.size w w' := by
  have hm' : ((s.extract 0 4).toList == [87, 66, 75, 49]) = true := by rw [isMagic, if_pos (by omega)] at hm; exact hm
  clear hm
  have HK := hide hk
  clear hk
  have hB : ∀ k (hk : k < s.size), ((s[k]'hk).toNat : Int) = at8 s k := at8_of s
  have hW := wrap_at8 s
  have hW' : ∀ k, IntKind.i64.wrap (at8 s k) = at8 s k := fun k => by have := at8_in s k; rw [IntKind.wrap_i64]; omega
  go_enter Try.func98, Try.ntmps98
  go_wp2
  go_loopw [6] (fun i wr => ∃ k : Nat, k ≤ 4 ∧ i = .int .i64 ((k + 5 : Nat) : Int) ∧ wr.heap[w.heap.size + 1]? = some (.cells #[.int .i64 (at8 s 4), .int .i64 (seqOf s k), .int .i64 0, .slice none 0 0, .slice none 0 0] 130 (0, 0)) ∧
    Below (w.heap.size + 1) (w.alloc (Obj.cells #[.int .i64 0, .int .i64 0, .int .i64 0, .slice none 0 0, .slice none 0 0] 130)) wr) (fun i _ => 9 - (intOf i).toNat)
  case atStart =>
    refine ⟨0, Nat.zero_le _, rfl, ?_, (Below.refl _ _).alloc (by simp) _⟩
    exact new2 w _ _
  case round =>
    obtain ⟨k, hk, rfl, hbox, hbr⟩ := hrel
    have HBOX := hide hbox
    obtain ⟨⟨x0, x1, x2, x3, x4⟩, e0, e1, e2, e3, e4⟩ := box5 hbox
    clear hbox
    have hsr : w.heap.size + 1 < wr.heap.size := (Array.getElem?_eq_some_iff.1 HBOX.out).1
    have hsr' : w.heap.size < wr.heap.size := by omega
    by_cases hlt : k < 4
    · obtain ⟨q, hq⟩ : ∃ q, q = seqOf s k := ⟨_, rfl⟩
      have hq1 := seqOf_lt s k (by omega)
      have hq2 : seqOf s (k + 1) = 256 * seqOf s k + at8 s (k + 5) := rfl
      have hq3 := seqOf_lt s (k + 1) (by omega)
      rw [hq2] at hq3
      rw [← hq] at x1 hq1 hq3
      have HQ := hide hq
      clear hq hq2
      have u1 : IntKind.i64.wrap (256 * q) = 256 * q := by rw [IntKind.wrap_i64]; omega
      have u2 : IntKind.i64.wrap (256 * q + at8 s (k + 5)) = 256 * q + at8 s (k + 5) := by rw [IntKind.wrap_i64]; omega
      have hlt' : (k : Int) + 5 < 9 := by omega
      go_wp2
      go_region
      all_goals
        go_wp2
        go_roundw
        case rel =>
          refine ⟨k + 1, by omega, by go_num, ?_, (hbr.setCell (by simp) _).drew⟩
          refine (heap_setCell_same wr _ _ _ _ _ HBOX.out).trans ?_
          rw [seqOf, ← HQ.out]; rfl
        case measure => simp [intOf]; omega
    · obtain rfl : k = 4 := by omega
      obtain ⟨⟨y0, y1, y2, y3, y4⟩, f0, f1, f2, f3, f4⟩ := box5 (keepR hbr)
      have HB := hide (bthen (below1 _ _) (hbr.mono (by simp)))
      clear hlt hk
      have hk := HK.out
      have HBK := HBOX.out
      rw [hk] at x0 HBK
      replace HBOX := hide HBK
      clear HBK
      rw [show (((4 : Nat) + 5 : Nat) : Int) = 9 from rfl, hk]
      clear hbr
      go_wp2_with fail
      refine (bad_any _).mono ?_
      rintro e w9 ⟨rfl, hb9⟩
      have hs9 : w.heap.size < w9.heap.size := by have := hb9.size; omega
      replace y0 := cellKeep hb9 (by omega) y0
      replace y1 := cellKeep hb9 (by omega) y1
      replace y2 := cellKeep hb9 (by omega) y2
      replace y3 := cellKeep hb9 (by omega) y3
      replace y4 := cellKeep hb9 (by omega) y4
      replace f0 := frozKeep hb9 (by omega) f0
      replace f1 := frozKeep hb9 (by omega) f1
      replace f2 := frozKeep hb9 (by omega) f2
      replace f3 := frozKeep hb9 (by omega) f3
      replace f4 := frozKeep hb9 (by omega) f4
      have HB9 := hide (bthen HB.out hb9)
      clear hb9
      go_wp2
      refine bodyPost_ret (v := .tuple #[.agg #[.int .i64 0, .int .i64 0, .int .i64 0, .slice none 0 0, .slice none 0 0], .int .i64 1]) (by simp [results, Try.results98, go_sem, y0, y1, y2, y3, y4]) rfl ⟨_, rfl, isZeroN _ _, ?_⟩
      repeat refine Below.setCell ?_ (by simp) _
      exact HB9.out

set_option maxHeartbeats 4000000 in
set_option maxRecDepth 100000 in
theorem decode_list_many (s : ByteArray) (w : World) (h : s.size = 32) (hm : isMagic s = true) (hk : at8 s 4 = 3) (h9 : 20 < at8 s 9) :
    Calls Try.prog 98 #[.string s] w fun e w' => ∃ v2, e = .returned (.tuple #[v2, .int .i64 1]) ∧ IsMkN w' w.heap.size v2 zeroM ∧ Below w.heap.size w w' := by
  have hm' : ((s.extract 0 4).toList == [87, 66, 75, 49]) = true := by rw [isMagic, if_pos (by omega)] at hm; exact hm
  clear hm
  have HK := hide hk
  clear hk
  have hB : ∀ k (hk : k < s.size), ((s[k]'hk).toNat : Int) = at8 s k := at8_of s
  have hW := wrap_at8 s
  have hW' : ∀ k, IntKind.i64.wrap (at8 s k) = at8 s k := fun k => by have := at8_in s k; rw [IntKind.wrap_i64]; omega
  go_enter Try.func98, Try.ntmps98
  go_wp2
  go_loopw [6] (fun i wr => ∃ k : Nat, k ≤ 4 ∧ i = .int .i64 ((k + 5 : Nat) : Int) ∧ wr.heap[w.heap.size + 1]? = some (.cells #[.int .i64 (at8 s 4), .int .i64 (seqOf s k), .int .i64 0, .slice none 0 0, .slice none 0 0] 130 (0, 0)) ∧
    Below (w.heap.size + 1) (w.alloc (Obj.cells #[.int .i64 0, .int .i64 0, .int .i64 0, .slice none 0 0, .slice none 0 0] 130)) wr) (fun i _ => 9 - (intOf i).toNat)
  case atStart =>
    refine ⟨0, Nat.zero_le _, rfl, ?_, (Below.refl _ _).alloc (by simp) _⟩
    exact new2 w _ _
  case round =>
    obtain ⟨k, hk, rfl, hbox, hbr⟩ := hrel
    have HBOX := hide hbox
    obtain ⟨⟨x0, x1, x2, x3, x4⟩, e0, e1, e2, e3, e4⟩ := box5 hbox
    clear hbox
    have hsr : w.heap.size + 1 < wr.heap.size := (Array.getElem?_eq_some_iff.1 HBOX.out).1
    have hsr' : w.heap.size < wr.heap.size := by omega
    by_cases hlt : k < 4
    · obtain ⟨q, hq⟩ : ∃ q, q = seqOf s k := ⟨_, rfl⟩
      have hq1 := seqOf_lt s k (by omega)
      have hq2 : seqOf s (k + 1) = 256 * seqOf s k + at8 s (k + 5) := rfl
      have hq3 := seqOf_lt s (k + 1) (by omega)
      rw [hq2] at hq3
      rw [← hq] at x1 hq1 hq3
      have HQ := hide hq
      clear hq hq2
      have u1 : IntKind.i64.wrap (256 * q) = 256 * q := by rw [IntKind.wrap_i64]; omega
      have u2 : IntKind.i64.wrap (256 * q + at8 s (k + 5)) = 256 * q + at8 s (k + 5) := by rw [IntKind.wrap_i64]; omega
      have hlt' : (k : Int) + 5 < 9 := by omega
      go_wp2
      go_region
      all_goals
        go_wp2
        go_roundw
        case rel =>
          refine ⟨k + 1, by omega, by go_num, ?_, (hbr.setCell (by simp) _).drew⟩
          refine (heap_setCell_same wr _ _ _ _ _ HBOX.out).trans ?_
          rw [seqOf, ← HQ.out]; rfl
        case measure => simp [intOf]; omega
    · obtain rfl : k = 4 := by omega
      obtain ⟨⟨y0, y1, y2, y3, y4⟩, f0, f1, f2, f3, f4⟩ := box5 (keepR hbr)
      have HB := hide (bthen (below1 _ _) (hbr.mono (by simp)))
      clear hlt hk
      have hk := HK.out
      have HBK := HBOX.out
      rw [hk] at x0 HBK
      replace HBOX := hide HBK
      clear HBK
      rw [show (((4 : Nat) + 5 : Nat) : Int) = 9 from rfl, hk]
      clear hbr
      go_wp2_with fail
      refine (bad_any _).mono ?_
      rintro e w9 ⟨rfl, hb9⟩
      have hs9 : w.heap.size < w9.heap.size := by have := hb9.size; omega
      replace y0 := cellKeep hb9 (by omega) y0
      replace y1 := cellKeep hb9 (by omega) y1
      replace y2 := cellKeep hb9 (by omega) y2
      replace y3 := cellKeep hb9 (by omega) y3
      replace y4 := cellKeep hb9 (by omega) y4
      replace f0 := frozKeep hb9 (by omega) f0
      replace f1 := frozKeep hb9 (by omega) f1
      replace f2 := frozKeep hb9 (by omega) f2
      replace f3 := frozKeep hb9 (by omega) f3
      replace f4 := frozKeep hb9 (by omega) f4
      have HB9 := hide (bthen HB.out hb9)
      clear hb9
      go_wp2
      refine bodyPost_ret (v := .tuple #[.agg #[.int .i64 0, .int .i64 0, .int .i64 0, .slice none 0 0, .slice none 0 0], .int .i64 1]) (by simp [results, Try.results98, go_sem, y0, y1, y2, y3, y4]) rfl ⟨_, rfl, isZeroN _ _, ?_⟩
      repeat refine Below.setCell ?_ (by simp) _
      exact HB9.out


end Go.Proofs.Ytjnpndfpajjihab

namespace Go.Proofs.Ytjnpndfpajjihab
open Go.RowKit

/-- append of one number, of one tag onto a row of the call's own, as one step of a region that draws its order. -/
theorem step_appI {ops : Array Oper} {o : Oper} {a : Act} {w : World} {K : Act → World → Prop} {Q : Exit → Act → World → Prop} {E : Prop} (hgd : o.guard = none) (s x : Operand)
    (ho : o.op = .call { callee := .builtin .append, args := #[s, x], argTypes := #[25, 25] })
    (base : Nat) (v : Value) (n : Nat) (ss : List Int) (hs : a.eval s = v) (hown : w.ownsRow base 3 1 v n (cellsI ss)) (ad : Addr) (t : Int) (hx : a.eval x = .slice (some ad) 1 1)
    (hc : w.cell? (ad.add 0) = some (.int .i64 t)) (h63 : n ≤ 1000) (hbase : base ≤ w.heap.size)
    (h : ∀ a2 c2 w', Hid (w'.ownsRow base 3 1 (.slice a2 (n + 1) c2) (n + 1) (cellsI (ss ++ [t]))) → w.grownBy w' v.ownBlock → K (a.put o.dst (.slice a2 (n + 1) c2)) w') :
    if Region.wanted o (yielded ops a.tmps) = true then Oper.wp Try.prog o a w K Q else E := by
  obtain ⟨i0, hi, hz0, hz1, hz2⟩ := info_parts infoI
  refine step_app hgd s x 25 ho 3 i0 (.int .i64 0) 1 8 Try.underlying25 hi hz0 hz1 hz2 rfl (by decide) base v n (cellsI ss) hs hown ad [.int .i64 t] hx rfl
    (by intro j u hj
        match j, hj with
        | 0, hj => simp at hj; subst hj; exact hc) (by intro u hu; simp at hu; subst hu; rfl) h63 (by decide) hbase ?_
  intro v' w' r1 r2
  have e : cellsI ss ++ [.int .i64 t] = cellsI (ss ++ [t]) := by simp [cellsI]
  rw [e] at r1
  obtain ⟨a2, c2, hv, _, _⟩ := SegI.of_owns r1
  have hn : (ss ++ [t]).length = n + 1 := by
    have := hown.1
    rw [cellsI_length] at this
    simp; omega
  rw [hn] at hv
  subst hv
  exact h a2 c2 w' r1 r2
theorem step_appT {ops : Array Oper} {o : Oper} {a : Act} {w : World} {K : Act → World → Prop} {Q : Exit → Act → World → Prop} {E : Prop} (hgd : o.guard = none) (s x : Operand)
    (ho : o.op = .call { callee := .builtin .append, args := #[s, x], argTypes := #[128, 128] })
    (base : Nat) (v : Value) (n : Nat) (ss : List (Int × Bool)) (hs : a.eval s = v) (hown : w.ownsRow base 202 2 v n (cellsT ss)) (ad : Addr) (t : Int) (f : Bool) (hx : a.eval x = .slice (some ad) 1 1)
    (hc : w.cell? (ad.add 0) = some (.int .i64 t)) (hc2 : w.cell? (ad.add 1) = some (.bool f)) (h63 : n ≤ 1000) (hbase : base ≤ w.heap.size)
    (h : ∀ a2 c2 w', Hid (w'.ownsRow base 202 2 (.slice a2 (n + 1) c2) (n + 1) (cellsT (ss ++ [(t, f)]))) → w.grownBy w' v.ownBlock → K (a.put o.dst (.slice a2 (n + 1) c2)) w') :
    if Region.wanted o (yielded ops a.tmps) = true then Oper.wp Try.prog o a w K Q else E := by
  obtain ⟨i0, hi, hz0, hz1, hz2⟩ := info_parts infoT
  refine step_app hgd s x 128 ho 202 i0 (.agg #[.int .i64 0, .bool false]) 2 16 Try.underlying128 hi hz0 hz1 hz2 rfl (by decide) base v n (cellsT ss) hs hown ad [.int .i64 t, .bool f] hx rfl
    (by intro j u hj
        match j, hj with
        | 0, hj => simp at hj; subst hj; exact hc
        | 1, hj => simp at hj; subst hj; exact hc2) (by intro u hu; simp at hu; rcases hu with rfl | rfl <;> rfl) h63 (by decide) hbase ?_
  intro v' w' r1 r2
  have e : cellsT ss ++ [.int .i64 t, .bool f] = cellsT (ss ++ [(t, f)]) := by rw [cellsT_append]; rfl
  rw [e] at r1
  obtain ⟨a2, c2, hv, _, _⟩ := SegT.of_owns r1
  have hn : (ss ++ [(t, f)]).length = n + 1 := by
    have := hown.1
    rw [cellsT_length] at this
    simp; omega
  rw [hn] at hv
  subst hv
  exact h a2 c2 w' r1 r2

set_option maxHeartbeats 4000000 in
set_option maxRecDepth 100000 in
theorem decode_list (s : ByteArray) (n : Nat) (w : World) (h : s.size = 32) (hm : isMagic s = true) (hk : at8 s 4 = 3) (h20 : n ≤ 20) (h9 : at8 s 9 = (n : Int)) :
    Calls Try.prog 98 #[.string s] w fun e w' => ∃ v2, e = .returned (.tuple #[v2, .int .i64 (decOf ⟨3, seqOf s 4, 0, [], gBlocks s⟩ (zeroFrom s (10 + n))).2]) ∧ IsMkN w' w.heap.size v2 (decOf ⟨3, seqOf s 4, 0, [], gBlocks s⟩ (zeroFrom s (10 + n))).1 ∧ Below w.heap.size w w' := by
  have HM : Hid (manyOf s 20 = n) := many_few h9 h20
  have HLEN : Hid ((gBlocks s).length = n) := by rw [Hid, gBlocks_length, HM.out]
  have hn' : (n : Int) ≤ 20 := by omega
  have hm' : ((s.extract 0 4).toList == [87, 66, 75, 49]) = true := by rw [isMagic, if_pos (by omega)] at hm; exact hm
  clear hm
  have HK := hide hk
  clear hk
  have hB : ∀ k (hk : k < s.size), ((s[k]'hk).toNat : Int) = at8 s k := at8_of s
  have hW := wrap_at8 s
  have hW' : ∀ k, IntKind.i64.wrap (at8 s k) = at8 s k := fun k => by have := at8_in s k; rw [IntKind.wrap_i64]; omega
  go_enter Try.func98, Try.ntmps98
  go_wp2
  go_loopw [6] (fun i wr => ∃ k : Nat, k ≤ 4 ∧ i = .int .i64 ((k + 5 : Nat) : Int) ∧ wr.heap[w.heap.size + 1]? = some (.cells #[.int .i64 (at8 s 4), .int .i64 (seqOf s k), .int .i64 0, .slice none 0 0, .slice none 0 0] 130 (0, 0)) ∧
    Below (w.heap.size + 1) (w.alloc (Obj.cells #[.int .i64 0, .int .i64 0, .int .i64 0, .slice none 0 0, .slice none 0 0] 130)) wr) (fun i _ => 9 - (intOf i).toNat)
  case atStart =>
    refine ⟨0, Nat.zero_le _, rfl, ?_, (Below.refl _ _).alloc (by simp) _⟩
    exact new2 w _ _
  case round =>
    obtain ⟨k, hk, rfl, hbox, hbr⟩ := hrel
    have HBOX := hide hbox
    obtain ⟨⟨x0, x1, x2, x3, x4⟩, e0, e1, e2, e3, e4⟩ := box5 hbox
    clear hbox
    have hsr : w.heap.size + 1 < wr.heap.size := (Array.getElem?_eq_some_iff.1 HBOX.out).1
    have hsr' : w.heap.size < wr.heap.size := by omega
    by_cases hlt : k < 4
    · obtain ⟨q, hq⟩ : ∃ q, q = seqOf s k := ⟨_, rfl⟩
      have hq1 := seqOf_lt s k (by omega)
      have hq2 : seqOf s (k + 1) = 256 * seqOf s k + at8 s (k + 5) := rfl
      have hq3 := seqOf_lt s (k + 1) (by omega)
      rw [hq2] at hq3
      rw [← hq] at x1 hq1 hq3
      have HQ := hide hq
      clear hq hq2
      have u1 : IntKind.i64.wrap (256 * q) = 256 * q := by rw [IntKind.wrap_i64]; omega
      have u2 : IntKind.i64.wrap (256 * q + at8 s (k + 5)) = 256 * q + at8 s (k + 5) := by rw [IntKind.wrap_i64]; omega
      have hlt' : (k : Int) + 5 < 9 := by omega
      go_wp2
      go_region
      all_goals
        go_wp2
        go_roundw
        case rel =>
          refine ⟨k + 1, by omega, by go_num, ?_, (hbr.setCell (by simp) _).drew⟩
          refine (heap_setCell_same wr _ _ _ _ _ HBOX.out).trans ?_
          rw [seqOf, ← HQ.out]; rfl
        case measure => simp [intOf]; omega
    · obtain rfl : k = 4 := by omega
      obtain ⟨⟨y0, y1, y2, y3, y4⟩, f0, f1, f2, f3, f4⟩ := box5 (keepR hbr)
      have HB := hide (bthen (below1 _ _) (hbr.mono (by simp)))
      clear hlt hk
      have hk := HK.out
      have HBK := HBOX.out
      rw [hk] at x0 HBK
      replace HBOX := hide HBK
      clear HBK
      rw [show (((4 : Nat) + 5 : Nat) : Int) = 9 from rfl, hk]
      clear x0 x1 x2 x3 x4 e0 e1 e2 e3 e4 y0 y1 y2 y3 y4 f0 f1 f2 f3 f4 HB
      obtain ⟨⟨x0, x1, x2, x3, x4⟩, e0, e1, e2, e3, e4⟩ := box5 HBOX.out
      go_wp2
      go_loopw [10] (fun i wr => ∃ (k : Nat) (a2 : Option Addr) (c2 : Nat), k ≤ n ∧ i = .int .i64 k ∧ wr.heap[w.heap.size + 1]? = some (.cells #[.int .i64 3, .int .i64 (seqOf s 4), .int .i64 0, .slice none 0 0, .slice a2 k c2] 130 (0, 0)) ∧ Hid (wr.ownsRow (w.heap.size + 2) 3 1 (.slice a2 k c2) k (cellsI ((gBlocks s).take k))) ∧ Below (w.heap.size + 1) (w.alloc (Obj.cells #[.int .i64 0, .int .i64 0, .int .i64 0, .slice none 0 0, .slice none 0 0] 130)) wr) (fun i _ => n - (intOf i).toNat)
      case atStart => exact ⟨0, none, 0, Nat.zero_le _, rfl, HBOX.out, World.ownsRow_nil _ _ _ _, hbr⟩
      case round =>
        clear hbr x0 x1 x2 x3 x4 e0 e1 e2 e3 e4 HBOX hsr hsr'
        obtain ⟨k, a2, c2, hk2, rfl, hbox, hown, hbr⟩ := hrel
        have HBOX := hide hbox
        have hsr : w.heap.size + 1 < wr.heap.size := (Array.getElem?_eq_some_iff.1 hbox).1
        have hsr' : w.heap.size < wr.heap.size := by omega
        obtain ⟨⟨x0, x1, x2, x3, x4⟩, e0, e1, e2, e3, e4⟩ := box5 hbox
        clear hbox
        by_cases hlt : k < n
        · have hlt' : (k : Int) < (n : Int) := by omega
          have hk32 : 10 + k < s.size := by omega
          have hT : ((10 : Int) + (k : Int)).toNat = 10 + k := by omega
          have u1 : IntKind.i64.wrap (10 + (k : Int)) = 10 + (k : Int) := by rw [IntKind.wrap_i64]; omega
          have i1 : 0 ≤ 10 + (k : Int) := by omega
          have i2 : 10 + (k : Int) < 32 := by omega
          have HX : Hid ((gBlocks s).take (k + 1) = (gBlocks s).take k ++ [at8 s (10 + k)]) := by rw [Hid, List.take_add_one, gBlocks_at s k (by rw [HM.out]; exact hlt)]; rfl
          go_wp2
          go_region_law (refine step_appI rfl (.tmp 108) (.tmp 114) rfl (w.heap.size + 2) (.slice a2 k c2) k ((gBlocks s).take k) (by simp [Act.eval]) (hown.out.alloc _) ⟨wr.heap.size, 0, none⟩ (at8 s (10 + k)) (by simp [Act.eval]) (by simp [go_sem]) (by omega) (by simp; omega) ?_; intro a5 c5 w5 HO5 hg5; have hbox5 : w5.heap[w.heap.size + 1]? = some (.cells #[.int .i64 3, .int .i64 (seqOf s 4), .int .i64 0, .slice none 0 0, .slice a2 k c2] 130 (0, 0)) := ((hg5.block (w.heap.size + 1) (by simp; omega) (fun e => by have := hown.out.lt _ e.symm; omega)).trans ((Below.heap_alloc wr _ _ hsr).trans HBOX.out)); have o5 : w5.cell? ⟨w.heap.size + 1, 4, none⟩ = some (.slice a2 k c2) := (box5 hbox5).1.2.2.2.2; have fz5 : w5.frozen? ⟨w.heap.size + 1, 4, none⟩ = false := (box5 hbox5).2.2.2.2.2; have HB5 := hide hbox5; have hb5 : Below (w.heap.size + 1) (w.alloc (Obj.cells #[.int .i64 0, .int .i64 0, .int .i64 0, .slice none 0 0, .slice none 0 0] 130)) w5 := (((hbr.alloc (by omega) _).drew).grown hg5 (by simp; omega) (fun k hk => by have := hown.out.lt k hk; omega)); clear hbox5 hg5)
          all_goals
            clear x0 x1 x2 x3 x4 e0 e1 e2 e3 e4 hbr hown HBOX
            go_wp2
            go_roundw
            case rel =>
              refine ⟨k + 1, a5, c5, by omega, by go_num, ?_, ?_, hb5.setCell (by simp) _⟩
              · rw [heap_setCell_same w5 _ _ _ _ _ HB5.out]; rfl
              · rw [HX.out]
                exact ownsRow_setCell_below HO5.out (by simp) _
            case measure => simp [intOf]; omega
        · have e : n = k := by omega
          subst e
          have hown' := hown.out
          rw [List.take_of_length_le (by rw [HLEN.out]; exact Nat.le_refl _)] at hown'
          obtain ⟨a4, c4, hv4, hS4, hA4⟩ := SegI.of_owns hown'
          rw [HLEN.out] at hv4
          simp only [Value.slice.injEq] at hv4
          obtain ⟨ha4, _, hc4⟩ := hv4
          subst ha4 hc4
          have HS4 := hide hS4
          have HA4 := hide hA4
          obtain ⟨⟨y0, y1, y2, y3, y4⟩, f0, f1, f2, f3, f4⟩ := box5 (keepR hbr)
          have HB := hide (bthen (below1 _ _) (hbr.mono (by simp)))
          clear hown hown' hS4 hA4 hbr HBOX e0 e1 e2 e3 e4 hlt hk2
          go_wp2_with fail
          refine (goodMark_any _ ⟨3, seqOf s 4, 0, [], gBlocks s⟩ _ ⟨none, 0, a2, c2, by simp only [HLEN.out]; rfl, .inl rfl, HS4.out, Nat.zero_le _, by show (gBlocks s).length ≤ maxLen; rw [HLEN.out]; unfold maxLen; omega⟩ (by simp)).mono ?_
          rintro e w1 ⟨rfl, hb1⟩
          have hs1 : w.heap.size + 1 < w1.heap.size := by have := hb1.size; omega
          have hs1' : w.heap.size < w1.heap.size := by omega
          replace x0 := cellKeep hb1 (by omega) x0
          replace x1 := cellKeep hb1 (by omega) x1
          replace x2 := cellKeep hb1 (by omega) x2
          replace x3 := cellKeep hb1 (by omega) x3
          replace x4 := cellKeep hb1 (by omega) x4
          replace y0 := cellKeep hb1 (by omega) y0
          replace y1 := cellKeep hb1 (by omega) y1
          replace y2 := cellKeep hb1 (by omega) y2
          replace y3 := cellKeep hb1 (by omega) y3
          replace y4 := cellKeep hb1 (by omega) y4
          replace f0 := frozKeep hb1 (by omega) f0
          replace f1 := frozKeep hb1 (by omega) f1
          replace f2 := frozKeep hb1 (by omega) f2
          replace f3 := frozKeep hb1 (by omega) f3
          replace f4 := frozKeep hb1 (by omega) f4
          have HS5 := hide (HS4.out.below hb1)
          replace HB := hide (bthen HB.out hb1)
          clear hb1
          by_cases hg : goodM ⟨3, seqOf s 4, 0, [], gBlocks s⟩ = 0
          · go_wp2_with fail
            refine (noughts_at s (10 + n) _ _ (by omega) (by omega) (by omega)).mono ?_
            rintro e w2 ⟨rfl, rfl⟩
            cases hz : zeroFrom s (10 + n) with
            | true =>
              have hd := decOf_good hg hz
              have HD := hide hd
              clear hd hz
              go_wp2
              refine bodyPost_ret (v := .tuple #[.agg #[.int .i64 3, .int .i64 (seqOf s 4), .int .i64 0, .slice none 0 0, .slice a2 n c2], .int .i64 0]) (by simp [results, Try.results98, go_sem, y0, y1, y2, y3, y4]) rfl ⟨_, by rw [HD.out], ?_, ?_⟩
              · rw [HD.out]
                refine ⟨none, 0, a2, c2, by simp only [HLEN.out]; rfl, .inl rfl, ?_, Nat.zero_le _, by show (gBlocks s).length ≤ maxLen; rw [HLEN.out]; unfold maxLen; omega, fun _ _ h => (by cases h), fun b off e => (by have := HA4.out b off e; omega)⟩
                repeat refine SegI.setNe ?_ (fun b off e => by have := HA4.out b off e; simp; omega) _
                exact HS5.out
              · repeat refine Below.setCell ?_ (by simp) _
                exact HB.out
            | false =>
              have hd := decOf_behind ⟨3, seqOf s 4, 0, [], gBlocks s⟩ hz
              have HD := hide hd
              clear hd hz
              go_wp2_with fail
              refine (bad_any _).mono ?_
              rintro e w9 ⟨rfl, hb9⟩
              have hs9 : w.heap.size < w9.heap.size := by have := hb9.size; omega
              replace y0 := cellKeep hb9 (by omega) y0
              replace y1 := cellKeep hb9 (by omega) y1
              replace y2 := cellKeep hb9 (by omega) y2
              replace y3 := cellKeep hb9 (by omega) y3
              replace y4 := cellKeep hb9 (by omega) y4
              replace f0 := frozKeep hb9 (by omega) f0
              replace f1 := frozKeep hb9 (by omega) f1
              replace f2 := frozKeep hb9 (by omega) f2
              replace f3 := frozKeep hb9 (by omega) f3
              replace f4 := frozKeep hb9 (by omega) f4
              have HB9 := hide (bthen HB.out hb9)
              clear hb9
              go_wp2
              refine bodyPost_ret (v := .tuple #[.agg #[.int .i64 0, .int .i64 0, .int .i64 0, .slice none 0 0, .slice none 0 0], .int .i64 1]) (by simp [results, Try.results98, go_sem, y0, y1, y2, y3, y4]) rfl ⟨_, by rw [HD.out], by rw [HD.out]; exact isZeroN _ _, ?_⟩
              repeat refine Below.setCell ?_ (by simp) _
              exact HB9.out
          · have hg' : (goodM ⟨3, seqOf s 4, 0, [], gBlocks s⟩ != 0) = true := by simpa using hg
            have hd := decOf_bad (m := ⟨3, seqOf s 4, 0, [], gBlocks s⟩) (zeroFrom s (10 + n)) hg
            have HD := hide hd
            clear hd
            go_wp2_with fail
            refine (bad_any _).mono ?_
            rintro e w9 ⟨rfl, hb9⟩
            have hs9 : w.heap.size < w9.heap.size := by have := hb9.size; omega
            replace y0 := cellKeep hb9 (by omega) y0
            replace y1 := cellKeep hb9 (by omega) y1
            replace y2 := cellKeep hb9 (by omega) y2
            replace y3 := cellKeep hb9 (by omega) y3
            replace y4 := cellKeep hb9 (by omega) y4
            replace f0 := frozKeep hb9 (by omega) f0
            replace f1 := frozKeep hb9 (by omega) f1
            replace f2 := frozKeep hb9 (by omega) f2
            replace f3 := frozKeep hb9 (by omega) f3
            replace f4 := frozKeep hb9 (by omega) f4
            have HB9 := hide (bthen HB.out hb9)
            clear hb9
            go_wp2
            refine bodyPost_ret (v := .tuple #[.agg #[.int .i64 0, .int .i64 0, .int .i64 0, .slice none 0 0, .slice none 0 0], .int .i64 1]) (by simp [results, Try.results98, go_sem, y0, y1, y2, y3, y4]) rfl ⟨_, by rw [HD.out], by rw [HD.out]; exact isZeroN _ _, ?_⟩
            repeat refine Below.setCell ?_ (by simp) _
            exact HB9.out

end Go.Proofs.Ytjnpndfpajjihab

namespace Go.Proofs.Ytjnpndfpajjihab
open Go.RowKit

set_option maxHeartbeats 4000000 in
set_option maxRecDepth 100000 in
theorem decode_tags (s : ByteArray) (n : Nat) (R : Mk × Int) (w : World) (h : s.size = 32) (hm : isMagic s = true) (hk : at8 s 4 = 2) (h10 : n ≤ 10) (h9 : at8 s 9 = (n : Int)) (hok : (∀ i, i < n → at8 s (11 + 2 * i) ≤ 1) → R = decOf ⟨2, seqOf s 4, 0, gTags s, []⟩ (zeroFrom s (10 + 2 * n))) (hbad : ∀ i, i < n → 1 < at8 s (11 + 2 * i) → R = (zeroM, 1)) :
    Calls Try.prog 98 #[.string s] w fun e w' => ∃ v2, e = .returned (.tuple #[v2, .int .i64 R.2]) ∧ IsMkN w' w.heap.size v2 R.1 ∧ Below w.heap.size w w' := by
  have HOK := hide hok
  have HBAD := hide hbad
  clear hok hbad
  have HM : Hid (manyOf s 10 = n) := many_few h9 h10
  have HLEN : Hid ((gTags s).length = n) := by rw [Hid, gTags_length, HM.out]
  have hn' : (n : Int) ≤ 10 := by omega
  have hm' : ((s.extract 0 4).toList == [87, 66, 75, 49]) = true := by rw [isMagic, if_pos (by omega)] at hm; exact hm
  clear hm
  have HK := hide hk
  clear hk
  have hB : ∀ k (hk : k < s.size), ((s[k]'hk).toNat : Int) = at8 s k := at8_of s
  have hW := wrap_at8 s
  have hW' : ∀ k, IntKind.i64.wrap (at8 s k) = at8 s k := fun k => by have := at8_in s k; rw [IntKind.wrap_i64]; omega
  go_enter Try.func98, Try.ntmps98
  go_wp2
  go_loopw [6] (fun i wr => ∃ k : Nat, k ≤ 4 ∧ i = .int .i64 ((k + 5 : Nat) : Int) ∧ wr.heap[w.heap.size + 1]? = some (.cells #[.int .i64 (at8 s 4), .int .i64 (seqOf s k), .int .i64 0, .slice none 0 0, .slice none 0 0] 130 (0, 0)) ∧
    Below (w.heap.size + 1) (w.alloc (Obj.cells #[.int .i64 0, .int .i64 0, .int .i64 0, .slice none 0 0, .slice none 0 0] 130)) wr) (fun i _ => 9 - (intOf i).toNat)
  case atStart =>
    refine ⟨0, Nat.zero_le _, rfl, ?_, (Below.refl _ _).alloc (by simp) _⟩
    exact new2 w _ _
  case round =>
    obtain ⟨k, hk, rfl, hbox, hbr⟩ := hrel
    have HBOX := hide hbox
    obtain ⟨⟨x0, x1, x2, x3, x4⟩, e0, e1, e2, e3, e4⟩ := box5 hbox
    clear hbox
    have hsr : w.heap.size + 1 < wr.heap.size := (Array.getElem?_eq_some_iff.1 HBOX.out).1
    have hsr' : w.heap.size < wr.heap.size := by omega
    by_cases hlt : k < 4
    · obtain ⟨q, hq⟩ : ∃ q, q = seqOf s k := ⟨_, rfl⟩
      have hq1 := seqOf_lt s k (by omega)
      have hq2 : seqOf s (k + 1) = 256 * seqOf s k + at8 s (k + 5) := rfl
      have hq3 := seqOf_lt s (k + 1) (by omega)
      rw [hq2] at hq3
      rw [← hq] at x1 hq1 hq3
      have HQ := hide hq
      clear hq hq2
      have u1 : IntKind.i64.wrap (256 * q) = 256 * q := by rw [IntKind.wrap_i64]; omega
      have u2 : IntKind.i64.wrap (256 * q + at8 s (k + 5)) = 256 * q + at8 s (k + 5) := by rw [IntKind.wrap_i64]; omega
      have hlt' : (k : Int) + 5 < 9 := by omega
      go_wp2
      go_region
      all_goals
        go_wp2
        go_roundw
        case rel =>
          refine ⟨k + 1, by omega, by go_num, ?_, (hbr.setCell (by simp) _).drew⟩
          refine (heap_setCell_same wr _ _ _ _ _ HBOX.out).trans ?_
          rw [seqOf, ← HQ.out]; rfl
        case measure => simp [intOf]; omega
    · obtain rfl : k = 4 := by omega
      obtain ⟨⟨y0, y1, y2, y3, y4⟩, f0, f1, f2, f3, f4⟩ := box5 (keepR hbr)
      have HB := hide (bthen (below1 _ _) (hbr.mono (by simp)))
      clear hlt hk
      have hk := HK.out
      have HBK := HBOX.out
      rw [hk] at x0 HBK
      replace HBOX := hide HBK
      clear HBK
      rw [show (((4 : Nat) + 5 : Nat) : Int) = 9 from rfl, hk]
      clear x0 x1 x2 x3 x4 e0 e1 e2 e3 e4 y0 y1 y2 y3 y4 f0 f1 f2 f3 f4 HB
      obtain ⟨⟨x0, x1, x2, x3, x4⟩, e0, e1, e2, e3, e4⟩ := box5 HBOX.out
      go_wp2
      go_loopw [9] (fun i wr => ∃ (k : Nat) (a2 : Option Addr) (c2 : Nat), k ≤ n ∧ i = .int .i64 k ∧ wr.heap[w.heap.size + 1]? = some (.cells #[.int .i64 2, .int .i64 (seqOf s 4), .int .i64 0, .slice a2 k c2, .slice none 0 0] 130 (0, 0)) ∧ Hid (wr.ownsRow (w.heap.size + 2) 202 2 (.slice a2 k c2) k (cellsT ((gTags s).take k))) ∧ Hid (∀ i, i < k → at8 s (11 + 2 * i) ≤ 1) ∧ Below (w.heap.size + 1) (w.alloc (Obj.cells #[.int .i64 0, .int .i64 0, .int .i64 0, .slice none 0 0, .slice none 0 0] 130)) wr) (fun i _ => n - (intOf i).toNat)
      case atStart => exact ⟨0, none, 0, Nat.zero_le _, rfl, HBOX.out, World.ownsRow_nil _ _ _ _, (fun i hi => by omega), hbr⟩
      case round =>
        clear hbr x0 x1 x2 x3 x4 e0 e1 e2 e3 e4 HBOX hsr hsr'
        obtain ⟨k, a2, c2, hk2, rfl, hbox, hown, hfl, hbr⟩ := hrel
        have HBOX := hide hbox
        have hsr : w.heap.size + 1 < wr.heap.size := (Array.getElem?_eq_some_iff.1 hbox).1
        have hsr' : w.heap.size < wr.heap.size := by omega
        obtain ⟨⟨x0, x1, x2, x3, x4⟩, e0, e1, e2, e3, e4⟩ := box5 hbox
        clear hbox
        by_cases hlt : k < n
        · have hlt' : (k : Int) < (n : Int) := by omega
          have hk32 : 10 + 2 * k < s.size := by omega
          have hk33 : 11 + 2 * k < s.size := by omega
          have hT : ((10 : Int) + 2 * (k : Int)).toNat = 10 + 2 * k := by omega
          have hT2 : ((11 : Int) + 2 * (k : Int)).toNat = 11 + 2 * k := by omega
          have u1 : IntKind.i64.wrap (2 * (k : Int)) = 2 * (k : Int) := by rw [IntKind.wrap_i64]; omega
          have u2 : IntKind.i64.wrap (10 + 2 * (k : Int)) = 10 + 2 * (k : Int) := by rw [IntKind.wrap_i64]; omega
          have u3 : IntKind.i64.wrap (11 + 2 * (k : Int)) = 11 + 2 * (k : Int) := by rw [IntKind.wrap_i64]; omega
          have i1 : 0 ≤ 10 + 2 * (k : Int) := by omega
          have i2 : 10 + 2 * (k : Int) < 32 := by omega
          have i3 : 0 ≤ 11 + 2 * (k : Int) := by omega
          have i4 : 11 + 2 * (k : Int) < 32 := by omega
          by_cases hf : 1 < at8 s (11 + 2 * k)
          · have HD : Hid (R = (zeroM, 1)) := HBAD.out k hlt hf
            obtain ⟨⟨y0, y1, y2, y3, y4⟩, f0, f1, f2, f3, f4⟩ := box5 (keepR hbr)
            have HB := hide (bthen (below1 _ _) (hbr.mono (by simp)))
            clear hown hbr HBOX hfl
            go_wp2_with fail
            refine (bad_any _).mono ?_
            rintro e w9 ⟨rfl, hb9⟩
            have hs9 : w.heap.size < w9.heap.size := by have := hb9.size; omega
            replace y0 := cellKeep hb9 (by omega) y0
            replace y1 := cellKeep hb9 (by omega) y1
            replace y2 := cellKeep hb9 (by omega) y2
            replace y3 := cellKeep hb9 (by omega) y3
            replace y4 := cellKeep hb9 (by omega) y4
            replace f0 := frozKeep hb9 (by omega) f0
            replace f1 := frozKeep hb9 (by omega) f1
            replace f2 := frozKeep hb9 (by omega) f2
            replace f3 := frozKeep hb9 (by omega) f3
            replace f4 := frozKeep hb9 (by omega) f4
            have HB9 := hide (bthen HB.out hb9)
            clear hb9
            go_wp2
            refine bodyPost_ret (v := .tuple #[.agg #[.int .i64 0, .int .i64 0, .int .i64 0, .slice none 0 0, .slice none 0 0], .int .i64 1]) (by simp [results, Try.results98, go_sem, y0, y1, y2, y3, y4]) rfl ⟨_, by rw [HD.out], by rw [HD.out]; exact isZeroN _ _, ?_⟩
            repeat refine Below.setCell ?_ (by simp) _
            exact HB9.out
          · have h01 : at8 s (11 + 2 * k) = 0 ∨ at8 s (11 + 2 * k) = 1 := by have := at8_in s (11 + 2 * k); omega
            have HFL : Hid (∀ i, i < k + 1 → at8 s (11 + 2 * i) ≤ 1) := by
              intro i hi
              by_cases e : i = k
              · rw [e]; omega
              · exact hfl.out i (by omega)
            clear hf hfl
            rcases h01 with h01 | h01
            · have HX : Hid ((gTags s).take (k + 1) = (gTags s).take k ++ [(at8 s (10 + 2 * k), false)]) := by rw [Hid, List.take_add_one, gTags_at s k (by rw [HM.out]; exact hlt), h01]; rfl
              go_wp2
              go_region_law (refine step_appT rfl (.tmp 73) (.tmp 87) rfl (w.heap.size + 2) (.slice a2 k c2) k ((gTags s).take k) (by simp [Act.eval]) (hown.out.alloc _) ⟨wr.heap.size, 0, none⟩ (at8 s (10 + 2 * k)) false (by simp [Act.eval]) (by simp [go_sem]) (by simp [go_sem]) (by omega) (by simp; omega) ?_; intro a5 c5 w5 HO5 hg5; have hbox5 : w5.heap[w.heap.size + 1]? = some (.cells #[.int .i64 2, .int .i64 (seqOf s 4), .int .i64 0, .slice a2 k c2, .slice none 0 0] 130 (0, 0)) := ((hg5.block (w.heap.size + 1) (by simp; omega) (fun e => by have := hown.out.lt _ e.symm; omega)).trans ((Below.heap_alloc wr _ _ hsr).trans HBOX.out)); have o5 : w5.cell? ⟨w.heap.size + 1, 3, none⟩ = some (.slice a2 k c2) := (box5 hbox5).1.2.2.2.1; have fz5 : w5.frozen? ⟨w.heap.size + 1, 3, none⟩ = false := (box5 hbox5).2.2.2.2.1; have HB5 := hide hbox5; have hb5 : Below (w.heap.size + 1) (w.alloc (Obj.cells #[.int .i64 0, .int .i64 0, .int .i64 0, .slice none 0 0, .slice none 0 0] 130)) w5 := (((hbr.alloc (by omega) _).drew).grown hg5 (by simp; omega) (fun k hk => by have := hown.out.lt k hk; omega)); clear hbox5 hg5)
              all_goals
                clear x0 x1 x2 x3 x4 e0 e1 e2 e3 e4 hbr hown HBOX
                go_wp2
                go_roundw
                case rel =>
                  refine ⟨k + 1, a5, c5, by omega, by go_num, ?_, ?_, HFL, hb5.setCell (by simp) _⟩
                  · rw [heap_setCell_same w5 _ _ _ _ _ HB5.out]; rfl
                  · rw [HX.out]
                    exact ownsRow_setCell_below HO5.out (by simp) _
                case measure => simp [intOf]; omega
            · have HX : Hid ((gTags s).take (k + 1) = (gTags s).take k ++ [(at8 s (10 + 2 * k), true)]) := by rw [Hid, List.take_add_one, gTags_at s k (by rw [HM.out]; exact hlt), h01]; rfl
              go_wp2
              go_region_law (refine step_appT rfl (.tmp 73) (.tmp 87) rfl (w.heap.size + 2) (.slice a2 k c2) k ((gTags s).take k) (by simp [Act.eval]) (hown.out.alloc _) ⟨wr.heap.size, 0, none⟩ (at8 s (10 + 2 * k)) true (by simp [Act.eval]) (by simp [go_sem]) (by simp [go_sem]) (by omega) (by simp; omega) ?_; intro a5 c5 w5 HO5 hg5; have hbox5 : w5.heap[w.heap.size + 1]? = some (.cells #[.int .i64 2, .int .i64 (seqOf s 4), .int .i64 0, .slice a2 k c2, .slice none 0 0] 130 (0, 0)) := ((hg5.block (w.heap.size + 1) (by simp; omega) (fun e => by have := hown.out.lt _ e.symm; omega)).trans ((Below.heap_alloc wr _ _ hsr).trans HBOX.out)); have o5 : w5.cell? ⟨w.heap.size + 1, 3, none⟩ = some (.slice a2 k c2) := (box5 hbox5).1.2.2.2.1; have fz5 : w5.frozen? ⟨w.heap.size + 1, 3, none⟩ = false := (box5 hbox5).2.2.2.2.1; have HB5 := hide hbox5; have hb5 : Below (w.heap.size + 1) (w.alloc (Obj.cells #[.int .i64 0, .int .i64 0, .int .i64 0, .slice none 0 0, .slice none 0 0] 130)) w5 := (((hbr.alloc (by omega) _).drew).grown hg5 (by simp; omega) (fun k hk => by have := hown.out.lt k hk; omega)); clear hbox5 hg5)
              all_goals
                clear x0 x1 x2 x3 x4 e0 e1 e2 e3 e4 hbr hown HBOX
                go_wp2
                go_roundw
                case rel =>
                  refine ⟨k + 1, a5, c5, by omega, by go_num, ?_, ?_, HFL, hb5.setCell (by simp) _⟩
                  · rw [heap_setCell_same w5 _ _ _ _ _ HB5.out]; rfl
                  · rw [HX.out]
                    exact ownsRow_setCell_below HO5.out (by simp) _
                case measure => simp [intOf]; omega
        · have e : n = k := by omega
          subst e
          have hown' := hown.out
          rw [List.take_of_length_le (by rw [HLEN.out]; exact Nat.le_refl _)] at hown'
          obtain ⟨a4, c4, hv4, hS4, hA4⟩ := SegT.of_owns hown'
          rw [HLEN.out] at hv4
          simp only [Value.slice.injEq] at hv4
          obtain ⟨ha4, _, hc4⟩ := hv4
          subst ha4 hc4
          have HS4 := hide hS4
          have HA4 := hide hA4
          have HR := hide (HOK.out hfl.out)
          obtain ⟨⟨y0, y1, y2, y3, y4⟩, f0, f1, f2, f3, f4⟩ := box5 (keepR hbr)
          have HB := hide (bthen (below1 _ _) (hbr.mono (by simp)))
          clear hown hown' hS4 hA4 hbr HBOX e0 e1 e2 e3 e4 hlt hk2 hfl
          go_wp2_with fail
          refine (goodMark_any _ ⟨2, seqOf s 4, 0, gTags s, []⟩ _ ⟨a2, c2, none, 0, by simp only [HLEN.out]; rfl, HS4.out, .inl rfl, by show (gTags s).length ≤ maxLen; rw [HLEN.out]; unfold maxLen; omega, Nat.zero_le _⟩ (by show (gTags s).length * 8 ≤ _; rw [HLEN.out]; omega)).mono ?_
          rintro e w1 ⟨rfl, hb1⟩
          have hs1 : w.heap.size + 1 < w1.heap.size := by have := hb1.size; omega
          have hs1' : w.heap.size < w1.heap.size := by omega
          replace x0 := cellKeep hb1 (by omega) x0
          replace x1 := cellKeep hb1 (by omega) x1
          replace x2 := cellKeep hb1 (by omega) x2
          replace x3 := cellKeep hb1 (by omega) x3
          replace x4 := cellKeep hb1 (by omega) x4
          replace y0 := cellKeep hb1 (by omega) y0
          replace y1 := cellKeep hb1 (by omega) y1
          replace y2 := cellKeep hb1 (by omega) y2
          replace y3 := cellKeep hb1 (by omega) y3
          replace y4 := cellKeep hb1 (by omega) y4
          replace f0 := frozKeep hb1 (by omega) f0
          replace f1 := frozKeep hb1 (by omega) f1
          replace f2 := frozKeep hb1 (by omega) f2
          replace f3 := frozKeep hb1 (by omega) f3
          replace f4 := frozKeep hb1 (by omega) f4
          have HS5 := hide (HS4.out.below hb1)
          replace HB := hide (bthen HB.out hb1)
          clear hb1
          by_cases hg : goodM ⟨2, seqOf s 4, 0, gTags s, []⟩ = 0
          · go_wp2_with fail
            refine (noughts_at s (10 + 2 * n) _ _ (by omega) (by omega) (by omega)).mono ?_
            rintro e w2 ⟨rfl, rfl⟩
            cases hz : zeroFrom s (10 + 2 * n) with
            | true =>
              have hd := HR.out.trans (decOf_good hg hz)
              have HD := hide hd
              clear hd hz
              go_wp2
              refine bodyPost_ret (v := .tuple #[.agg #[.int .i64 2, .int .i64 (seqOf s 4), .int .i64 0, .slice a2 n c2, .slice none 0 0], .int .i64 0]) (by simp [results, Try.results98, go_sem, y0, y1, y2, y3, y4]) rfl ⟨_, by rw [HD.out], ?_, ?_⟩
              · rw [HD.out]
                refine ⟨a2, c2, none, 0, by simp only [HLEN.out]; rfl, ?_, .inl rfl, by show (gTags s).length ≤ maxLen; rw [HLEN.out]; unfold maxLen; omega, Nat.zero_le _, fun b off e => (by have := HA4.out b off e; omega), fun _ _ h => (by cases h)⟩
                repeat refine SegT.setNe ?_ (fun b off e => by have := HA4.out b off e; simp; omega) _
                exact HS5.out
              · repeat refine Below.setCell ?_ (by simp) _
                exact HB.out
            | false =>
              have hd := HR.out.trans (decOf_behind ⟨2, seqOf s 4, 0, gTags s, []⟩ hz)
              have HD := hide hd
              clear hd hz
              go_wp2_with fail
              refine (bad_any _).mono ?_
              rintro e w9 ⟨rfl, hb9⟩
              have hs9 : w.heap.size < w9.heap.size := by have := hb9.size; omega
              replace y0 := cellKeep hb9 (by omega) y0
              replace y1 := cellKeep hb9 (by omega) y1
              replace y2 := cellKeep hb9 (by omega) y2
              replace y3 := cellKeep hb9 (by omega) y3
              replace y4 := cellKeep hb9 (by omega) y4
              replace f0 := frozKeep hb9 (by omega) f0
              replace f1 := frozKeep hb9 (by omega) f1
              replace f2 := frozKeep hb9 (by omega) f2
              replace f3 := frozKeep hb9 (by omega) f3
              replace f4 := frozKeep hb9 (by omega) f4
              have HB9 := hide (bthen HB.out hb9)
              clear hb9
              go_wp2
              refine bodyPost_ret (v := .tuple #[.agg #[.int .i64 0, .int .i64 0, .int .i64 0, .slice none 0 0, .slice none 0 0], .int .i64 1]) (by simp [results, Try.results98, go_sem, y0, y1, y2, y3, y4]) rfl ⟨_, by rw [HD.out], by rw [HD.out]; exact isZeroN _ _, ?_⟩
              repeat refine Below.setCell ?_ (by simp) _
              exact HB9.out
          · have hg' : (goodM ⟨2, seqOf s 4, 0, gTags s, []⟩ != 0) = true := by simpa using hg
            have hd := HR.out.trans (decOf_bad (m := ⟨2, seqOf s 4, 0, gTags s, []⟩) (zeroFrom s (10 + 2 * n)) hg)
            have HD := hide hd
            clear hd
            go_wp2_with fail
            refine (bad_any _).mono ?_
            rintro e w9 ⟨rfl, hb9⟩
            have hs9 : w.heap.size < w9.heap.size := by have := hb9.size; omega
            replace y0 := cellKeep hb9 (by omega) y0
            replace y1 := cellKeep hb9 (by omega) y1
            replace y2 := cellKeep hb9 (by omega) y2
            replace y3 := cellKeep hb9 (by omega) y3
            replace y4 := cellKeep hb9 (by omega) y4
            replace f0 := frozKeep hb9 (by omega) f0
            replace f1 := frozKeep hb9 (by omega) f1
            replace f2 := frozKeep hb9 (by omega) f2
            replace f3 := frozKeep hb9 (by omega) f3
            replace f4 := frozKeep hb9 (by omega) f4
            have HB9 := hide (bthen HB.out hb9)
            clear hb9
            go_wp2
            refine bodyPost_ret (v := .tuple #[.agg #[.int .i64 0, .int .i64 0, .int .i64 0, .slice none 0 0, .slice none 0 0], .int .i64 1]) (by simp [results, Try.results98, go_sem, y0, y1, y2, y3, y4]) rfl ⟨_, by rw [HD.out], by rw [HD.out]; exact isZeroN _ _, ?_⟩
            repeat refine Below.setCell ?_ (by simp) _
            exact HB9.out

end Go.Proofs.Ytjnpndfpajjihab

namespace Go.Proofs.Ytjnpndfpajjihab
open Go.RowKit

theorem at8_out (s : ByteArray) (k : Nat) (h : s.size ≤ k) : at8 s k = 0 := by
  rw [at8_bl, List.getD, List.getElem?_eq_none (by rw [bl_length]; exact h)]; rfl
theorem zero_iff (s : ByteArray) (k : Nat) : zeroFrom s k = true ↔ ∀ j, at8 s (k + j) = 0 := by
  unfold zeroFrom
  rw [List.all_eq_true]
  constructor
  · intro h j
    rw [at8_bl, List.getD]
    cases hx : (bl s)[k + j]? with
    | none => rfl
    | some x =>
      have : x ∈ s.data.toList.drop k := by
        apply List.mem_of_getElem? (i := j)
        rw [List.getElem?_drop]; exact hx
      have := h x this
      rw [beq_iff_eq] at this
      rw [this]; rfl
  · intro h x hx
    obtain ⟨j, hj⟩ := List.getElem?_of_mem hx
    rw [List.getElem?_drop] at hj
    have := h j
    rw [at8_bl, List.getD, show (bl s)[k + j]? = some x from hj] at this
    rw [beq_iff_eq]
    exact UInt8.toNat_inj.1 (by show x.toNat = 0; simpa using this)

/-- The bytes of a good mark that was guessed are the block's own just where what stands behind its number is. -/
theorem enc_iff {s : ByteArray} {M : Mk} (h32 : s.size = 32) (hm : isMagic s = true) (hM : gsM s = M) (hg : goodM M = 0) :
    encT M = s ↔ ∀ j, j < 23 → at8 s (9 + j) = (((tailB M).getD j 0).toNat : Int) := by
  constructor
  · intro h j _
    have := enc_tail hg j
    rw [h] at this
    exact this
  · intro h
    obtain ⟨_, ⟨q1, q2, _, _⟩, _, _, _, _, _⟩ := goodM_parts hg
    obtain ⟨h0, h1, h2, h3, h4, h5, h6, h7, h8⟩ := enc_head hg
    obtain ⟨m0, m1, m2, m3⟩ := (magic_iff s (by omega)).1 hm
    have hk : M.kind = at8 s 4 := by rw [← hM]; rfl
    have hq : M.seq = 256 * (256 * (256 * (256 * 0 + at8 s 5) + at8 s 6) + at8 s 7) + at8 s 8 := by rw [← hM]; rfl
    have b5 := at8_in s 5
    have b6 := at8_in s 6
    have b7 := at8_in s 7
    have b8 := at8_in s 8
    have hz := enc_size hg
    apply same_at8 (by rw [hz, h32])
    intro k hk32
    rw [hz] at hk32
    by_cases h9 : k < 9
    · match k, h9 with
      | 0, _ => rw [h0, m0]
      | 1, _ => rw [h1, m1]
      | 2, _ => rw [h2, m2]
      | 3, _ => rw [h3, m3]
      | 4, _ => rw [h4, hk]
      | 5, _ => rw [h5, hq]; omega
      | 6, _ => rw [h6, hq]; omega
      | 7, _ => rw [h7, hq]; omega
      | 8, _ => rw [h8, hq]; omega
    · obtain ⟨j, rfl⟩ : ∃ j, k = 9 + j := ⟨k - 9, by omega⟩
      rw [enc_tail hg j, h j (by omega)]

theorem dec_by {s : ByteArray} {M : Mk} {z : Bool} (h32 : s.size = 32) (hM : gsM s = M) (hz : goodM M = 0 → (z = true ↔ encT M = s)) : decOf M z = stampDec s := by
  unfold decOf stampDec
  rw [hM]
  by_cases hg : goodM M = 0
  · by_cases h : z = true
    · rw [if_pos ⟨hg, h⟩, if_pos ⟨h32, hg, (hz hg).1 h⟩]
    · rw [if_neg (fun x => h x.2), if_neg (fun x => h ((hz hg).2 x.2.2))]
  · rw [if_neg (fun x => hg x.1), if_neg (fun x => hg x.2.1)]

theorem dec_one {s : ByteArray} (h32 : s.size = 32) (hm : isMagic s = true) (hk : at8 s 4 = 1) : decOf ⟨1, seqOf s 4, at8 s 9, [], []⟩ (zeroFrom s 10) = stampDec s := by
  have hM : gsM s = ⟨1, seqOf s 4, at8 s 9, [], []⟩ := by rw [gsM, if_pos hk, if_neg (by omega), if_neg (by omega), hk]
  refine dec_by h32 hM fun hg => ?_
  rw [enc_iff h32 hm hM hg, zero_iff]
  have hT : tailB ⟨1, seqOf s 4, at8 s 9, [], []⟩ = [UInt8.ofNat (at8 s 9).toNat] := by rw [tailB, if_pos rfl]
  rw [hT]
  constructor
  · intro h j _
    cases j with
    | zero => exact (ofNat8 (at8_in s 9).1 (at8_in s 9).2).symm
    | succ j => have := h j; rw [show 9 + (j + 1) = 10 + j from by omega, this]; rfl
  · intro h j
    by_cases hj : j < 22
    · have := h (j + 1) (by omega)
      rw [show 10 + j = 9 + (j + 1) from by omega, this]; rfl
    · exact at8_out s _ (by omega)

theorem dec_other {s : ByteArray} (h32 : s.size = 32) (hm : isMagic s = true) (h1 : ¬ at8 s 4 = 1) (h2 : ¬ at8 s 4 = 2) (h3 : ¬ at8 s 4 = 3) : decOf ⟨at8 s 4, seqOf s 4, 0, [], []⟩ (zeroFrom s 9) = stampDec s := by
  have hM : gsM s = ⟨at8 s 4, seqOf s 4, 0, [], []⟩ := by rw [gsM, if_neg h1, if_neg h2, if_neg h3]
  refine dec_by h32 hM fun hg => ?_
  rw [enc_iff h32 hm hM hg, zero_iff]
  have hT : tailB ⟨at8 s 4, seqOf s 4, 0, [], []⟩ = [] := by rw [tailB, if_neg h1, if_neg h2, if_neg h3]
  rw [hT]
  constructor
  · intro h j _
    rw [h j]; rfl
  · intro h j
    by_cases hj : j < 23
    · rw [h j hj]; rfl
    · exact at8_out s _ (by omega)

theorem list_mark {s : ByteArray} (hk : at8 s 4 = 3) : gsM s = ⟨3, seqOf s 4, 0, [], gBlocks s⟩ := by rw [gsM, if_neg (by omega), if_neg (by omega), if_pos hk, hk]
theorem list_tail (s : ByteArray) : tailB ⟨3, seqOf s 4, 0, [], gBlocks s⟩ = UInt8.ofNat (gBlocks s).length :: numB (gBlocks s) := by
  rw [tailB, if_neg (show ¬ ((3 : Int) = 1) by decide), if_neg (show ¬ ((3 : Int) = 2) by decide), if_pos rfl]
theorem numB_out (l : List Int) (i : Nat) (h : l.length ≤ i) : (numB l).getD i 0 = 0 := by
  rw [List.getD, List.getElem?_eq_none (by rw [numB_length]; exact h)]; rfl
theorem tagB_out (l : List (Int × Bool)) (i : Nat) (h : 2 * l.length ≤ i) : (tagB l).getD i 0 = 0 := by
  rw [List.getD, List.getElem?_eq_none (by rw [tagB_length]; exact h)]; rfl

theorem dec_list {s : ByteArray} {n : Nat} (h32 : s.size = 32) (hm : isMagic s = true) (hk : at8 s 4 = 3) (h20 : n ≤ 20) (h9 : at8 s 9 = (n : Int)) : decOf ⟨3, seqOf s 4, 0, [], gBlocks s⟩ (zeroFrom s (10 + n)) = stampDec s := by
  refine dec_by h32 (list_mark hk) fun hg => ?_
  have hl : (gBlocks s).length = n := by rw [gBlocks_length, many_few h9 h20]
  rw [enc_iff h32 hm (list_mark hk) hg, zero_iff, list_tail]
  constructor
  · intro h j hj
    cases j with
    | zero =>
      show at8 s 9 = ((UInt8.ofNat (gBlocks s).length).toNat : Int)
      rw [hl, h9]; simp; omega
    | succ j =>
      rw [List.getD_cons_succ, show 9 + (j + 1) = 10 + j from by omega]
      by_cases hjn : j < n
      · rw [numB_at _ j _ (gBlocks_at s j (by rw [many_few h9 h20]; exact hjn)), ofNat8 (at8_in s _).1 (at8_in s _).2]
      · rw [numB_out _ _ (by omega)]
        have := h (j - n)
        rw [show 10 + n + (j - n) = 10 + j from by omega] at this
        rw [this]; rfl
  · intro h j
    by_cases hj : n + j < 22
    · have := h (n + j + 1) (by omega)
      rw [List.getD_cons_succ, numB_out _ _ (by omega), show 9 + (n + j + 1) = 10 + n + j from by omega] at this
      rw [this]; rfl
    · exact at8_out s _ (by omega)

theorem dec_list_many {s : ByteArray} (h32 : s.size = 32) (hm : isMagic s = true) (hk : at8 s 4 = 3) (h9 : 20 < at8 s 9) : stampDec s = (zeroM, 1) := by
  refine if_neg fun ⟨_, hg, he⟩ => ?_
  rw [list_mark hk] at hg he
  have := (enc_iff h32 hm (list_mark hk) hg).1 he 0 (by omega)
  rw [list_tail, List.getD_cons_zero, gBlocks_length, many_most (show ((20 : Nat) : Int) < at8 s 9 by omega)] at this
  have e : at8 s 9 = 20 := this
  omega

theorem tags_mark {s : ByteArray} (hk : at8 s 4 = 2) : gsM s = ⟨2, seqOf s 4, 0, gTags s, []⟩ := by rw [gsM, if_neg (by omega), if_pos hk, if_neg (by omega), hk]
theorem tags_tail (s : ByteArray) : tailB ⟨2, seqOf s 4, 0, gTags s, []⟩ = UInt8.ofNat (gTags s).length :: tagB (gTags s) := by
  rw [tailB, if_neg (show ¬ ((2 : Int) = 1) by decide), if_pos rfl]

theorem dec_tags {s : ByteArray} {n : Nat} (h32 : s.size = 32) (hm : isMagic s = true) (hk : at8 s 4 = 2) (h10 : n ≤ 10) (h9 : at8 s 9 = (n : Int)) (hf : ∀ i, i < n → at8 s (11 + 2 * i) ≤ 1) : stampDec s = decOf ⟨2, seqOf s 4, 0, gTags s, []⟩ (zeroFrom s (10 + 2 * n)) := by
  symm
  refine dec_by h32 (tags_mark hk) fun hg => ?_
  have hl : (gTags s).length = n := by rw [gTags_length, many_few h9 h10]
  rw [enc_iff h32 hm (tags_mark hk) hg, zero_iff, tags_tail]
  constructor
  · intro h j hj
    cases j with
    | zero =>
      show at8 s 9 = ((UInt8.ofNat (gTags s).length).toNat : Int)
      rw [hl, h9]; simp; omega
    | succ j =>
      rw [List.getD_cons_succ, show 9 + (j + 1) = 10 + j from by omega]
      by_cases hjn : j < 2 * n
      · have hT := tagB_at (gTags s) (j / 2) _ (gTags_at s (j / 2) (by rw [many_few h9 h10]; omega))
        by_cases h0 : j % 2 = 0
        · rw [show j = 2 * (j / 2) from by omega, hT.1, ofNat8 (at8_in s _).1 (at8_in s _).2]
        · have h1 := hf (j / 2) (by omega)
          have h2 := at8_in s (11 + 2 * (j / 2))
          rw [show j = 2 * (j / 2) + 1 from by omega, hT.2, show 10 + (2 * (j / 2) + 1) = 11 + 2 * (j / 2) from by omega]
          have h01 : at8 s (11 + 2 * (j / 2)) = 0 ∨ at8 s (11 + 2 * (j / 2)) = 1 := by omega
          rcases h01 with h01 | h01 <;> rw [h01] <;> rfl
      · rw [tagB_out _ _ (by omega)]
        have := h (j - 2 * n)
        rw [show 10 + 2 * n + (j - 2 * n) = 10 + j from by omega] at this
        rw [this]; rfl
  · intro h j
    by_cases hj : 2 * n + j < 22
    · have := h (2 * n + j + 1) (by omega)
      rw [List.getD_cons_succ, tagB_out _ _ (by omega), show 9 + (2 * n + j + 1) = 10 + 2 * n + j from by omega] at this
      rw [this]; rfl
    · exact at8_out s _ (by omega)

theorem dec_tags_flag {s : ByteArray} {n : Nat} (h32 : s.size = 32) (hm : isMagic s = true) (hk : at8 s 4 = 2) (h10 : n ≤ 10) (h9 : at8 s 9 = (n : Int)) (i : Nat) (hi : i < n) (hf : 1 < at8 s (11 + 2 * i)) : stampDec s = (zeroM, 1) := by
  refine if_neg fun ⟨_, hg, he⟩ => ?_
  rw [tags_mark hk] at hg he
  have := (enc_iff h32 hm (tags_mark hk) hg).1 he (2 * i + 1 + 1) (by omega)
  rw [tags_tail, List.getD_cons_succ] at this
  have hT := tagB_at (gTags s) i _ (gTags_at s i (by rw [many_few h9 h10]; exact hi))
  rw [hT.2, show 9 + (2 * i + 1 + 1) = 11 + 2 * i from by omega] at this
  split at this
  · have e : at8 s (11 + 2 * i) = 1 := this
    omega
  · have e : at8 s (11 + 2 * i) = 0 := this
    omega

theorem dec_tags_many {s : ByteArray} (h32 : s.size = 32) (hm : isMagic s = true) (hk : at8 s 4 = 2) (h9 : 10 < at8 s 9) : stampDec s = (zeroM, 1) := by
  refine if_neg fun ⟨_, hg, he⟩ => ?_
  rw [tags_mark hk] at hg he
  have := (enc_iff h32 hm (tags_mark hk) hg).1 he 0 (by omega)
  rw [tags_tail, List.getD_cons_zero, gTags_length, many_most (show ((10 : Nat) : Int) < at8 s 9 by omega)] at this
  have e : at8 s 9 = 10 := this
  omega

set_option maxHeartbeats 400000 in
/-- wastebookref.DecodeMark: the mark that has just these bytes, or that there is none. -/
theorem decodeMark_new (s : ByteArray) (w : World) :
    Calls Try.prog 98 #[.string s] w fun e w' => ∃ v2, e = .returned (.tuple #[v2, .int .i64 (stampDec s).2]) ∧ IsMkN w' w.heap.size v2 (stampDec s).1 ∧ Below w.heap.size w w' := by
  by_cases h : s.size = 32
  · cases hm : isMagic s with
    | false =>
      rw [dec_magic hm]
      exact decode_magic s w h hm
    | true =>
      by_cases h1 : at8 s 4 = 1
      · have := decode_one s w h hm h1
        rw [dec_one h hm h1] at this
        exact this
      · by_cases h2 : at8 s 4 = 2
        · by_cases h10 : at8 s 9 ≤ 10
          · obtain ⟨n, hn⟩ := Int.eq_ofNat_of_zero_le (at8_in s 9).1
            exact decode_tags s n (stampDec s) w h hm h2 (by omega) hn (dec_tags h hm h2 (by omega) hn) (dec_tags_flag h hm h2 (by omega) hn)
          · rw [dec_tags_many h hm h2 (by omega)]
            exact decode_tags_many s w h hm h2 (by omega)
        · by_cases h3 : at8 s 4 = 3
          · by_cases h20 : at8 s 9 ≤ 20
            · obtain ⟨n, hn⟩ := Int.eq_ofNat_of_zero_le (at8_in s 9).1
              have := decode_list s n w h hm h3 (by omega) hn
              rw [dec_list h hm h3 (by omega) hn] at this
              exact this
            · rw [dec_list_many h hm h3 (by omega)]
              exact decode_list_many s w h hm h3 (by omega)
          · have := decode_other s w h hm h1 h2 h3
            rw [dec_other h hm h1 h2 h3] at this
            exact this
  · have e : stampDec s = (zeroM, 1) := if_neg fun x => h x.1
    rw [e]
    exact decode_short s w h

theorem decodeMark_any (s : ByteArray) (w : World) :
    Calls Try.prog 98 #[.string s] w fun e w' => ∃ v2, e = .returned (.tuple #[v2, .int .i64 (stampDec s).2]) ∧ IsMk w' v2 (stampDec s).1 ∧ Below w.heap.size w w' :=
  (decodeMark_new s w).mono fun _ _ ⟨v2, h1, h2, h3⟩ => ⟨v2, h1, h2.is, h3⟩

end Go.Proofs.Ytjnpndfpajjihab
