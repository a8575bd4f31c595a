/-
  The walks of stamp's own guessTags and guessBlocks.
-/
import Derived.Test.YtjnpndfpajjihaaSGood
import Derived.Test.YtjnpndfpajjihaaMDecode20
import Derived.Test.YtjnpndfpajjihaaMRows
namespace Go.Proofs.Ytjnpndfpajjihaa
open Go.RowKit

/-- How many are named: no more than there may be. -/
def manyOf (s : ByteArray) (most : Nat) : Nat := min (at8 s 9).toNat most
/-- The blocks, the tags that are guessed. -/
def gBlocks (s : ByteArray) : List Int := (List.range (manyOf s 20)).map fun i => at8 s (10 + i)
def gTags (s : ByteArray) : List (Int × Bool) := (List.range (manyOf s 10)).map fun i => (at8 s (10 + 2 * i), at8 s (11 + 2 * i) != 0)
theorem gBlocks_length (s : ByteArray) : (gBlocks s).length = manyOf s 20 := by simp [gBlocks]
theorem gTags_length (s : ByteArray) : (gTags s).length = manyOf s 10 := by simp [gTags]
theorem gBlocks_at (s : ByteArray) (k : Nat) (h : k < manyOf s 20) : (gBlocks s)[k]? = some (at8 s (10 + k)) := by simp [gBlocks, h]
theorem gTags_at (s : ByteArray) (k : Nat) (h : k < manyOf s 10) : (gTags s)[k]? = some (at8 s (10 + 2 * k), at8 s (11 + 2 * k) != 0) := by simp [gTags, h]
theorem many_few {s : ByteArray} {most n : Nat} (h : at8 s 9 = (n : Int)) (hn : n ≤ most) : manyOf s most = n := by rw [manyOf, h, Int.toNat_natCast]; omega
theorem many_most {s : ByteArray} {most : Nat} (h : (most : Int) < at8 s 9) : manyOf s most = most := by rw [manyOf]; omega

set_option maxHeartbeats 2000000 in
set_option maxRecDepth 100000 in
theorem guessBlocks_few (s : ByteArray) (n : Nat) (w : World) (hs : s.size = 32) (hn : n ≤ 20) (h9 : at8 s 9 = (n : Int)) :
    Calls Try.prog 96 #[.string s] w fun e w' => ∃ a2 c2, e = .returned (.slice a2 n c2) ∧ (SegI w' a2 (gBlocks s) ∧ ∀ b off, a2 = some ⟨b, off, none⟩ → w.heap.size ≤ b) ∧ Below w.heap.size w w' := by
  have hB : ∀ k (hk : k < s.size), ((s[k]'hk).toNat : Int) = at8 s k := at8_of s
  have hW := wrap_at8 s
  have hW' : ∀ k, IntKind.i64.wrap (at8 s k) = at8 s k := fun k => by have := at8_in s k; rw [IntKind.wrap_i64]; omega
  have HM : Hid (manyOf s 20 = n) := many_few h9 hn
  have hmk : ∀ w : World, (Instr.makeSlice 45 (.int .i64 (n : Int)) (.int .i64 (n : Int))).run Try.prog w = .ok (.slice (some ⟨w.heap.size, 0, none⟩) n n) (w.alloc (.cells (cellsI (List.replicate n 0)).toArray 3)) := makeI n (by omega)
  have hn' : (n : Int) ≤ 20 := by omega
  obtain ⟨l, hl⟩ : ∃ l, l = gBlocks s := ⟨_, rfl⟩
  have HL : Hid (l.length = n) := by rw [Hid, hl, gBlocks_length, HM.out]
  have HG := hide hl
  clear hl
  go_enter Try.func96, Try.ntmps96
  go_wp2
  go_loopw [12] (fun i wr => ∃ k : Nat, k ≤ n ∧ i = .int .i64 k ∧ Hid (wr.heap[w.heap.size]? = some (.cells (cellsI (fillRow 0 l k)).toArray 3 (0, 0))) ∧ Below w.heap.size w wr) (fun i _ => n - (intOf i).toNat)
  case atStart => exact ⟨0, Nat.zero_le _, rfl, by rw [fill_start, HL.out]; exact heap_alloc_new w _, below1 _ _⟩
  case round =>
    obtain ⟨k, hk, rfl, hbox, hbr⟩ := hrel
    have hsr : w.heap.size < wr.heap.size := (Array.getElem?_eq_some_iff.1 hbox.out).1
    by_cases hlt : k < n
    · have hlt' : (k : Int) < (n : Int) := by omega
      have hk32 : 10 + k < s.size := by omega
      have hT : ((10 : Int) + (k : Int)).toNat = 10 + k := by omega
      obtain ⟨y, hy⟩ : ∃ y, wr.cell? ⟨w.heap.size, k, none⟩ = some (.int .i64 y) := by
        have hlen : k < (fillRow 0 l k).length := by rw [fill_length _ _ _ (by rw [HL.out]; omega), HL.out]; exact hlt
        refine ⟨(fillRow 0 l k)[k], ?_⟩
        rw [cell_of_row wr _ _ _ _ _ hbox.out]
        simp [cellsI, hlen]
      have fz := frozen_of_row wr _ k _ _ hbox.out
      have HX : Hid (l[k]? = some (at8 s (10 + k))) := by rw [Hid, HG.out]; exact gBlocks_at s k (by rw [HM.out]; exact hlt)
      go_wp2
      go_roundw
      case rel =>
        refine ⟨k + 1, by omega, by go_num, ?_, hbr.setCell (by simp) _⟩
        rw [Hid, heap_setCell_same _ _ _ _ _ _ hbox.out, ← fillB_set 0 l k _ HX.out, ← cellsI_set]
        simp
      case measure => simp [intOf]; omega
    · have e : n = k := by omega
      subst e
      have hf := hbox.out
      rw [← HL.out, fill_end] at hf
      have HF := hide hf
      clear hf hbox
      go_wp2
      go_ret
      refine ⟨_, _, rfl, ⟨?_, fun b off e => by cases e; exact Nat.le_refl _⟩, hbr⟩
      rw [← HG.out]
      by_cases h0 : l = []
      · exact .inl h0
      · refine .inr ⟨w.heap.size, 0, rfl, hsr, fun i hi => ?_⟩
        rw [cell_of_row wr _ _ _ _ _ HF.out, Nat.zero_add]
        have := cellsI_at l i hi
        simpa using this

set_option maxHeartbeats 2000000 in
set_option maxRecDepth 100000 in
theorem guessBlocks_most (s : ByteArray) (w : World) (hs : s.size = 32) (h9 : 20 < at8 s 9) :
    Calls Try.prog 96 #[.string s] w fun e w' => ∃ a2 c2, e = .returned (.slice a2 20 c2) ∧ (SegI w' a2 (gBlocks s) ∧ ∀ b off, a2 = some ⟨b, off, none⟩ → w.heap.size ≤ b) ∧ Below w.heap.size w w' := by
  have hB : ∀ k (hk : k < s.size), ((s[k]'hk).toNat : Int) = at8 s k := at8_of s
  have hW := wrap_at8 s
  have hW' : ∀ k, IntKind.i64.wrap (at8 s k) = at8 s k := fun k => by have := at8_in s k; rw [IntKind.wrap_i64]; omega
  have HM : Hid (manyOf s 20 = 20) := many_most h9
  have h9' : ¬ at8 s 9 < 20 := by omega
  have hmk : ∀ w : World, (Instr.makeSlice 45 (.int .i64 20) (.int .i64 20)).run Try.prog w = .ok (.slice (some ⟨w.heap.size, 0, none⟩) 20 20) (w.alloc (.cells (cellsI (List.replicate 20 0)).toArray 3)) := makeI 20 (by omega)
  obtain ⟨l, hl⟩ : ∃ l, l = gBlocks s := ⟨_, rfl⟩
  have HL : Hid (l.length = 20) := by rw [Hid, hl, gBlocks_length, HM.out]
  have HG := hide hl
  clear hl
  go_enter Try.func96, Try.ntmps96
  go_wp2
  go_loopw [12] (fun i wr => ∃ k : Nat, k ≤ 20 ∧ i = .int .i64 k ∧ Hid (wr.heap[w.heap.size]? = some (.cells (cellsI (fillRow 0 l k)).toArray 3 (0, 0))) ∧ Below w.heap.size w wr) (fun i _ => 20 - (intOf i).toNat)
  case atStart => exact ⟨0, Nat.zero_le _, rfl, by rw [fill_start, HL.out]; exact heap_alloc_new w _, below1 _ _⟩
  case round =>
    obtain ⟨k, hk, rfl, hbox, hbr⟩ := hrel
    have hsr : w.heap.size < wr.heap.size := (Array.getElem?_eq_some_iff.1 hbox.out).1
    by_cases hlt : k < 20
    · have hlt' : (k : Int) < 20 := by omega
      have hk32 : 10 + k < s.size := by omega
      have hT : ((10 : Int) + (k : Int)).toNat = 10 + k := by omega
      obtain ⟨y, hy⟩ : ∃ y, wr.cell? ⟨w.heap.size, k, none⟩ = some (.int .i64 y) := by
        have hlen : k < (fillRow 0 l k).length := by rw [fill_length _ _ _ (by rw [HL.out]; omega), HL.out]; exact hlt
        refine ⟨(fillRow 0 l k)[k], ?_⟩
        rw [cell_of_row wr _ _ _ _ _ hbox.out]
        simp [cellsI, hlen]
      have fz := frozen_of_row wr _ k _ _ hbox.out
      have HX : Hid (l[k]? = some (at8 s (10 + k))) := by rw [Hid, HG.out]; exact gBlocks_at s k (by rw [HM.out]; exact hlt)
      go_wp2
      go_roundw
      case rel =>
        refine ⟨k + 1, by omega, by go_num, ?_, hbr.setCell (by simp) _⟩
        rw [Hid, heap_setCell_same _ _ _ _ _ _ hbox.out, ← fillB_set 0 l k _ HX.out, ← cellsI_set]
        simp
      case measure => simp [intOf]; omega
    · have e : k = 20 := by omega
      subst e
      have hf := hbox.out
      rw [← HL.out, fill_end] at hf
      have HF := hide hf
      clear hf hbox
      go_wp2
      go_ret
      refine ⟨_, _, rfl, ⟨?_, fun b off e => by cases e; exact Nat.le_refl _⟩, hbr⟩
      rw [← HG.out]
      by_cases h0 : l = []
      · exact .inl h0
      · refine .inr ⟨w.heap.size, 0, rfl, hsr, fun i hi => ?_⟩
        rw [cell_of_row wr _ _ _ _ _ HF.out, Nat.zero_add]
        have := cellsI_at l i hi
        simpa using this

theorem guessBlocks_any (s : ByteArray) (w : World) (hs : s.size = 32) :
    Calls Try.prog 96 #[.string s] w fun e w' => ∃ a2 c2, e = .returned (.slice a2 (gBlocks s).length c2) ∧ (SegI w' a2 (gBlocks s) ∧ ∀ b off, a2 = some ⟨b, off, none⟩ → w.heap.size ≤ b) ∧ Below w.heap.size w w' := by
  rw [gBlocks_length]
  by_cases h : at8 s 9 ≤ 20
  · obtain ⟨n, hn⟩ := Int.eq_ofNat_of_zero_le (at8_in s 9).1
    rw [many_few hn (by omega)]
    exact guessBlocks_few s n w hs (by omega) hn
  · rw [many_most (show ((20 : Nat) : Int) < at8 s 9 by omega)]
    exact guessBlocks_most s w hs (by omega)

end Go.Proofs.Ytjnpndfpajjihaa
