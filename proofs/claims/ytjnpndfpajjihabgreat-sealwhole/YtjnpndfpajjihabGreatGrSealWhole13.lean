/-
  The walks of stamp's own guess and Decode.
  The walk of stamp.Decode.
  What a log tells, as plain data. Nothing of the program is proved here.
  The walks of package scan's reader: block.
-/
import Derived.Test.YtjnpndfpajjihabGreatGrSealWhole8
import Derived.Test.YtjnpndfpajjihabGreatGrSealWhole3
import Derived.Test.YtjnpndfpajjihabGreatGrSealWhole12
import Derived.Lib.ConvBytes
import Derived.Test.YtjnpndfpajjihabGreatGrSealWhole1
import Derived.Test.YtjnpndfpajjihabGreatGrSealWhole0
import Derived.Test.YtjnpndfpajjihabGreatGrSealWhole7
namespace Go.Proofs.YtjnpndfpajjihabGreat
open Go.RowKit

/-- The bytes of a text as a new row. -/
theorem bytes_of (t : ByteArray) (w : World) : ∃ (c' : Nat) (w' : World), (convert 9 155 (.string t)).run Tryz.prog w = .ok (.slice (some ⟨w.heap.size, 0, none⟩) t.size c') w' ∧ Below w.heap.size w w' ∧ w'.heap.size = w.heap.size + 1 ∧
    ∀ j, j < t.size → w'.cell? ⟨w.heap.size, j, none⟩ = some (.int .u8 (at8 t j)) := by
  have h := run_bytes_of_string (P := Tryz.prog) w 9 155 5 t Tryz.underlying9 Tryz.underlying155 Tryz.underlying5
  refine ⟨_, _, h, ((Below.refl _ _).drew).alloc (by simp) _, by simp, fun j hj => ?_⟩
  have e : (w.drew).heap.size = w.heap.size := by simp
  rw [← e, World.cell?_alloc_mark, bytesRow, Array.getElem?_append_left (by simpa using hj), Array.getElem?_map]
  have hj' : j < t.data.size := hj
  rw [Array.getElem?_eq_getElem hj']
  have := at8_of t j hj
  simp only [Option.map_some, Option.some.injEq, Value.int.injEq, true_and]
  exact this
theorem at8_extract (s : ByteArray) (a b j : Nat) (hb : b ≤ s.size) (h : a + j < b) : at8 (s.extract a b) j = at8 s (a + j) := by
  have hz : j < (s.extract a b).size := by rw [ByteArray.size_extract]; omega
  rw [← at8_of _ j hz, ← at8_of s (a + j) (by omega), ByteArray.getElem_extract]

theorem or_byte (q c : Int) (hq : 0 ≤ q ∧ q ≤ 4294967295) (hc : 0 ≤ c ∧ c ≤ 255) : bits .or .i64 (q * 256) c = 256 * q + c := by
  obtain ⟨a, rfl⟩ := Int.eq_ofNat_of_zero_le hq.1
  obtain ⟨b, rfl⟩ := Int.eq_ofNat_of_zero_le hc.1
  have e : ((a : Int) * 256) = ((a * 256 : Nat) : Int) := by omega
  have h1 : (BitVec.ofInt 64 ((a * 256 : Nat) : Int)).toNat = a * 256 := by
    rw [BitVec.ofInt_natCast, BitVec.toNat_ofNat]; exact Nat.mod_eq_of_lt (by omega)
  have h2 : (BitVec.ofInt 64 (b : Int)).toNat = b := by
    rw [BitVec.ofInt_natCast, BitVec.toNat_ofNat]; exact Nat.mod_eq_of_lt (by omega)
  have h3 : a * 256 ||| b = a * 256 + b := by
    have := Nat.shiftLeft_add_eq_or_of_lt (show b < 2 ^ 8 by omega) a
    rw [Nat.shiftLeft_eq] at this
    exact this.symm
  rw [e]
  show IntKind.i64.wrap ((BitVec.ofInt 64 ((a * 256 : Nat) : Int) ||| BitVec.ofInt 64 (b : Int)).toNat : Int) = _
  rw [BitVec.toNat_or, h1, h2, h3, IntKind.wrap_i64]
  omega

/-- The mark that is guessed. -/
def gsM (s : ByteArray) : Mk := ⟨at8 s 4, seqOf s 4, if at8 s 4 = 1 then at8 s 9 else 0, if at8 s 4 = 2 then gTags s else [], if at8 s 4 = 3 then gBlocks s else []⟩

set_option maxHeartbeats 4000000 in
set_option maxRecDepth 100000 in
theorem guess_any (s : ByteArray) (w : World) (hs : s.size = 32) :
    Calls Tryz.prog 122 #[.string s] w fun e w' => ∃ v2, e = .returned v2 ∧ IsMkN w' w.heap.size v2 (gsM s) ∧ Below w.heap.size w w' := by
  have hB : ∀ k (hk : k < s.size), ((s[k]'hk).toNat : Int) = at8 s k := at8_of s
  have hW := wrap_at8 s
  have hW' : ∀ k, IntKind.i64.wrap (at8 s k) = at8 s k := fun k => by have := at8_in s k; rw [IntKind.wrap_i64]; omega
  have hz : (s.extract 5 9).size = 4 := by rw [ByteArray.size_extract]; omega
  obtain ⟨c2, w2, hcv, hb2, hs2, hc2⟩ := bytes_of (s.extract 5 9) ((w.alloc (Obj.cells #[.int .i64 0, .int .i64 0, .int .i64 0, .slice none 0 0, .slice none 0 0] 103)).alloc (Obj.cells #[.int .i64 (at8 s 4), .int .i64 0, .int .i64 0, .slice none 0 0, .slice none 0 0] 103))
  have hsz : ((w.alloc (Obj.cells #[.int .i64 0, .int .i64 0, .int .i64 0, .slice none 0 0, .slice none 0 0] 103)).alloc (Obj.cells #[.int .i64 (at8 s 4), .int .i64 0, .int .i64 0, .slice none 0 0, .slice none 0 0] 103)).heap.size = w.heap.size + 2 := by simp
  have HC2 : Hid (∀ j, j < 4 → w2.cell? ⟨w.heap.size + 2, j, none⟩ = some (.int .u8 (at8 s (5 + j)))) := by
    intro j hj
    rw [← hsz, hc2 j (by omega), at8_extract s 5 9 j (by omega) (by omega)]
  have HB2 := hide hb2
  have HS2 : Hid (w2.heap.size = w.heap.size + 3) := by rw [Hid, hs2, hsz]
  rw [hsz, hz] at hcv
  clear hc2 hb2 hs2 hsz
  go_enter Tryz.func122, Tryz.ntmps122
  go_wp2
  go_loopw [14] (fun i wr => ∃ k : Nat, k ≤ 4 ∧ i = .int .i64 k ∧ wr.heap[w.heap.size + 1]? = some (.cells #[.int .i64 (at8 s 4), .int .i64 (seqOf s k), .int .i64 0, .slice none 0 0, .slice none 0 0] 103 (0, 0)) ∧
    Hid (∀ j, j < 4 → wr.cell? ⟨w.heap.size + 2, j, none⟩ = some (.int .u8 (at8 s (5 + j)))) ∧ w.heap.size + 2 < wr.heap.size ∧ 
    Below (w.heap.size + 1) (w.alloc (Obj.cells #[.int .i64 0, .int .i64 0, .int .i64 0, .slice none 0 0, .slice none 0 0] 103)) wr) (fun i _ => 4 - (intOf i).toNat)
  case atStart =>
    refine ⟨0, Nat.zero_le _, rfl, keep2 HB2.out, HC2, by rw [HS2.out]; omega, ?_⟩
    exact ((Below.refl _ _).alloc (by simp) _).trans (HB2.out.mono (by simp))
  case round =>
    obtain ⟨k, hk, rfl, hbox, hcs, hsr2, hbr⟩ := hrel
    have HBOX := hide hbox
    obtain ⟨⟨x0, x1, x2, x3, x4⟩, e0, e1, e2, e3, e4⟩ := box5 hbox
    clear hbox
    have hsr : w.heap.size + 1 < wr.heap.size := by omega
    have hsr' : w.heap.size < wr.heap.size := by omega
    by_cases hlt : k < 4
    · have hlt' : (k : Int) < 4 := by omega
      have hck := hcs.out k hlt
      obtain ⟨q, hq⟩ : ∃ q, q = seqOf s k := ⟨_, rfl⟩
      have hq1 := seqOf_lt s k (by omega)
      rw [← hq] at x1 hq1
      have HQ := hide hq
      clear hq
      have hor := or_byte q (at8 s (5 + k)) hq1 (at8_in s (5 + k))
      go_wp2
      go_roundw
      case rel =>
        refine ⟨k + 1, by omega, by go_num, ?_, ?_, by simpa using hsr2, hbr.setCell (by simp) _⟩
        · refine (heap_setCell_same wr _ _ _ _ _ HBOX.out).trans ?_
          rw [seqOf, ← HQ.out, Nat.add_comm k 5]; rfl
        · intro j hj
          exact cellSet (hcs.out j hj) (by simp)
      case measure => simp [intOf]; omega
    · obtain rfl : k = 4 := by omega
      obtain ⟨⟨y0, y1, y2, y3, y4⟩, f0, f1, f2, f3, f4⟩ := box5 (keepR hbr)
      have HB := hide (bthen (below1 _ _) (hbr.mono (by simp)))
      clear hbr hlt hk hcs hsr2
      by_cases h1 : at8 s 4 = 1
      · have HG : Hid (gsM s = ⟨at8 s 4, seqOf s 4, at8 s 9, [], []⟩) := by
          rw [Hid, gsM, if_pos h1, if_neg (by omega), if_neg (by omega)]
        go_wp2
        refine bodyPost_ret (v := .agg #[.int .i64 (at8 s 4), .int .i64 (seqOf s 4), .int .i64 (at8 s 9), .slice none 0 0, .slice none 0 0]) (by simp [results, Tryz.results122, go_sem, y0, y1, y2, y3, y4, h1]) rfl ⟨_, rfl, ?_, ?_⟩
        · rw [HG.out]; exact ⟨none, 0, none, 0, rfl, .inl rfl, .inl rfl, Nat.zero_le _, Nat.zero_le _, fun _ _ e => (by cases e), fun _ _ e => (by cases e)⟩
        · repeat refine Below.setCell ?_ (by simp) _
          exact HB.out
      · by_cases h2 : at8 s 4 = 2
        · have HG : Hid (gsM s = ⟨at8 s 4, seqOf s 4, 0, gTags s, []⟩) := by
            rw [Hid, gsM, if_neg h1, if_pos h2, if_neg (by omega)]
          go_wp2_with fail
          refine (guessTags_any s _ hs).mono ?_
          rintro e w3 ⟨a3, c3, rfl, hS3, hb3⟩
          have HS3 := hide hS3
          have hs3 : w.heap.size + 1 < w3.heap.size := by have := hb3.size; omega
          have hs3' : w.heap.size < w3.heap.size := by omega
          obtain ⟨⟨z0, z1, z2, z3, z4⟩, g0, g1, g2, g3, g4⟩ := box5 ((hb3.block _ hsr).trans HBOX.out)
          replace y0 := cellKeep hb3 (by omega) y0
          replace y1 := cellKeep hb3 (by omega) y1
          replace y2 := cellKeep hb3 (by omega) y2
          replace y3 := cellKeep hb3 (by omega) y3
          replace y4 := cellKeep hb3 (by omega) y4
          replace f0 := frozKeep hb3 (by omega) f0
          replace f1 := frozKeep hb3 (by omega) f1
          replace f2 := frozKeep hb3 (by omega) f2
          replace f3 := frozKeep hb3 (by omega) f3
          replace f4 := frozKeep hb3 (by omega) f4
          have HB3 := hide (bthen HB.out hb3)
          have n3 : ∀ b off, a3 = some ⟨b, off, none⟩ → w.heap.size + 2 ≤ b := fun b off e => by have := HS3.out.2 b off e; omega
          have N3 := hide n3
          clear hS3 hb3 x0 x1 x2 x3 x4 e0 e1 e2 e3 e4 n3
          go_wp2
          refine bodyPost_ret (v := .agg #[.int .i64 (at8 s 4), .int .i64 (seqOf s 4), .int .i64 0, .slice a3 (gTags s).length c3, .slice none 0 0]) (by simp [results, Tryz.results122, go_sem, y0, y1, y2, y3, y4, h2]) rfl ⟨_, rfl, ?_, ?_⟩
          · rw [HG.out]
            refine ⟨a3, c3, none, 0, rfl, ?_, .inl rfl, ?_, Nat.zero_le _, fun b off e => (by have := N3.out b off e; omega), fun _ _ e => (by cases e)⟩
            · repeat refine SegT.setNe ?_ (fun b off e => by have := N3.out b off e; simp; omega) _
              exact HS3.out.1
            · show (gTags s).length ≤ maxLen
              rw [gTags_length, manyOf]; unfold maxLen; omega
          · repeat refine Below.setCell ?_ (by simp) _
            exact HB3.out
        · by_cases h3 : at8 s 4 = 3
          · have HG : Hid (gsM s = ⟨at8 s 4, seqOf s 4, 0, [], gBlocks s⟩) := by
              rw [Hid, gsM, if_neg h1, if_neg h2, if_pos h3]
            go_wp2_with fail
            refine (guessBlocks_any s _ hs).mono ?_
            rintro e w3 ⟨a3, c3, rfl, hS3, hb3⟩
            have HS3 := hide hS3
            have hs3 : w.heap.size + 1 < w3.heap.size := by have := hb3.size; omega
            have hs3' : w.heap.size < w3.heap.size := by omega
            obtain ⟨⟨z0, z1, z2, z3, z4⟩, g0, g1, g2, g3, g4⟩ := box5 ((hb3.block _ hsr).trans HBOX.out)
            replace y0 := cellKeep hb3 (by omega) y0
            replace y1 := cellKeep hb3 (by omega) y1
            replace y2 := cellKeep hb3 (by omega) y2
            replace y3 := cellKeep hb3 (by omega) y3
            replace y4 := cellKeep hb3 (by omega) y4
            replace f0 := frozKeep hb3 (by omega) f0
            replace f1 := frozKeep hb3 (by omega) f1
            replace f2 := frozKeep hb3 (by omega) f2
            replace f3 := frozKeep hb3 (by omega) f3
            replace f4 := frozKeep hb3 (by omega) f4
            have HB3 := hide (bthen HB.out hb3)
            have n3 : ∀ b off, a3 = some ⟨b, off, none⟩ → w.heap.size + 2 ≤ b := fun b off e => by have := HS3.out.2 b off e; omega
            have N3 := hide n3
            clear hS3 hb3 x0 x1 x2 x3 x4 e0 e1 e2 e3 e4 n3
            go_wp2
            refine bodyPost_ret (v := .agg #[.int .i64 (at8 s 4), .int .i64 (seqOf s 4), .int .i64 0, .slice none 0 0, .slice a3 (gBlocks s).length c3]) (by simp [results, Tryz.results122, go_sem, y0, y1, y2, y3, y4, h3]) rfl ⟨_, rfl, ?_, ?_⟩
            · rw [HG.out]
              refine ⟨none, 0, a3, c3, rfl, .inl rfl, ?_, Nat.zero_le _, ?_, fun _ _ e => (by cases e), fun b off e => (by have := N3.out b off e; omega)⟩
              · repeat refine SegI.setNe ?_ (fun b off e => by have := N3.out b off e; simp; omega) _
                exact HS3.out.1
              · show (gBlocks s).length ≤ maxLen
                rw [gBlocks_length, manyOf]; unfold maxLen; omega
            · repeat refine Below.setCell ?_ (by simp) _
              exact HB3.out
          · have HG : Hid (gsM s = ⟨at8 s 4, seqOf s 4, 0, [], []⟩) := by
              rw [Hid, gsM, if_neg h1, if_neg h2, if_neg h3]
            have k1 : (at8 s 4 == 1) = false := by simpa using h1
            have k2 : (at8 s 4 == 2) = false := by simpa using h2
            have k3 : (at8 s 4 == 3) = false := by simpa using h3
            go_wp2
            refine bodyPost_ret (v := .agg #[.int .i64 (at8 s 4), .int .i64 (seqOf s 4), .int .i64 0, .slice none 0 0, .slice none 0 0]) (by simp [results, Tryz.results122, go_sem, y0, y1, y2, y3, y4]) rfl ⟨_, rfl, ?_, ?_⟩
            · rw [HG.out]; exact ⟨none, 0, none, 0, rfl, .inl rfl, .inl rfl, Nat.zero_le _, Nat.zero_le _, fun _ _ e => (by cases e), fun _ _ e => (by cases e)⟩
            · repeat refine Below.setCell ?_ (by simp) _
              exact HB.out

end Go.Proofs.YtjnpndfpajjihabGreat

namespace Go.Proofs.YtjnpndfpajjihabGreat
open Go.RowKit

theorem list_ne {s t : ByteArray} (h : ¬ t = s) : (t.toList == s.toList) = false := by
  rw [beq_eq_false_iff_ne]
  intro e
  rw [ByteArray.toList_eq, ByteArray.toList_eq] at e
  exact h (ByteArray.ext (Array.ext' e))

/-- What Decode answers. -/
def stampDec (s : ByteArray) : Mk × Int := if s.size = 32 ∧ goodM (gsM s) = 0 ∧ encT (gsM s) = s then (gsM s, 0) else (zeroM, 1)

set_option maxHeartbeats 2000000 in
set_option maxRecDepth 100000 in
theorem stampDecode_short (s : ByteArray) (w : World) (h : ¬ s.size = 32) :
    Calls Tryz.prog 83 #[.string s] w fun e w' => ∃ v2, e = .returned (.tuple #[v2, .int .i64 1]) ∧ IsMkN w' w.heap.size v2 zeroM ∧ Below w.heap.size w w' := by
  have h' : ((s.size : Int) != 32) = true := by
    rw [bne_iff_ne]; omega
  go_enter Tryz.func83, Tryz.ntmps83
  go_wp2
  refine bodyPost_ret (v := .tuple #[.agg #[.int .i64 0, .int .i64 0, .int .i64 0, .slice none 0 0, .slice none 0 0], .int .i64 1]) (by simp [results, Tryz.results83, go_sem]) rfl ⟨_, rfl, isZeroN _ _, ?_⟩
  repeat refine Below.setCell ?_ (by simp) _
  exact below1 _ _

set_option maxHeartbeats 4000000 in
set_option maxRecDepth 100000 in
theorem stampDecode_full (s : ByteArray) (w : World) (h : s.size = 32) :
    Calls Tryz.prog 83 #[.string s] w fun e w' => ∃ v2, e = .returned (.tuple #[v2, .int .i64 (stampDec s).2]) ∧ IsMkN w' w.heap.size v2 (stampDec s).1 ∧ Below w.heap.size w w' := by
  go_enter Tryz.func83, Tryz.ntmps83
  go_wp2_with fail
  refine (guess_any s _ h).mono ?_
  rintro e w1 ⟨v1, rfl, hd1, hb1⟩
  obtain ⟨m, hm⟩ : ∃ m, m = gsM s := ⟨_, rfl⟩
  rw [← hm] at hd1
  obtain ⟨a, c, a', c', rfl, hT, hI, hl, hl', hA, hA'⟩ := hd1
  have HD1 : Hid (IsMk w1 (.agg #[.int .i64 m.kind, .int .i64 m.seq, .int .i64 m.pos, .slice a m.tags.length c, .slice a' m.blocks.length c']) m) := ⟨a, c, a', c', rfl, hT, hI, hl, hl'⟩
  have HT := hide hT
  have HI := hide hI
  have HL := hide (And.intro hl hl')
  have HA : Hid ((∀ b off, a = some ⟨b, off, none⟩ → w.heap.size + 1 ≤ b) ∧ ∀ b off, a' = some ⟨b, off, none⟩ → w.heap.size + 1 ≤ b) := ⟨fun b off e => (by have := hA b off e; simp at this; omega), fun b off e => (by have := hA' b off e; simp at this; omega)⟩
  clear hT hI hl hl' hA hA'
  have hs1 : w.heap.size < w1.heap.size := by have := hb1.size; simp at this; omega
  obtain ⟨⟨y0, y1, y2, y3, y4⟩, f0, f1, f2, f3, f4⟩ := box5 (keep0 hb1)
  have HB1 := hide (bthen (below1 _ _) hb1)
  have HM := hide hm
  clear hb1 hm
  go_wp2_with fail
  refine (stampEncode_any _ m _ (HD1.out.below (below1 _ _))).mono ?_
  rintro e w2 ⟨rfl, hb2⟩
  have hs2 : w1.heap.size < w2.heap.size := by have := hb2.size; simp at this; omega
  have hs2' : w.heap.size < w2.heap.size := by omega
  obtain ⟨⟨x0, x1, x2, x3, x4⟩, _⟩ := box5 (keep0 hb2)
  have hb12 := bthen (below1 _ _) hb2
  replace y0 := cellKeep hb12 (by omega) y0
  replace y1 := cellKeep hb12 (by omega) y1
  replace y2 := cellKeep hb12 (by omega) y2
  replace y3 := cellKeep hb12 (by omega) y3
  replace y4 := cellKeep hb12 (by omega) y4
  replace f0 := frozKeep hb12 (by omega) f0
  replace f1 := frozKeep hb12 (by omega) f1
  replace f2 := frozKeep hb12 (by omega) f2
  replace f3 := frozKeep hb12 (by omega) f3
  replace f4 := frozKeep hb12 (by omega) f4
  have HT2 := hide (HT.out.below hb12)
  have HI2 := hide (HI.out.below hb12)
  have HB2 := hide (bthen HB1.out hb12)
  clear hb2 hb12 HB1
  by_cases hg : goodM m = 0
  · obtain ⟨t, ht⟩ : ∃ t, t = encT m := ⟨_, rfl⟩
    rw [← ht, hg]
    by_cases hE : t = s
    · have HD : Hid (stampDec s = (m, 0)) := by
        rw [Hid, stampDec, ← HM.out, if_pos ⟨h, hg, by rw [← ht]; exact hE⟩]
      clear ht hg
      subst hE
      go_wp2
      refine bodyPost_ret (v := .tuple #[.agg #[.int .i64 m.kind, .int .i64 m.seq, .int .i64 m.pos, .slice a m.tags.length c, .slice a' m.blocks.length c'], .int .i64 0]) (by simp [results, Tryz.results83, go_sem, y0, y1, y2, y3, y4]) rfl ⟨_, by rw [HD.out], ?_, ?_⟩
      · rw [HD.out]
        refine ⟨a, c, a', c', rfl, ?_, ?_, HL.out.1, HL.out.2, fun b off e => (by have := HA.out.1 b off e; omega), fun b off e => (by have := HA.out.2 b off e; omega)⟩
        · repeat refine SegT.setNe ?_ (fun b off e => by have := HA.out.1 b off e; simp; omega) _
          exact HT2.out
        · repeat refine SegI.setNe ?_ (fun b off e => by have := HA.out.2 b off e; simp; omega) _
          exact HI2.out
      · repeat refine Below.setCell ?_ (by simp) _
        exact HB2.out
    · have HD : Hid (stampDec s = (zeroM, 1)) := by
        rw [Hid, stampDec, ← HM.out, if_neg (fun x => hE (by rw [ht]; exact x.2.2))]
      have hE' := list_ne hE
      clear ht hg
      go_wp2
      refine bodyPost_ret (v := .tuple #[.agg #[.int .i64 0, .int .i64 0, .int .i64 0, .slice none 0 0, .slice none 0 0], .int .i64 1]) (by simp [results, Tryz.results83, go_sem, y0, y1, y2, y3, y4]) rfl ⟨_, by rw [HD.out], by rw [HD.out]; exact isZeroN _ _, ?_⟩
      repeat refine Below.setCell ?_ (by simp) _
      exact HB2.out
  · have HD : Hid (stampDec s = (zeroM, 1)) := by
      rw [Hid, stampDec, ← HM.out, if_neg (fun x => hg x.2.1)]
    have hg' : (goodM m != 0) = true := by simpa using hg
    go_wp2
    refine bodyPost_ret (v := .tuple #[.agg #[.int .i64 0, .int .i64 0, .int .i64 0, .slice none 0 0, .slice none 0 0], .int .i64 1]) (by simp [results, Tryz.results83, go_sem, y0, y1, y2, y3, y4]) rfl ⟨_, by rw [HD.out], by rw [HD.out]; exact isZeroN _ _, ?_⟩
    repeat refine Below.setCell ?_ (by simp) _
    exact HB2.out

/-- stamp.Decode: the mark that has just these bytes, or that there is none. -/
theorem stampDecode_new (s : ByteArray) (w : World) :
    Calls Tryz.prog 83 #[.string s] w fun e w' => ∃ v2, e = .returned (.tuple #[v2, .int .i64 (stampDec s).2]) ∧ IsMkN w' w.heap.size v2 (stampDec s).1 ∧ Below w.heap.size w w' := by
  by_cases h : s.size = 32
  · exact stampDecode_full s w h
  · have e : stampDec s = (zeroM, 1) := if_neg fun x => h x.1
    rw [e]
    exact stampDecode_short s w h

theorem stampDecode_any (s : ByteArray) (w : World) :
    Calls Tryz.prog 83 #[.string s] w fun e w' => ∃ v2, e = .returned (.tuple #[v2, .int .i64 (stampDec s).2]) ∧ IsMk w' v2 (stampDec s).1 ∧ Below w.heap.size w w' :=
  (stampDecode_new s w).mono fun _ _ ⟨v2, h1, h2, h3⟩ => ⟨v2, h1, h2.is, h3⟩

end Go.Proofs.YtjnpndfpajjihabGreat

namespace Go.Proofs.YtjnpndfpajjihabGreat
open Go.RowKit

/-- A transaction of a number with nothing in it. -/
def txOf (seq : Int) : Tx := ⟨seq, [], [], [], ⟨false, 0⟩, ⟨false, 0⟩, ⟨false, 0⟩⟩
/-- The copies that stand behind a descriptor, from a place on. -/
def copiesAt (log : List ByteArray) : Nat → List (Int × Bool) → List (Int × ByteArray)
  | _, [] => []
  | i, x :: r => (x.1, unescT (log.getD i ByteArray.empty) x.2) :: copiesAt log (i + 1) r
theorem copiesAt_length (log : List ByteArray) (i : Nat) (l : List (Int × Bool)) : (copiesAt log i l).length = l.length := by
  induction l generalizing i with
  | nil => rfl
  | cons x r ih => simp [copiesAt, ih]
theorem copiesAt_take {l : List (Int × Bool)} {k : Nat} {x : Int × Bool} (h : l[k]? = some x) (log : List ByteArray) (i : Nat) : copiesAt log i (l.take (k + 1)) = copiesAt log i (l.take k) ++ [(x.1, unescT (log.getD (i + k) ByteArray.empty) x.2)] := by
  induction l generalizing i k with
  | nil => simp at h
  | cons y r ih =>
    cases k with
    | zero => simp at h; subst h; rfl
    | succ k =>
      have := ih (k := k) (by simpa using h) (i + 1)
      rw [List.take_succ_cons, List.take_succ_cons, copiesAt, copiesAt, this, show i + 1 + k = i + (k + 1) from by omega]
      rfl
/-- A transaction behind one more list or descriptor. -/
def more (log : List ByteArray) (i : Nat) (t : Tx) (m : Mk) : Tx := { t with rev := t.rev ++ m.blocks, info := t.info ++ copiesAt log (i + 1) m.tags }
/-- What a transaction of a number is, gone on from a place; where it ends. -/
def runT (log : List ByteArray) (seq : Int) (i : Nat) (t : Tx) : Option (Nat × Tx) :=
  if _h : i < log.length then
    if (stampDec (log.getD i ByteArray.empty)).2 ≠ 0 ∨ (stampDec (log.getD i ByteArray.empty)).1.seq ≠ seq ∨ (stampDec (log.getD i ByteArray.empty)).1.kind = 1 then none
    else if (stampDec (log.getD i ByteArray.empty)).1.kind = 4 then some (i + 1, t)
    else if i + 1 + (stampDec (log.getD i ByteArray.empty)).1.tags.length ≤ log.length then runT log seq (i + 1 + (stampDec (log.getD i ByteArray.empty)).1.tags.length) (more log i t (stampDec (log.getD i ByteArray.empty)).1)
    else none
  else none
termination_by log.length - i
decreasing_by omega
/-- The transactions of a log, from a place and a number on; where they end. -/
def scanP (log : List ByteArray) (pos : Nat) (seq : Int) (acc : List Tx) : List Tx × Nat :=
  if _h : seq < 2147483647 then
    match runT log seq pos (txOf seq) with
    | none => (acc, pos)
    | some (n, t) => scanP log n (seq + 1) (acc ++ [t])
  else (acc, pos)
termination_by (2147483647 - seq).toNat
decreasing_by omega
/-- The log of a disk, from a place on, once round. -/
def logOf (d : Dk) (at0 : Int) : List ByteArray := (List.range 24).map fun i : Nat => readT d (1 + (at0 + (i : Int)) % 24)
theorem logOf_length (d : Dk) (a : Int) : (logOf d a).length = 24 := by simp [logOf]
theorem logOf_at (d : Dk) (a : Int) (i : Nat) (h : i < 24) : (logOf d a).getD i ByteArray.empty = readT d (1 + (a + (i : Int)) % 24) := by
  rw [logOf, List.getD, List.getElem?_map, List.getElem?_range h]; rfl
/-- Scan: its error, and what it finds. -/
def superM (d : Dk) : Mk := (stampDec (readT d 0)).1
def scanE (d : Dk) : Int := if readE d 0 ≠ 0 then readE d 0 else if (stampDec (readT d 0)).2 ≠ 0 ∨ (superM d).kind ≠ 1 then 1 else 0
def scanL (d : Dk) : List Tx × Nat := scanP (logOf d (superM d).pos) 0 (superM d).seq []

theorem runT_bound (log : List ByteArray) (seq : Int) : ∀ (f i : Nat) (t : Tx) (n : Nat) (u : Tx), log.length - i ≤ f → runT log seq i t = some (n, u) → i < n ∧ n ≤ log.length := by
  intro f
  induction f with
  | zero => intro i t n u hf h; rw [runT, dif_neg (by omega)] at h; cases h
  | succ f ih =>
    intro i t n u hf h
    rw [runT] at h
    split at h
    · split at h
      · cases h
      · split at h
        · cases h; omega
        · split at h
          · have := ih _ _ _ _ (by omega) h; omega
          · cases h
    · cases h
theorem dropD_getD {α : Type} (l : List α) (p i : Nat) (x : α) : (l.drop p).getD i x = l.getD (p + i) x := by
  rw [List.getD, List.getD, List.getElem?_drop]
theorem copiesAt_drop (log : List ByteArray) (p i : Nat) (l : List (Int × Bool)) : copiesAt (log.drop p) i l = copiesAt log (p + i) l := by
  induction l generalizing i with
  | nil => rfl
  | cons x r ih => rw [copiesAt, copiesAt, dropD_getD, ih, Nat.add_assoc]
theorem runT_drop (log : List ByteArray) (seq : Int) (p : Nat) (hp : p ≤ log.length) : ∀ (f i : Nat) (t : Tx), log.length - (p + i) ≤ f → runT (log.drop p) seq i t = (runT log seq (p + i) t).map (fun x => (x.1 - p, x.2)) := by
  intro f
  induction f with
  | zero => intro i t hf; rw [runT.eq_def (log.drop p) seq i t, runT.eq_def log seq (p + i) t, dif_neg (by rw [List.length_drop]; omega), dif_neg (by omega)]; rfl
  | succ f ih =>
    intro i t hf
    rw [runT.eq_def (log.drop p) seq i t, runT.eq_def log seq (p + i) t]
    by_cases h : p + i < log.length
    · rw [dif_pos (by rw [List.length_drop]; omega), dif_pos h, dropD_getD]
      by_cases h1 : (stampDec (log.getD (p + i) ByteArray.empty)).2 ≠ 0 ∨ (stampDec (log.getD (p + i) ByteArray.empty)).1.seq ≠ seq ∨ (stampDec (log.getD (p + i) ByteArray.empty)).1.kind = 1
      · rw [if_pos h1, if_pos h1]; rfl
      · rw [if_neg h1, if_neg h1]
        by_cases h2 : (stampDec (log.getD (p + i) ByteArray.empty)).1.kind = 4
        · rw [if_pos h2, if_pos h2]
          simp only [Option.map_some]
          rw [show p + i + 1 - p = i + 1 from by omega]
        · rw [if_neg h2, if_neg h2]
          by_cases h3 : p + i + 1 + (stampDec (log.getD (p + i) ByteArray.empty)).1.tags.length ≤ log.length
          · rw [if_pos (by rw [List.length_drop]; omega), if_pos h3, ih _ _ (by omega)]
            rw [show p + (i + 1 + (stampDec (log.getD (p + i) ByteArray.empty)).1.tags.length) = p + i + 1 + (stampDec (log.getD (p + i) ByteArray.empty)).1.tags.length from by omega]
            unfold more
            rw [copiesAt_drop, show p + (i + 1) = p + i + 1 from by omega]
          · rw [if_neg (by rw [List.length_drop]; omega), if_neg h3]; rfl
    · rw [dif_neg (by rw [List.length_drop]; omega), dif_neg h]; rfl

end Go.Proofs.YtjnpndfpajjihabGreat

namespace Go.Proofs.YtjnpndfpajjihabGreat
open Go.RowKit

/-- The reader of a log, at a place behind where it began: block R. -/
def Rd (w : World) (R : Nat) (a : Option Addr) (c : Nat) (a' : Option Addr) (c' : Nat) (d : Dk) (p0 i : Nat) : Prop :=
  w.heap[R]? = some (.cells #[.slice a d.safe.length c, .slice a' d.wr.length c', .int .i64 (((p0 + i) % 24 : Nat) : Int), .int .i64 ((24 - i : Nat) : Int)] 126 (0, 0))
theorem box4 {w : World} {B : Nat} {v0 v1 v2 v3 : Value} {t : TypeId} (h : w.heap[B]? = some (.cells #[v0, v1, v2, v3] t (0, 0))) :
    (w.cell? ⟨B, 0, none⟩ = some v0 ∧ w.cell? ⟨B, 1, none⟩ = some v1 ∧ w.cell? ⟨B, 2, none⟩ = some v2 ∧ w.cell? ⟨B, 3, none⟩ = some v3) ∧ ∀ k, w.frozen? ⟨B, k, none⟩ = false := by
  refine ⟨⟨?_, ?_, ?_, ?_⟩, fun k => frozen_of_row w _ _ _ _ h⟩ <;> (rw [cell_of_row w _ _ _ _ _ h]; rfl)
theorem But.below {R base : Nat} {w w' w0 : World} (h : But R w.heap.size w w') (hb : Below base w0 w) (hw : base ≤ w.heap.size) (hR : base ≤ R) : Below base w0 w' :=
  ⟨h.os.trans hb.os, h.tape.trans hb.tape, h.output.trans hb.output, Nat.le_trans hb.size h.size, fun k hk => (h.block k (by omega) (by omega)).trans (hb.block k hk)⟩
theorem But.setCell {R base o : Nat} {w w' : World} (h : But R base w w') (u : Value) : But R base w (w'.setCell ⟨R, o, none⟩ u) := by
  refine ⟨h.os, h.tape, h.output, by simpa [World.setCell] using h.size, fun k hk hn => ?_⟩
  rw [World.setCell]
  simp only [Array.getElem?_modify]
  rw [if_neg (fun x => hn x.symm)]
  exact h.block k hk hn
theorem good_read {d : Dk} (h : goodB d = true) {p : Nat} (hp : p < 24) : readE d (1 + (p : Int)) = 0 := by
  have : placeB (1 + (p : Int)) = true := by simp [placeB]; omega
  simp [readE, h, this]

set_option maxHeartbeats 2000000 in
set_option maxRecDepth 100000 in
theorem block_end (R : Nat) (a : Option Addr) (c : Nat) (a' : Option Addr) (c' : Nat) (d : Dk) (p0 : Nat) (w : World) (hR : Rd w R a c a' c' d p0 24) :
    Calls Tryz.prog 151 #[.pointer (some ⟨R, 0, none⟩)] w fun e w' => e = .returned (.tuple #[.string ⟨#[]⟩, .bool false]) ∧ w = w' := by
  obtain ⟨⟨x0, x1, x2, x3⟩, ff⟩ := box4 hR
  clear hR
  simp only [Nat.sub_self] at x3
  go_enter Tryz.func151, Tryz.ntmps151
  go_wp2
  exact bodyPost_ret (v := .tuple #[.string ⟨#[]⟩, .bool false]) (by simp [results, Tryz.results151, go_sem]) rfl ⟨rfl, rfl⟩

set_option maxHeartbeats 4000000 in
set_option maxRecDepth 100000 in
theorem block_next (R : Nat) (a : Option Addr) (c : Nat) (a' : Option Addr) (c' : Nat) (d : Dk) (p0 i : Nat) (w w0 : World) (hR : Rd w R a c a' c' d p0 i) (hi : i < 24) (hD : IsDk w0 (.agg #[.slice a d.safe.length c, .slice a' d.wr.length c']) d) (hg : goodB d = true) (hb : Below w0.heap.size w0 w) :
    Calls Tryz.prog 151 #[.pointer (some ⟨R, 0, none⟩)] w fun e w' => e = .returned (.tuple #[.string (readT d (1 + (((p0 + i) % 24 : Nat) : Int))), .bool true]) ∧ Rd w' R a c a' c' d p0 (i + 1) ∧ But R w.heap.size w w' := by
  have HR := hide hR
  have hRl : R < w.heap.size := (Array.getElem?_eq_some_iff.1 hR).1
  obtain ⟨p, hp⟩ : ∃ p, p = (p0 + i) % 24 := ⟨_, rfl⟩
  have hp24 : p < 24 := by omega
  have HP2 : Hid ((p0 + (i + 1)) % 24 = (p + 1) % 24) := by rw [Hid, hp]; omega
  have HP := hide hp
  have HP0 : Hid ((((p0 + i) % 24 : Nat) : Int) = (p : Int)) := by rw [Hid, ← hp]
  obtain ⟨⟨x0, x1, x2, x3⟩, ff⟩ := box4 hR
  rw [← hp] at x2 ⊢
  have HD := hide hD
  have HBW := hide hb
  have HE := hide (good_read hg hp24)
  clear hR hD hb hp
  have hl0 : ((24 - i : Nat) : Int) = 24 - (i : Int) := by omega
  rw [hl0] at x3
  have hne : ((24 - (i : Int)) == 0) = false := by rw [beq_eq_false_iff_ne]; omega
  have ew : IntKind.i64.wrap (1 + (p : Int)) = 1 + (p : Int) := by rw [IntKind.wrap_i64]; omega
  have ew2 : IntKind.i64.wrap ((p : Int) + 1) = (p : Int) + 1 := by rw [IntKind.wrap_i64]; omega
  have em : ((p : Int) + 1).tmod 24 = (((p + 1) % 24 : Nat) : Int) := by rw [Int.tmod_eq_emod_of_nonneg (by omega)]; omega
  go_enter Tryz.func151, Tryz.ntmps151
  go_wp2
  go_region_with (go_at_call 82; refine (read_any _ d (1 + (p : Int)) _ (HD.out.below (bthen HBW.out ((Below.refl _ _).drew)))).mono ?_; rintro e w1 ⟨rfl, hb1⟩; rw [HE.out]; have hb1' : Below w.heap.size w w1 := ((Below.refl _ _).drew).trans hb1; have hR1 := boxKeep hb1' hRl HR.out; obtain ⟨⟨y0, y1, y2, y3⟩, fg⟩ := box4 hR1)
  all_goals
    have HR1 := hide hR1
    have HB1 := hide hb1'
    rw [HP0.out] at y2
    rw [hl0] at y3
    clear hb1 hb1' hR1 x0 x1 x2 x3 ff HD HBW HR
    go_wp2
    refine bodyPost_ret (v := .tuple #[.string (readT d (1 + (p : Int))), .bool true]) (by simp [results, Tryz.results151, go_sem]) rfl ⟨rfl, ?_, ?_⟩
    · have h1 := heap_setCell_same w1 R 2 _ _ (.int .i64 (((p + 1) % 24 : Nat) : Int)) HR1.out
      have h2 := heap_setCell_same _ R 3 _ _ (.int .i64 (24 - (i : Int) - 1)) h1
      rw [Rd, HP2.out, show ((24 - (i + 1) : Nat) : Int) = 24 - (i : Int) - 1 from by omega]
      exact h2
    · exact ((But.of_below HB1.out).setCell _).setCell _

end Go.Proofs.YtjnpndfpajjihabGreat
