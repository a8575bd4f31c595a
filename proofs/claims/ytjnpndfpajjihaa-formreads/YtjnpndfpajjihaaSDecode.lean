/-
  The walks of stamp's own guess and Decode.
-/
import Derived.Test.YtjnpndfpajjihaaSGuess2
import Derived.Test.YtjnpndfpajjihaaMkN
import Derived.Test.YtjnpndfpajjihaaSEncode
import Derived.Lib.ConvBytes
namespace Go.Proofs.Ytjnpndfpajjihaa
open Go.RowKit

/-- The bytes of a text as a new row. -/
theorem bytes_of (t : ByteArray) (w : World) : ∃ (c' : Nat) (w' : World), (convert 9 80 (.string t)).run Try.prog w = .ok (.slice (some ⟨w.heap.size, 0, none⟩) t.size c') w' ∧ Below w.heap.size w w' ∧ w'.heap.size = w.heap.size + 1 ∧
    ∀ j, j < t.size → w'.cell? ⟨w.heap.size, j, none⟩ = some (.int .u8 (at8 t j)) := by
  have h := run_bytes_of_string (P := Try.prog) w 9 80 5 t Try.underlying9 Try.underlying80 Try.underlying5
  refine ⟨_, _, h, ((Below.refl _ _).drew).alloc (by simp) _, by simp, fun j hj => ?_⟩
  have e : (w.drew).heap.size = w.heap.size := by simp
  rw [← e, World.cell?_alloc_mark, bytesRow, Array.getElem?_append_left (by simpa using hj), Array.getElem?_map]
  have hj' : j < t.data.size := hj
  rw [Array.getElem?_eq_getElem hj']
  have := at8_of t j hj
  simp only [Option.map_some, Option.some.injEq, Value.int.injEq, true_and]
  exact this
theorem at8_extract (s : ByteArray) (a b j : Nat) (hb : b ≤ s.size) (h : a + j < b) : at8 (s.extract a b) j = at8 s (a + j) := by
  have hz : j < (s.extract a b).size := by rw [ByteArray.size_extract]; omega
  rw [← at8_of _ j hz, ← at8_of s (a + j) (by omega), ByteArray.getElem_extract]

theorem or_byte (q c : Int) (hq : 0 ≤ q ∧ q ≤ 4294967295) (hc : 0 ≤ c ∧ c ≤ 255) : bits .or .i64 (q * 256) c = 256 * q + c := by
  obtain ⟨a, rfl⟩ := Int.eq_ofNat_of_zero_le hq.1
  obtain ⟨b, rfl⟩ := Int.eq_ofNat_of_zero_le hc.1
  have e : ((a : Int) * 256) = ((a * 256 : Nat) : Int) := by omega
  have h1 : (BitVec.ofInt 64 ((a * 256 : Nat) : Int)).toNat = a * 256 := by
    rw [BitVec.ofInt_natCast, BitVec.toNat_ofNat]; exact Nat.mod_eq_of_lt (by omega)
  have h2 : (BitVec.ofInt 64 (b : Int)).toNat = b := by
    rw [BitVec.ofInt_natCast, BitVec.toNat_ofNat]; exact Nat.mod_eq_of_lt (by omega)
  have h3 : a * 256 ||| b = a * 256 + b := by
    have := Nat.shiftLeft_add_eq_or_of_lt (show b < 2 ^ 8 by omega) a
    rw [Nat.shiftLeft_eq] at this
    exact this.symm
  rw [e]
  show IntKind.i64.wrap ((BitVec.ofInt 64 ((a * 256 : Nat) : Int) ||| BitVec.ofInt 64 (b : Int)).toNat : Int) = _
  rw [BitVec.toNat_or, h1, h2, h3, IntKind.wrap_i64]
  omega

/-- The mark that is guessed. -/
def gsM (s : ByteArray) : Mk := ⟨at8 s 4, seqOf s 4, if at8 s 4 = 1 then at8 s 9 else 0, if at8 s 4 = 2 then gTags s else [], if at8 s 4 = 3 then gBlocks s else []⟩

set_option maxHeartbeats 4000000 in
set_option maxRecDepth 100000 in
theorem guess_any (s : ByteArray) (w : World) (hs : s.size = 32) :
    Calls Try.prog 79 #[.string s] w fun e w' => ∃ v2, e = .returned v2 ∧ IsMkN w' w.heap.size v2 (gsM s) ∧ Below w.heap.size w w' := by
  have hB : ∀ k (hk : k < s.size), ((s[k]'hk).toNat : Int) = at8 s k := at8_of s
  have hW := wrap_at8 s
  have hW' : ∀ k, IntKind.i64.wrap (at8 s k) = at8 s k := fun k => by have := at8_in s k; rw [IntKind.wrap_i64]; omega
  have hz : (s.extract 5 9).size = 4 := by rw [ByteArray.size_extract]; omega
  obtain ⟨c2, w2, hcv, hb2, hs2, hc2⟩ := bytes_of (s.extract 5 9) ((w.alloc (Obj.cells #[.int .i64 0, .int .i64 0, .int .i64 0, .slice none 0 0, .slice none 0 0] 47)).alloc (Obj.cells #[.int .i64 (at8 s 4), .int .i64 0, .int .i64 0, .slice none 0 0, .slice none 0 0] 47))
  have hsz : ((w.alloc (Obj.cells #[.int .i64 0, .int .i64 0, .int .i64 0, .slice none 0 0, .slice none 0 0] 47)).alloc (Obj.cells #[.int .i64 (at8 s 4), .int .i64 0, .int .i64 0, .slice none 0 0, .slice none 0 0] 47)).heap.size = w.heap.size + 2 := by simp
  have HC2 : Hid (∀ j, j < 4 → w2.cell? ⟨w.heap.size + 2, j, none⟩ = some (.int .u8 (at8 s (5 + j)))) := by
    intro j hj
    rw [← hsz, hc2 j (by omega), at8_extract s 5 9 j (by omega) (by omega)]
  have HB2 := hide hb2
  have HS2 : Hid (w2.heap.size = w.heap.size + 3) := by rw [Hid, hs2, hsz]
  rw [hsz, hz] at hcv
  clear hc2 hb2 hs2 hsz
  go_enter Try.func79, Try.ntmps79
  go_wp2
  go_loopw [14] (fun i wr => ∃ k : Nat, k ≤ 4 ∧ i = .int .i64 k ∧ wr.heap[w.heap.size + 1]? = some (.cells #[.int .i64 (at8 s 4), .int .i64 (seqOf s k), .int .i64 0, .slice none 0 0, .slice none 0 0] 47 (0, 0)) ∧
    Hid (∀ j, j < 4 → wr.cell? ⟨w.heap.size + 2, j, none⟩ = some (.int .u8 (at8 s (5 + j)))) ∧ w.heap.size + 2 < wr.heap.size ∧ 
    Below (w.heap.size + 1) (w.alloc (Obj.cells #[.int .i64 0, .int .i64 0, .int .i64 0, .slice none 0 0, .slice none 0 0] 47)) wr) (fun i _ => 4 - (intOf i).toNat)
  case atStart =>
    refine ⟨0, Nat.zero_le _, rfl, keep2 HB2.out, HC2, by rw [HS2.out]; omega, ?_⟩
    exact ((Below.refl _ _).alloc (by simp) _).trans (HB2.out.mono (by simp))
  case round =>
    obtain ⟨k, hk, rfl, hbox, hcs, hsr2, hbr⟩ := hrel
    have HBOX := hide hbox
    obtain ⟨⟨x0, x1, x2, x3, x4⟩, e0, e1, e2, e3, e4⟩ := box5 hbox
    clear hbox
    have hsr : w.heap.size + 1 < wr.heap.size := by omega
    have hsr' : w.heap.size < wr.heap.size := by omega
    by_cases hlt : k < 4
    · have hlt' : (k : Int) < 4 := by omega
      have hck := hcs.out k hlt
      obtain ⟨q, hq⟩ : ∃ q, q = seqOf s k := ⟨_, rfl⟩
      have hq1 := seqOf_lt s k (by omega)
      rw [← hq] at x1 hq1
      have HQ := hide hq
      clear hq
      have hor := or_byte q (at8 s (5 + k)) hq1 (at8_in s (5 + k))
      go_wp2
      go_roundw
      case rel =>
        refine ⟨k + 1, by omega, by go_num, ?_, ?_, by simpa using hsr2, hbr.setCell (by simp) _⟩
        · refine (heap_setCell_same wr _ _ _ _ _ HBOX.out).trans ?_
          rw [seqOf, ← HQ.out, Nat.add_comm k 5]; rfl
        · intro j hj
          exact cellSet (hcs.out j hj) (by simp)
      case measure => simp [intOf]; omega
    · obtain rfl : k = 4 := by omega
      obtain ⟨⟨y0, y1, y2, y3, y4⟩, f0, f1, f2, f3, f4⟩ := box5 (keepR hbr)
      have HB := hide (bthen (below1 _ _) (hbr.mono (by simp)))
      clear hbr hlt hk hcs hsr2
      by_cases h1 : at8 s 4 = 1
      · have HG : Hid (gsM s = ⟨at8 s 4, seqOf s 4, at8 s 9, [], []⟩) := by
          rw [Hid, gsM, if_pos h1, if_neg (by omega), if_neg (by omega)]
        go_wp2
        refine bodyPost_ret (v := .agg #[.int .i64 (at8 s 4), .int .i64 (seqOf s 4), .int .i64 (at8 s 9), .slice none 0 0, .slice none 0 0]) (by simp [results, Try.results79, go_sem, y0, y1, y2, y3, y4, h1]) rfl ⟨_, rfl, ?_, ?_⟩
        · rw [HG.out]; exact ⟨none, 0, none, 0, rfl, .inl rfl, .inl rfl, Nat.zero_le _, Nat.zero_le _, fun _ _ e => (by cases e), fun _ _ e => (by cases e)⟩
        · repeat refine Below.setCell ?_ (by simp) _
          exact HB.out
      · by_cases h2 : at8 s 4 = 2
        · have HG : Hid (gsM s = ⟨at8 s 4, seqOf s 4, 0, gTags s, []⟩) := by
            rw [Hid, gsM, if_neg h1, if_pos h2, if_neg (by omega)]
          go_wp2_with fail
          refine (guessTags_any s _ hs).mono ?_
          rintro e w3 ⟨a3, c3, rfl, hS3, hb3⟩
          have HS3 := hide hS3
          have hs3 : w.heap.size + 1 < w3.heap.size := by have := hb3.size; omega
          have hs3' : w.heap.size < w3.heap.size := by omega
          obtain ⟨⟨z0, z1, z2, z3, z4⟩, g0, g1, g2, g3, g4⟩ := box5 ((hb3.block _ hsr).trans HBOX.out)
          replace y0 := cellKeep hb3 (by omega) y0
          replace y1 := cellKeep hb3 (by omega) y1
          replace y2 := cellKeep hb3 (by omega) y2
          replace y3 := cellKeep hb3 (by omega) y3
          replace y4 := cellKeep hb3 (by omega) y4
          replace f0 := frozKeep hb3 (by omega) f0
          replace f1 := frozKeep hb3 (by omega) f1
          replace f2 := frozKeep hb3 (by omega) f2
          replace f3 := frozKeep hb3 (by omega) f3
          replace f4 := frozKeep hb3 (by omega) f4
          have HB3 := hide (bthen HB.out hb3)
          have n3 : ∀ b off, a3 = some ⟨b, off, none⟩ → w.heap.size + 2 ≤ b := fun b off e => by have := HS3.out.2 b off e; omega
          have N3 := hide n3
          clear hS3 hb3 x0 x1 x2 x3 x4 e0 e1 e2 e3 e4 n3
          go_wp2
          refine bodyPost_ret (v := .agg #[.int .i64 (at8 s 4), .int .i64 (seqOf s 4), .int .i64 0, .slice a3 (gTags s).length c3, .slice none 0 0]) (by simp [results, Try.results79, go_sem, y0, y1, y2, y3, y4, h2]) rfl ⟨_, rfl, ?_, ?_⟩
          · rw [HG.out]
            refine ⟨a3, c3, none, 0, rfl, ?_, .inl rfl, ?_, Nat.zero_le _, fun b off e => (by have := N3.out b off e; omega), fun _ _ e => (by cases e)⟩
            · repeat refine SegT.setNe ?_ (fun b off e => by have := N3.out b off e; simp; omega) _
              exact HS3.out.1
            · show (gTags s).length ≤ maxLen
              rw [gTags_length, manyOf]; unfold maxLen; omega
          · repeat refine Below.setCell ?_ (by simp) _
            exact HB3.out
        · by_cases h3 : at8 s 4 = 3
          · have HG : Hid (gsM s = ⟨at8 s 4, seqOf s 4, 0, [], gBlocks s⟩) := by
              rw [Hid, gsM, if_neg h1, if_neg h2, if_pos h3]
            go_wp2_with fail
            refine (guessBlocks_any s _ hs).mono ?_
            rintro e w3 ⟨a3, c3, rfl, hS3, hb3⟩
            have HS3 := hide hS3
            have hs3 : w.heap.size + 1 < w3.heap.size := by have := hb3.size; omega
            have hs3' : w.heap.size < w3.heap.size := by omega
            obtain ⟨⟨z0, z1, z2, z3, z4⟩, g0, g1, g2, g3, g4⟩ := box5 ((hb3.block _ hsr).trans HBOX.out)
            replace y0 := cellKeep hb3 (by omega) y0
            replace y1 := cellKeep hb3 (by omega) y1
            replace y2 := cellKeep hb3 (by omega) y2
            replace y3 := cellKeep hb3 (by omega) y3
            replace y4 := cellKeep hb3 (by omega) y4
            replace f0 := frozKeep hb3 (by omega) f0
            replace f1 := frozKeep hb3 (by omega) f1
            replace f2 := frozKeep hb3 (by omega) f2
            replace f3 := frozKeep hb3 (by omega) f3
            replace f4 := frozKeep hb3 (by omega) f4
            have HB3 := hide (bthen HB.out hb3)
            have n3 : ∀ b off, a3 = some ⟨b, off, none⟩ → w.heap.size + 2 ≤ b := fun b off e => by have := HS3.out.2 b off e; omega
            have N3 := hide n3
            clear hS3 hb3 x0 x1 x2 x3 x4 e0 e1 e2 e3 e4 n3
            go_wp2
            refine bodyPost_ret (v := .agg #[.int .i64 (at8 s 4), .int .i64 (seqOf s 4), .int .i64 0, .slice none 0 0, .slice a3 (gBlocks s).length c3]) (by simp [results, Try.results79, go_sem, y0, y1, y2, y3, y4, h3]) rfl ⟨_, rfl, ?_, ?_⟩
            · rw [HG.out]
              refine ⟨none, 0, a3, c3, rfl, .inl rfl, ?_, Nat.zero_le _, ?_, fun _ _ e => (by cases e), fun b off e => (by have := N3.out b off e; omega)⟩
              · repeat refine SegI.setNe ?_ (fun b off e => by have := N3.out b off e; simp; omega) _
                exact HS3.out.1
              · show (gBlocks s).length ≤ maxLen
                rw [gBlocks_length, manyOf]; unfold maxLen; omega
            · repeat refine Below.setCell ?_ (by simp) _
              exact HB3.out
          · have HG : Hid (gsM s = ⟨at8 s 4, seqOf s 4, 0, [], []⟩) := by
              rw [Hid, gsM, if_neg h1, if_neg h2, if_neg h3]
            have k1 : (at8 s 4 == 1) = false := by simpa using h1
            have k2 : (at8 s 4 == 2) = false := by simpa using h2
            have k3 : (at8 s 4 == 3) = false := by simpa using h3
            go_wp2
            refine bodyPost_ret (v := .agg #[.int .i64 (at8 s 4), .int .i64 (seqOf s 4), .int .i64 0, .slice none 0 0, .slice none 0 0]) (by simp [results, Try.results79, go_sem, y0, y1, y2, y3, y4]) rfl ⟨_, rfl, ?_, ?_⟩
            · rw [HG.out]; exact ⟨none, 0, none, 0, rfl, .inl rfl, .inl rfl, Nat.zero_le _, Nat.zero_le _, fun _ _ e => (by cases e), fun _ _ e => (by cases e)⟩
            · repeat refine Below.setCell ?_ (by simp) _
              exact HB.out

end Go.Proofs.Ytjnpndfpajjihaa
