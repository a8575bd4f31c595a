/-
  The walk of seal's take.
  The blocks of the log of a transaction, and the steps by which they come there, as plain data; what is gathered, kept over what makes no cells. Nothing of the program is proved here.
  The walks of the functions within seal's Commit: safe, enter and mark.
  The walk of the function mark within seal's Commit.
  The word of the iterator that slices.Chunk hands back, whatever the row.
  The walk of seal's Commit.
  The walk of seal's Commit, whatever it answers; what it answers at the least transaction.
  The walk of a statement's own seals: package seal answers at all.
-/
import Derived.Test.YtjnpndfpajjihabGreatRTake2
import Derived.Test.YtjnpndfpajjihabGreatRNeeds
import Derived.Test.YtjnpndfpajjihabGreatTGood
import Derived.Test.YtjnpndfpajjihabGreatTNamed
import Derived.Test.YtjnpndfpajjihabGreatTSmallX
import Derived.Test.YtjnpndfpajjihabGreatEChunk
import Derived.Test.YtjnpndfpajjihabGreatESmall
import Derived.Test.YtjnpndfpajjihabGreatSEncode
import Derived.Deep.RegionLaw
import Derived.Deep.CutRange
import Derived.Test.YtjnpndfpajjihabGreatEChunkI
import Derived.Test.YtjnpndfpajjihabGreatEChunkC
import Derived.Laws.EntriesVeiled
namespace Go.Proofs.YtjnpndfpajjihabGreat
open Go.RowKit

/-- What Commit answers first: its error; the ring behind it; the places. -/
def sealE (h u : Int) (t : Tx) : Int := if goodR h u = false ∨ goodX t = false ∨ openB t = true then 2 else takeE h u (needN t.info.length t.rev.length)
def sealH (h u : Int) (t : Tx) : Int := if sealE h u t = 0 then takeH h u (needN t.info.length t.rev.length) else h
def sealU (h u : Int) (t : Tx) : Int := if sealE h u t = 0 then takeU h u (needN t.info.length t.rev.length) else u
def sealP (h u : Int) (t : Tx) : List Int := if sealE h u t = 0 then takeL h u (needN t.info.length t.rev.length) else []

set_option maxHeartbeats 4000000 in
set_option maxRecDepth 100000 in
theorem take_any (h u : Int) (v : Value) (t : Tx) (w : World) (hT : IsTx w v t) (r1 : t.info.length * 24 ≤ 140737488355328) (r2 : t.data.length * 24 ≤ 140737488355328) :
    Calls Tryz.prog 59 #[.agg #[.int .i64 h, .int .i64 u], v] w fun e w' => ∃ a c, e = .returned (.tuple #[.agg #[.int .i64 (sealH h u t), .int .i64 (sealU h u t)], .slice a (sealP h u t).length c, .int .i64 (sealE h u t)]) ∧ (SegI w' a (sealP h u t) ∧ (∀ b off, a = some ⟨b, off, none⟩ → w.heap.size ≤ b) ∧ (sealP h u t).length ≤ c) ∧ Below w.heap.size w w' := by
  have HT := hide hT
  obtain ⟨a0, a1, a2, a3, a4, a5, rfl, _, _, _, n1, n2, n3⟩ := hT
  go_enter Tryz.func59, Tryz.ntmps59
  go_wp2_with fail
  refine (ringGood_any h u _).mono ?_
  rintro e w1 ⟨rfl, hb1⟩
  obtain ⟨K1, K2, K3, hs1⟩ := three1 hb1
  have KR := hide K1
  have KT := hide K2
  have KZ := hide K3
  have hs1' : w.heap.size < w1.heap.size := by omega
  have hs1'' : w.heap.size + 1 < w1.heap.size := by omega
  have HB1 := hide (bthen (bthen (bthen (below1 _ _) (below1 _ _)) (below1 _ _)) hb1)
  clear K1 K2 K3 hb1
  obtain ⟨⟨r0, r1'⟩, _⟩ := box2 KR.out
  obtain ⟨⟨y0, y1⟩, f0, f1⟩ := box2 KZ.out
  obtain ⟨⟨x0, x1, x2, x3, x4, x5, x6, x7, x8, x9⟩, _⟩ := box10 KT.out
  cases hg : goodR h u with
  | false =>
    have HE : Hid (sealE h u t = 2) := by rw [Hid, sealE, if_pos (.inl hg)]
    have HH : Hid (sealH h u t = h ∧ sealU h u t = u ∧ sealP h u t = []) := by simp [Hid, sealH, sealU, sealP, HE.out]
    go_wp2
    refine bodyPost_ret (v := .tuple #[.agg #[.int .i64 h, .int .i64 u], .slice none 0 0, .int .i64 2]) (by simp [results, Tryz.results59, go_sem, y0, y1]) rfl ⟨none, 0, by rw [HE.out, HH.out.1, HH.out.2.1, HH.out.2.2]; rfl, ⟨.inl HH.out.2.2, fun _ _ e => (by cases e), (by rw [HH.out.2.2]; exact Nat.le_refl _)⟩, ?_⟩
    repeat refine Below.setCell ?_ (by simp; try omega) _
    exact HB1.out
  | true =>
    have HG := hide hg
    clear hg
    go_wp2_with fail
    refine (tGood_any _ t _ (HT.out.below HB1.out) r1 r2).mono ?_
    rintro e w2 ⟨rfl, hb2⟩
    replace KR := hide (boxKeep hb2 hs1' KR.out)
    replace KT := hide (boxKeep hb2 hs1'' KT.out)
    replace KZ := hide (boxKeep hb2 hs1 KZ.out)
    have HB2 := hide (bthen HB1.out hb2)
    have hs2 := Nat.lt_of_lt_of_le hs1 hb2.size
    have hs2' : w.heap.size < w2.heap.size := by omega
    have hs2'' : w.heap.size + 1 < w2.heap.size := by omega
    clear hb2 r0 r1' y0 y1 f0 f1 x0 x1 x2 x3 x4 x5 x6 x7 x8 x9 HB1
    obtain ⟨⟨r0, r1'⟩, _⟩ := box2 KR.out
    obtain ⟨⟨y0, y1⟩, f0, f1⟩ := box2 KZ.out
    obtain ⟨⟨x0, x1, x2, x3, x4, x5, x6, x7, x8, x9⟩, _⟩ := box10 KT.out
    cases hx : goodX t with
    | false =>
      have HE : Hid (sealE h u t = 2) := by rw [Hid, sealE, if_pos (.inr (.inl hx))]
      have HH : Hid (sealH h u t = h ∧ sealU h u t = u ∧ sealP h u t = []) := by simp [Hid, sealH, sealU, sealP, HE.out]
      go_wp2
      refine bodyPost_ret (v := .tuple #[.agg #[.int .i64 h, .int .i64 u], .slice none 0 0, .int .i64 2]) (by simp [results, Tryz.results59, go_sem, y0, y1]) rfl ⟨none, 0, by rw [HE.out, HH.out.1, HH.out.2.1, HH.out.2.2]; rfl, ⟨.inl HH.out.2.2, fun _ _ e => (by cases e), (by rw [HH.out.2.2]; exact Nat.le_refl _)⟩, ?_⟩
      repeat refine Below.setCell ?_ (by simp; try omega) _
      exact HB2.out
    | true =>
      have HXG := hide hx
      clear hx
      go_wp2_with fail
      refine (tOpen_any _ t _ (HT.out.below HB2.out)).mono ?_
      rintro e w3 ⟨rfl, hb3⟩
      replace KR := hide (boxKeep hb3 hs2' KR.out)
      replace KT := hide (boxKeep hb3 hs2'' KT.out)
      replace KZ := hide (boxKeep hb3 hs2 KZ.out)
      have HB3 := hide (bthen HB2.out hb3)
      have hs3 := Nat.lt_of_lt_of_le hs2 hb3.size
      have hs3' : w.heap.size < w3.heap.size := by omega
      clear hb3 r0 r1' y0 y1 f0 f1 x0 x1 x2 x3 x4 x5 x6 x7 x8 x9 HB2
      obtain ⟨⟨r0, r1'⟩, _⟩ := box2 KR.out
      obtain ⟨⟨y0, y1⟩, f0, f1⟩ := box2 KZ.out
      obtain ⟨⟨x0, x1, x2, x3, x4, x5, x6, x7, x8, x9⟩, _⟩ := box10 KT.out
      cases ho : openB t with
      | true =>
        have HE : Hid (sealE h u t = 2) := by rw [Hid, sealE, if_pos (.inr (.inr ho))]
        have HH : Hid (sealH h u t = h ∧ sealU h u t = u ∧ sealP h u t = []) := by simp [Hid, sealH, sealU, sealP, HE.out]
        go_wp2
        refine bodyPost_ret (v := .tuple #[.agg #[.int .i64 h, .int .i64 u], .slice none 0 0, .int .i64 2]) (by simp [results, Tryz.results59, go_sem, y0, y1]) rfl ⟨none, 0, by rw [HE.out, HH.out.1, HH.out.2.1, HH.out.2.2]; rfl, ⟨.inl HH.out.2.2, fun _ _ e => (by cases e), (by rw [HH.out.2.2]; exact Nat.le_refl _)⟩, ?_⟩
        repeat refine Below.setCell ?_ (by simp; try omega) _
        exact HB3.out
      | false =>
        have hsm := good_small HXG.out
        have HN : Hid (needE (t.info.length : Int) (t.rev.length : Int) = 0) := by rw [Hid, needE, if_neg]; omega
        have HE : Hid (sealE h u t = takeE h u (needN t.info.length t.rev.length)) := by
          rw [Hid, sealE, if_neg]
          rw [HG.out, HXG.out, ho]; simp
        have HS : Hid (sealH h u t = takeH h u (needN t.info.length t.rev.length) ∧ sealU h u t = takeU h u (needN t.info.length t.rev.length) ∧ sealP h u t = takeL h u (needN t.info.length t.rev.length)) := by
          by_cases e : takeE h u (needN t.info.length t.rev.length) = 0
          · simp [Hid, sealH, sealU, sealP, HE.out, e]
          · simp [Hid, sealH, sealU, sealP, HE.out, takeH, takeU, takeL, e]
        go_wp2_with fail
        refine (ringNeed_any (t.info.length : Int) (t.rev.length : Int) _).mono ?_
        rintro e w4 ⟨rfl, rfl⟩
        rw [HN.out]
        generalize needN (t.info.length : Int) (t.rev.length : Int) = nn at *
        go_wp2_with fail
        refine (ringTake_cap h u nn _).mono ?_
        rintro e w5 ⟨a, c, rfl, hS5, hb5⟩
        have HS5 := hide hS5
        have HB5 := hide (bthen HB3.out hb5)
        have KZ5 := hide (boxKeep hb5 hs3 KZ.out)
        have hs5 := Nat.lt_of_lt_of_le hs3 hb5.size
        clear hS5 hb5 r0 r1' y0 y1 f0 f1 x0 x1 x2 x3 x4 x5 x6 x7 x8 x9
        obtain ⟨⟨y0, y1⟩, f0, f1⟩ := box2 KZ5.out
        generalize takeE h u nn = te at *
        generalize takeH h u nn = th at *
        generalize takeU h u nn = tu at *
        generalize takeL h u nn = tl at *
        go_wp2
        refine bodyPost_ret (v := .tuple #[.agg #[.int .i64 th, .int .i64 tu], .slice a tl.length c, .int .i64 te]) (by simp [results, Tryz.results59, go_sem, y0, y1]) rfl ?_
        rw [HE.out, HS.out.1, HS.out.2.1, HS.out.2.2]
        refine ⟨a, c, rfl, ⟨?_, fun b off e => (by have := HS5.out.2.1 b off e; omega), HS5.out.2.2⟩, ?_⟩
        · refine (HS5.out.1.setNe (fun b off e => ?_) _).setNe (fun b off e => ?_) _
          · have := HS5.out.2.1 b off e; simp; omega
          · have := HS5.out.2.1 b off e; simp; omega
        · repeat refine Below.setCell ?_ (by simp; try omega) _
          exact HB5.out


/-- A part of the copies; the blocks of the log, but for the last one; the last one. -/
def partOf (l : List (Int × ByteArray)) (k : Nat) : List (Int × ByteArray) := (l.drop (10 * k)).take 10
def revB (t : Tx) : List ByteArray := if t.rev.length = 0 then [] else [encT ⟨3, t.seq, 0, [], t.rev⟩]
def partB (q : Int) (l : List (Int × ByteArray)) (k : Nat) : List ByteArray := encT ⟨2, q, 0, tagsOf (partOf l k), []⟩ :: textsOf (partOf l k)
def metaB (q : Int) (l : List (Int × ByteArray)) (k : Nat) : List ByteArray := (List.range k).flatMap (partB q l)
def logB (t : Tx) : List ByteArray := revB t ++ metaB t.seq t.info (partN t.info.length 10)
def lastB (t : Tx) : ByteArray := encT ⟨4, t.seq, 0, [], []⟩
/-- Blocks written at places, one behind another. -/
def putS (ps : List Int) (l : List ByteArray) : List St := List.zipWith (fun p s => writeS (1 + p) s) ps l
def commitS (h u : Int) (t : Tx) : List St := if sealE h u t = 0 then
  (homeS t.data ++ putS (sealP h u t) (logB t) ++ (if 0 < t.rev.length + t.info.length then [flushS] else [])) ++ [writeS (1 + (sealP h u t).getD (logB t).length 0) (lastB t)] ++ [flushS] else []

theorem metaB_succ (q : Int) (l : List (Int × ByteArray)) (k : Nat) : metaB q l (k + 1) = metaB q l k ++ partB q l k := by
  rw [metaB, metaB, List.range_succ, List.flatMap_append]; simp
theorem putS_snoc {ps : List Int} {d : List ByteArray} (h : d.length < ps.length) (s : ByteArray) : putS ps (d ++ [s]) = putS ps d ++ [writeS (1 + ps.getD d.length 0) s] := by
  induction ps generalizing d with
  | nil => simp at h
  | cons p r ih =>
    cases d with
    | nil => simp [putS]
    | cons x d =>
      have := ih (d := d) (by simpa using h)
      simp only [putS, List.cons_append, List.zipWith_cons_cons, List.length_cons, List.getD_cons_succ] at this ⊢
      rw [this]
theorem putS_length {ps : List Int} {d : List ByteArray} (h : d.length ≤ ps.length) : (putS ps d).length = d.length := by
  simp [putS]; omega
theorem drop_getD {ps : List Int} {i : Nat} (h : i < ps.length) : ps.drop i = ps.getD i 0 :: ps.drop (i + 1) := by
  rw [List.drop_eq_getElem_cons h, List.getD, List.getElem?_eq_getElem h]; rfl

theorem partOf_length (l : List (Int × ByteArray)) (k : Nat) : (partOf l k).length = partL l.length 10 k := by
  rw [partOf, List.length_take, List.length_drop, partL, Nat.mul_comm]; split <;> omega
theorem partB_length (q : Int) (l : List (Int × ByteArray)) (k : Nat) : (partB q l k).length = 1 + partL l.length 10 k := by
  rw [partB, List.length_cons, textsOf, List.length_map, partOf_length]; omega
/-- How many blocks there are. -/
theorem metaB_length (q : Int) (l : List (Int × ByteArray)) (h : l.length ≤ 12) : (metaB q l (partN l.length 10)).length = l.length + (if 0 < l.length then 1 else 0) + (if 10 < l.length then 1 else 0) := by
  by_cases h0 : l.length = 0
  · rw [h0]; rfl
  · by_cases h1 : l.length ≤ 10
    · have e : partN l.length 10 = 1 := by unfold partN; omega
      rw [e, metaB_succ, List.length_append, partB_length, partL, if_pos (show 0 < l.length by omega), if_neg (show ¬ 10 < l.length by omega)]
      simp [metaB]
      split <;> omega
    · have e : partN l.length 10 = 2 := by unfold partN; omega
      rw [e, metaB_succ, metaB_succ, List.length_append, List.length_append, partB_length, partB_length, partL, partL, if_pos (show 0 < l.length by omega), if_pos (show 10 < l.length by omega), if_pos (show 10 ≤ l.length - 0 * 10 by omega), if_neg (show ¬ 10 ≤ l.length - (0 + 1) * 10 by omega)]
      simp [metaB]
      omega
theorem logB_length (t : Tx) (h1 : t.info.length ≤ 12) (h2 : t.rev.length ≤ 12) : ((logB t).length : Int) + 1 = needN t.info.length t.rev.length := by
  have he : needE (t.info.length : Int) (t.rev.length : Int) = 0 := by rw [needE, if_neg]; omega
  have hm := metaB_length t.seq t.info h1
  rw [needN, if_pos he, logB, List.length_append, hm, revB]
  by_cases h0 : t.rev.length = 0
  · simp [h0]; split <;> split <;> omega
  · rw [if_neg h0]; simp; split <;> split <;> split <;> omega

theorem placeAt_get (h : Int) (n k : Nat) (hk : k < n) : (placesOf h n).getD k 0 = (h + (k : Int)) % 24 := by
  rw [List.getD, placesOf, List.getElem?_map, List.getElem?_range hk]; rfl
/-- The places of a transaction: as many as it has blocks. -/
theorem sealP_facts {rh ru : Int} {t : Tx} (he : sealE rh ru t = 0) : goodX t = true ∧ openB t = false ∧ (sealP rh ru t).length = (logB t).length + 1 ∧ ∀ i, 0 ≤ (sealP rh ru t).getD i 0 ∧ (sealP rh ru t).getD i 0 ≤ 23 := by
  have h0 := he
  unfold sealE at h0
  by_cases hc : goodR rh ru = false ∨ goodX t = false ∨ openB t = true
  · rw [if_pos hc] at h0; cases h0
  · rw [if_neg hc] at h0
    have hg : goodX t = true := by cases e : goodX t; exact absurd (.inr (.inl e)) hc; rfl
    have ho : openB t = false := by cases e : openB t; rfl; exact absurd (.inr (.inr e)) hc
    have hs := good_small hg
    have hl := logB_length t hs.1 hs.2.2
    refine ⟨hg, ho, ?_, ?_⟩
    · rw [sealP, if_pos he, takeL, if_pos h0, places_length]; omega
    · intro i
      rw [sealP, if_pos he, takeL, if_pos h0]
      by_cases hi : i < (needN t.info.length t.rev.length).toNat
      · rw [placeAt_get _ _ _ hi]; omega
      · rw [List.getD, List.getElem?_eq_none (by rw [places_length]; omega)]; exact ⟨Int.le_refl _, by decide⟩

/-- What is gathered: the steps so far, and the places that are left. -/
def LogAt (w : World) (base Bs Bp : Nat) (H : List St) (ps : List Int) (d : List ByteArray) : Prop := StepsAt w base Bs (H ++ putS ps d) ∧ PlacesAt w base Bp (ps.drop d.length) ∧ d.length ≤ ps.length
theorem LogAt.below {w w' : World} {base Bs Bp : Nat} {H : List St} {ps : List Int} {d : List ByteArray} (h : LogAt w base Bs Bp H ps d) (hb : Below w.heap.size w w') : LogAt w' base Bs Bp H ps d := ⟨h.1.below hb, h.2.1.below hb, h.2.2⟩
/-- One block more. -/
theorem LogAt.next {w' : World} {base Bs Bp : Nat} {H : List St} {ps : List Int} {d : List ByteArray} (h : d.length < ps.length) {s : ByteArray}
    (h1 : StepsAt w' base Bs (H ++ putS ps d ++ [writeS (1 + ps.getD d.length 0) s])) (h2 : PlacesAt w' base Bp (ps.drop (d.length + 1))) : LogAt w' base Bs Bp H ps (d ++ [s]) := by
  refine ⟨?_, ?_, ?_⟩
  · rw [putS_snoc h, ← List.append_assoc]; exact h1
  · rw [List.length_append]; exact h2
  · rw [List.length_append]; show d.length + 1 ≤ _; omega
theorem StepsAt.kept {w w' : World} {base Bs : Nat} {l : List St} {row : Option Nat} (h : StepsAt w base Bs l) (hg : w.grownBy w' row) (hr : ∀ r, row = some r → ∃ o : Obj, w.heap[r]? = some o ∧ o.isCells = false) : StepsAt w' base Bs l := by
  obtain ⟨v, h1, h2⟩ := h
  refine ⟨v, h1.kept hg ?_, h2.kept hg ?_⟩
  · intro e
    obtain ⟨o, ho, hc⟩ := hr Bs e.symm
    rw [show w.heap[Bs]? = _ from h1] at ho; cases ho; cases hc
  · rcases h2.2 with ⟨rfl, _⟩ | ⟨g, cap, cur, rfl, _, hgb, _⟩
    · exact .inl rfl
    · refine .inr fun e => ?_
      obtain ⟨o, ho, hc⟩ := hr g e.symm
      rw [hgb] at ho; cases ho; cases hc
theorem PlacesAt.kept {w w' : World} {base Bp : Nat} {l : List Int} {row : Option Nat} (h : PlacesAt w base Bp l) (hg : w.grownBy w' row) (hr : ∀ r, row = some r → ∃ o : Obj, w.heap[r]? = some o ∧ o.isCells = false) : PlacesAt w' base Bp l := by
  obtain ⟨a, c, h1, h2, h3⟩ := h
  refine ⟨a, c, h1.kept hg ?_, ?_, h3⟩
  · intro e
    obtain ⟨o, ho, hc⟩ := hr Bp e.symm
    rw [show w.heap[Bp]? = _ from h1] at ho; cases ho; cases hc
  · rcases h2 with e | ⟨b, off, rfl, hlt, hc⟩
    · exact .inl e
    · exact .inr ⟨b, off, rfl, Nat.lt_of_lt_of_le hlt hg.size, fun i hi => cell_kept (hc i hi) hg hr⟩
theorem Fr.kept {Bs Bp base : Nat} {W A B : World} {row : Option Nat} (h : Fr Bs Bp base W A) (hg : A.grownBy B row) (hr : ∀ r, row = some r → W.heap.size ≤ r) (hb : base ≤ W.heap.size) : Fr Bs Bp base W B := by
  have ne : ∀ k, k < W.heap.size → some k ≠ row := fun k hk e => by have := hr k e.symm; omega
  refine ⟨hg.os.trans h.os, hg.tape.trans h.tape, hg.output.trans h.output, Nat.le_trans h.size hg.size, fun k hk n1 n2 => (hg.block k (Nat.lt_of_lt_of_le (by omega) h.size) (ne k (by omega))).trans (h.low k hk n1 n2), fun k o ho hn n1 n2 => ?_⟩
  have hk := (Array.getElem?_eq_some_iff.1 ho).1
  exact (hg.block k (Nat.lt_of_lt_of_le hk h.size) (ne k hk)).trans (h.box k o ho hn n1 n2)
theorem LogAt.kept {w w' : World} {base Bs Bp : Nat} {H : List St} {ps : List Int} {d : List ByteArray} {row : Option Nat} (h : LogAt w base Bs Bp H ps d) (hg : w.grownBy w' row) (hr : ∀ r, row = some r → ∃ o : Obj, w.heap[r]? = some o ∧ o.isCells = false) : LogAt w' base Bs Bp H ps d :=
  ⟨h.1.kept hg hr, h.2.1.kept hg hr, h.2.2⟩


theorem ownSt_snoc {w : World} {base : Nat} {v : Value} {l : List St} {y : St} (h : OwnSt w base v (l ++ [y])) : ∃ a c, v = .slice a (l.length + 1) c := by
  obtain ⟨a, c, e, _, _⟩ := SegSt.of_owns h
  exact ⟨a, c, by rw [e, List.length_append]; rfl⟩
theorem StepsAt.grown {W w4 : World} {base Bs : Nat} {v v' : Value} {l l' : List St} {tmp : Obj} (hbx : Boxed W Bs 42 v) (hrow : W.ownsRow base 97 3 v l.length (cellsSt l)) (hown' : w4.ownsRow base 97 3 v' l'.length (cellsSt l')) (hg : (W.alloc tmp).grownBy w4 v.ownBlock) :
    Boxed w4 Bs 42 v ∧ StepsAt (w4.setCell ⟨Bs, 0, none⟩ v') base Bs l' := by
  have hv1 : Boxed w4 Bs 42 v := (hbx.alloc tmp).kept hg (hbx.not_row (by decide) hrow)
  exact ⟨hv1, v', hv1.set v', hown'.kept (grownBy_setCell' w4 Bs v') (.inr (hv1.not_row (by decide) hown').symm)⟩

theorem Boxed.grownSt {W w4 : World} {base Bp n : Nat} {v v0 : Value} {xs : List Value} {tmp : Obj} (hp : Boxed W Bp 23 v0) (hrow : W.ownsRow base 97 3 v n xs) (hg : (W.alloc tmp).grownBy w4 v.ownBlock) : Boxed w4 Bp 23 v0 :=
  (hp.alloc tmp).kept hg (hp.not_row (by decide) hrow)
set_option maxRecDepth 100000 in
/-- write, flush, as one step of a region that draws its order. -/
theorem step_flush {w : World} {ops : Array Oper} {o : Oper} {a : Act} {K : Act → World → Prop} {Q : Exit → Act → World → Prop} {E : Prop} (hgd : o.guard = none)
    (ho : o.op = .call { callee := .value (.func 62), args := #[], argTypes := #[] })
    (h : ∀ w', Below w.heap.size w w' → K (a.put o.dst (.agg #[.int .i64 2, .int .i64 0, .string ⟨#[]⟩])) w') : if Region.wanted o (yielded ops a.tmps) = true then Oper.wp Tryz.prog o a w K Q else E := by
  have hw : Region.wanted o (yielded ops a.tmps) = true := by simp [Region.wanted, hgd]
  rw [if_pos hw]
  unfold Oper.wp
  simp [execOp, ho, resolve, invoke, Act.eval, Result.andThen]
  refine (flush1_any w).mono ?_
  rintro e w' ⟨rfl, hb⟩
  exact h w' hb
set_option maxRecDepth 100000 in
theorem step_write {w : World} {ops : Array Oper} {o : Oper} {a : Act} {K : Act → World → Prop} {Q : Exit → Act → World → Prop} {E : Prop} (hgd : o.guard = none) (x y : Operand)
    (ho : o.op = .call { callee := .value (.func 64), args := #[x, y], argTypes := #[3, 9] }) (p : Int) (s : ByteArray) (hx : a.eval x = .int .i64 p) (hy : a.eval y = .string s)
    (h : ∀ w', Below w.heap.size w w' → K (a.put o.dst (.agg #[.int .i64 1, .int .i64 p, .string s])) w') : if Region.wanted o (yielded ops a.tmps) = true then Oper.wp Tryz.prog o a w K Q else E := by
  have hw : Region.wanted o (yielded ops a.tmps) = true := by simp [Region.wanted, hgd]
  rw [if_pos hw]
  unfold Oper.wp
  have hev : a.eval (.func 64) = .func (.func 64) #[] #[] := rfl
  simp [execOp, ho, resolve, invoke, hev, hx, hy, Result.andThen]
  refine (write_any p s w).mono ?_
  rintro e w' ⟨rfl, hb⟩
  exact h w' hb

set_option maxHeartbeats 2000000 in
set_option maxRecDepth 100000 in
theorem safe_any (Bs Bp base : Nat) (l : List St) (w : World) (h : StepsAt w base Bs l) (hn : l.length ≤ 900) (hbase : base ≤ w.heap.size) :
    Calls Tryz.prog 61 #[.pointer (some ⟨Bs, 0, none⟩)] w fun e w' => (∃ v, e = .returned v) ∧ StepsAt w' base Bs (l ++ [flushS]) ∧ Fr Bs Bp base w w' := by
  obtain ⟨v, hbx, hrow⟩ := h
  have HR := hide hrow
  have HX := hide hbx
  obtain ⟨a, c, rfl, _, _⟩ := SegSt.of_owns hrow
  have hc := hbx.cell
  clear hrow hbx
  go_enter Tryz.func61, Tryz.ntmps61
  go_wp2
  go_region_law (first
    | (refine step_flush rfl rfl ?_; intro w3 hb3; have hB3 : Below w.heap.size w w3 := ((Below.refl _ _).drew).trans hb3; have hc3 := cellKeep hB3 HX.out.lt hc; have hl3 := Nat.lt_of_lt_of_le HX.out.lt hB3.size)
    | (refine step_appSt rfl (.tmp 1) (.tmp 3) rfl base (.slice a l.length c) l (by simp [Act.eval]) (owns_keep (owns_keep HR.out hB3) (below1 _ _)) w3.heap.size flushS (by simp [Act.eval]) (by simp [go_sem, flushS]) (by simp [go_sem, flushS]) (by simp [go_sem, flushS]) (by omega) (Nat.le_trans (Nat.le_trans hbase hB3.size) (by simp)) ?_; intro v' w4 hown' hg'; have HG := hide (StepsAt.grown (boxKeep hB3 HX.out.lt HX.out) (owns_keep HR.out hB3) hown' hg'); have HF := hide (Fr.grown (Bs := Bs) (Bp := Bp) (owns_keep (owns_keep HR.out hB3) (below1 _ _)) hg' (Nat.le_trans (Nat.le_trans hbase hB3.size) (by simp))); (obtain ⟨a5, c5, rfl⟩ := ownSt_snoc hown'); have hc4 := HG.out.1.cell; have hf4 := HG.out.1.frozen))
  all_goals
    go_wp2
    go_end0
    refine ⟨⟨_, rfl⟩, HG.out.2, ?_⟩
    exact ((Fr.of_below (hB3.trans ((below1 _ _).mono hB3.size)) hbase).trans HF.out).trans (Fr.setS _ _)

theorem PlacesAt.one {w : World} {base Bp : Nat} {p : Int} {l : List Int} (h : PlacesAt w base Bp (p :: l)) : ∃ b off c, Boxed w Bp 23 (.slice (some ⟨b, off, none⟩) (l.length + 1) c) ∧ w.cell? ⟨b, off, none⟩ = some (.int .i64 p) ∧ SegI w (some ⟨b, off, none⟩) (p :: l) ∧ b < base ∧ b ≠ Bp ∧ b < w.heap.size ∧ l.length + 1 ≤ c := by
  obtain ⟨a, c, h1, h2, h3, h4, h5⟩ := h
  have h2' := h2
  rcases h2 with e | ⟨b, off, rfl, hlt, hc⟩
  · cases e
  · have := hc 0 (by simp)
    exact ⟨b, off, c, h1, by simpa using this, h2', (h3 b off rfl).1, (h3 b off rfl).2, hlt, by simpa using h4⟩
theorem segI_tail {w : World} {b off : Nat} {p : Int} {l : List Int} (h : SegI w (some ⟨b, off, none⟩) (p :: l)) : SegI w (some ⟨b, off + 1, none⟩) l := by
  rcases h with e | ⟨b', off', e, hlt, hc⟩
  · cases e
  · cases e
    cases l with
    | nil => exact .inl rfl
    | cons q r =>
      refine .inr ⟨b, off + 1, rfl, hlt, fun i hi => ?_⟩
      have := hc (i + 1) (by simpa using hi)
      rw [show off + 1 + i = off + (i + 1) from by omega]
      simpa using this

set_option maxHeartbeats 4000000 in
set_option maxRecDepth 100000 in
theorem enter_any (Bs Bp base : Nat) (l : List St) (p : Int) (ps : List Int) (s : ByteArray) (w : World) (h : StepsAt w base Bs l) (hp : PlacesAt w base Bp (p :: ps)) (hn : l.length ≤ 900) (hps : ps.length ≤ 900) (hp0 : 0 ≤ p) (hp1 : p ≤ 23) (hbase : base ≤ w.heap.size) (hb1 : Bp < base) (hb2 : base ≤ Bs) :
    Calls Tryz.prog 63 #[.string s, .pointer (some ⟨Bs, 0, none⟩), .pointer (some ⟨Bp, 0, none⟩)] w fun e w' => (∃ v, e = .returned v) ∧ StepsAt w' base Bs (l ++ [writeS (1 + p) s]) ∧ PlacesAt w' base Bp ps ∧ Fr Bs Bp base w w' := by
  obtain ⟨v, hbx, hrow⟩ := h
  have HR := hide hrow
  have HX := hide hbx
  obtain ⟨a, c, rfl, _, _⟩ := SegSt.of_owns hrow
  have hc := hbx.cell
  obtain ⟨b, off, pc, pbx, pcell, pseg, pb, pne, plt, pcap⟩ := hp.one
  have HPX := hide pbx
  have HPS := hide pseg
  have pc0 := pbx.cell
  have hne : Bp ≠ Bs := by omega
  have hwp : IntKind.i64.wrap (1 + p) = 1 + p := by rw [IntKind.wrap_i64]; omega
  clear hrow hbx pbx pseg hp
  go_enter Tryz.func63, Tryz.ntmps63
  go_upto_region 0 with fail
  go_cut [0] from 4 to 12 (fun x wx => x = .string s ∧ Hid (StepsAt wx base Bs (l ++ [writeS (1 + p) s]) ∧ Fr Bs Bp base w wx ∧ Boxed wx Bp 23 (.slice (some ⟨b, off, none⟩) (ps.length + 1) pc)))
  case first =>
    go_region_law (first
      | (refine step_write rfl (.tmp 8) (.tmp 9) rfl (1 + p) s (by simp [Act.eval, Act.put]) (by simp [Act.eval, Act.put]) ?_; intro w3 hb3; have hB3 : Below w.heap.size w w3 := ((Below.refl _ _).drew).trans hb3; have hc3 := cellKeep hB3 HX.out.lt hc; have hl3 := Nat.lt_of_lt_of_le HX.out.lt hB3.size)
      | (refine step_appSt rfl (.tmp 4) (.tmp 11) rfl base (.slice a l.length c) l (by simp [Act.eval]) (owns_keep (owns_keep HR.out hB3) (below1 _ _)) w3.heap.size (writeS (1 + p) s) (by simp [Act.eval]) (by simp [go_sem, writeS]) (by simp [go_sem, writeS]) (by simp [go_sem, writeS]) (by omega) (Nat.le_trans (Nat.le_trans hbase hB3.size) (by simp)) ?_; intro v' w4 hown' hg'; have HG := hide (StepsAt.grown (boxKeep hB3 HX.out.lt HX.out) (owns_keep HR.out hB3) hown' hg'); have HF := hide (Fr.grown (Bs := Bs) (Bp := Bp) (owns_keep (owns_keep HR.out hB3) (below1 _ _)) hg' (Nat.le_trans (Nat.le_trans hbase hB3.size) (by simp))); have HPB := hide (Boxed.grownSt (boxKeep hB3 HPX.out.lt HPX.out) (owns_keep HR.out hB3) hg'); (obtain ⟨a5, c5, rfl⟩ := ownSt_snoc hown'); have hc4 := HG.out.1.cell; have hf4 := HG.out.1.frozen))
    all_goals
      go_wp2_with fail
      go_meet
      refine ⟨rfl, HG.out.2, ((Fr.of_below (hB3.trans ((below1 _ _).mono hB3.size)) hbase).trans HF.out).trans (Fr.setS _ _), ?_⟩
      exact (Below.heap_setCell _ _ _ _ hne).trans HPB.out
  case rest =>
    obtain ⟨rfl, HC⟩ := hcut
    obtain ⟨w5, rfl⟩ : ∃ w5, w5 = wc := ⟨_, rfl⟩
    have qc := HC.out.2.2.cell
    have qf := HC.out.2.2.frozen
    have hcap' : ((ps.length : Int) + 1) ≤ (pc : Int) := by omega
    clear hc pc0 pcell
    have hst : ∀ u, StepsAt (w5.setCell ⟨Bp, 0, none⟩ u) base Bs (l ++ [writeS (1 + p) s]) := by
      intro u
      obtain ⟨v5, k1, k2⟩ := HC.out.1
      exact ⟨v5, (Below.heap_setCell _ _ _ _ (Ne.symm hne)).trans k1, ownsRow_setCell_below k2 hb1 _⟩
    have HST := hide hst
    have hsg : SegI w5 (some ⟨b, off, none⟩) (p :: ps) := HPS.out.low HC.out.2.1 (fun b' off' e => by cases e; exact ⟨pb, pne⟩) hb2
    have HSG := hide (segI_tail hsg)
    clear hst hsg
    by_cases hpc : pc = 1
    · have h0 : ps = [] := List.eq_nil_of_length_eq_zero (by omega)
      subst h0 hpc
      go_wp2
      go_end0
      exact ⟨⟨_, rfl⟩, HST.out _, ⟨_, _, HC.out.2.2.set _, .inl rfl, fun b' off' e => (by cases e; exact ⟨pb, pne⟩), by simp, fun _ => rfl⟩, HC.out.2.1.trans (Fr.setP _ _)⟩
    · go_wp2
      go_end0
      refine ⟨⟨_, rfl⟩, HST.out _, ⟨_, _, HC.out.2.2.set _, HSG.out.setNe (fun b' off' e => by cases e; exact pne) _, fun b' off' e => (by cases e; exact ⟨pb, pne⟩), ?_, fun e => by cases e⟩, HC.out.2.1.trans (Fr.setP _ _)⟩
      omega


set_option maxHeartbeats 2000000 in
set_option maxRecDepth 100000 in
theorem emark_any (Bs Bp base Bt Be : Nat) (l : List St) (p : Int) (ps : List Int) (m : Mk) (mv : Value) (q : Int) (w : World) (hm : IsMk w mv m) (ht : w.cell? ⟨Bt, 0, none⟩ = some (.int .i64 q)) (htl : Bt < w.heap.size)
    (he : w.cell? ⟨Be, 0, none⟩ = some (.func (.func 63) #[] #[.pointer (some ⟨Bs, 0, none⟩), .pointer (some ⟨Bp, 0, none⟩)])) (hel : Be < w.heap.size)
    (h : StepsAt w base Bs l) (hp : PlacesAt w base Bp (p :: ps)) (hn : l.length ≤ 900) (hps : ps.length ≤ 900) (hp0 : 0 ≤ p) (hp1 : p ≤ 23) (hbase : base ≤ w.heap.size) (hb1 : Bp < base) (hb2 : base ≤ Bs) :
    Calls Tryz.prog 65 #[mv, .pointer (some ⟨Bt, 0, none⟩), .pointer (some ⟨Be, 0, none⟩)] w fun e w' => (∃ v, e = .returned v) ∧ StepsAt w' base Bs (l ++ [writeS (1 + p) (encT { m with seq := q })]) ∧ PlacesAt w' base Bp ps ∧ Fr Bs Bp base w w' := by
  obtain ⟨a, c, a', c', rfl, hs, hw, h1, h2⟩ := hm
  have HS := hide h
  have HP := hide hp
  have H1 := hide hs
  have H2 := hide hw
  clear h hp hs hw
  go_enter Tryz.func65, Tryz.ntmps65
  go_wp2_with fail
  refine (stampEncode_any _ { m with seq := q } _ ⟨a, c, a', c', rfl, H1.out.below (below1 _ _), H2.out.below (below1 _ _), h1, h2⟩).mono ?_
  rintro e w1 ⟨rfl, hb1'⟩
  have HB := hide (bthen (below1 _ _) hb1')
  have he1 := cellKeep HB.out hel he
  clear hb1'
  go_wp2_with fail
  refine (enter_any Bs Bp base l p ps _ _ (HS.out.below HB.out) (HP.out.below HB.out) hn hps hp0 hp1 (Nat.le_trans hbase HB.out.size) hb1 hb2).mono ?_
  rintro e w2 ⟨⟨v, rfl⟩, k1, k2, k3⟩
  go_wp2
  go_end0
  exact ⟨⟨_, rfl⟩, k1, k2, (Fr.of_below HB.out hbase).trans k3⟩

end Go.Proofs.YtjnpndfpajjihabGreat

namespace Go.Proofs.YtjnpndfpajjihabGreat
open Go.RowKit Go.Shelf

attribute [local go_sem] Oper.semAt_some

set_option maxHeartbeats 1000000 in
set_option maxRecDepth 100000 in
theorem chunkI_zero (F : Fence) (n : Nat) (hF : F.fn 111) (hro : F.round = none) (l Bs Bn cap : Nat) (a : Option Addr) (J : Nat → World → Prop) (W : World) (hBs : Boxed W Bs 23 (.slice a 0 cap)) (h0 : J 0 W) :
    CallsIn F n Tryz.prog 111 #[.func (.yield l) #[] #[], .pointer (some ⟨Bs, 0, none⟩), .pointer (some ⟨Bn, 0, none⟩)] W fun e W' => (∃ v, e = .returned v) ∧ J 0 W' := by
  have c1 := hBs.cell
  refine callsIn_of_wp Tryz.func111 rfl hF ?_ hro
  simp only [Tryz.ntmps111, List.size_toArray, List.length_cons, List.length_nil, Nat.reduceAdd, Nat.reduceSub, Array.replicate_succ, Array.replicate_zero, List.push_toArray, List.append_toArray, List.nil_append, List.cons_append]
  gi_wp2
  gi_loopw [4] (fun i wr => i = .int .i64 0 ∧ J 0 wr ∧ wr = W) (fun _ _ => 0)
  case atStart => exact ⟨rfl, h0, rfl⟩
  case round =>
    obtain ⟨rfl, hJs, rfl⟩ := hrel
    gi_wp2
    go_end0
    exact ⟨⟨_, rfl⟩, hJs⟩
theorem chunkI_counts (F : Fence) (n : Nat) (hF : F.fn 111) (hro : F.round = none) (hn : 1 ≤ n) (Bs Bn len cap : Nat) (a : Option Addr) (hlen : len ≤ 1000) (hcap : 0 < len → len ≤ cap) (ha : 0 < len → ∃ b off, a = some ⟨b, off, none⟩) (w : World) (hBs : Boxed w Bs 23 (.slice a len cap)) (hBn : Boxed w Bn 3 (.int .i64 20)) :
    CountsTo F n Tryz.prog 111 #[.pointer (some ⟨Bs, 0, none⟩), .pointer (some ⟨Bn, 0, none⟩)] (fun k => #[.slice (a.map fun x => ⟨x.block, x.off + 20 * k, none⟩) (partL len 20 k) (partL len 20 k)]) (partN len 20) (KeepsB Bs Bn) w := by
  intro l J W hW hd hY h0
  have b1 : Boxed W Bs 23 (.slice a len cap) := boxKeep hW hBs.lt hBs
  have b2 : Boxed W Bn 3 (.int .i64 20) := boxKeep hW hBn.lt hBn
  rcases Nat.eq_zero_or_pos len with rfl | hp
  · exact chunkI_zero F n hF hro l Bs Bn cap a J W b1 h0
  · obtain ⟨b, off, rfl⟩ := ha hp
    exact chunkI_walk F n hF hro hn l Bs Bn b off len cap hlen (hcap hp) J hd hY W b1 b2 h0

set_option maxHeartbeats 1000000 in
set_option maxRecDepth 100000 in
theorem chunkC_zero (F : Fence) (n : Nat) (hF : F.fn 112) (hro : F.round = none) (l Bs Bn cap : Nat) (a : Option Addr) (J : Nat → World → Prop) (W : World) (hBs : Boxed W Bs 22 (.slice a 0 cap)) (h0 : J 0 W) :
    CallsIn F n Tryz.prog 112 #[.func (.yield l) #[] #[], .pointer (some ⟨Bs, 0, none⟩), .pointer (some ⟨Bn, 0, none⟩)] W fun e W' => (∃ v, e = .returned v) ∧ J 0 W' := by
  have c1 := hBs.cell
  refine callsIn_of_wp Tryz.func112 rfl hF ?_ hro
  simp only [Tryz.ntmps112, List.size_toArray, List.length_cons, List.length_nil, Nat.reduceAdd, Nat.reduceSub, Array.replicate_succ, Array.replicate_zero, List.push_toArray, List.append_toArray, List.nil_append, List.cons_append]
  gi_wp2
  gi_loopw [4] (fun i wr => i = .int .i64 0 ∧ J 0 wr ∧ wr = W) (fun _ _ => 0)
  case atStart => exact ⟨rfl, h0, rfl⟩
  case round =>
    obtain ⟨rfl, hJs, rfl⟩ := hrel
    gi_wp2
    go_end0
    exact ⟨⟨_, rfl⟩, hJs⟩
theorem chunkC_counts (F : Fence) (n : Nat) (hF : F.fn 112) (hro : F.round = none) (hn : 1 ≤ n) (Bs Bn len cap : Nat) (a : Option Addr) (hlen : len ≤ 1000) (hcap : 0 < len → len ≤ cap) (ha : 0 < len → ∃ b off, a = some ⟨b, off, none⟩) (w : World) (hBs : Boxed w Bs 22 (.slice a len cap)) (hBn : Boxed w Bn 3 (.int .i64 10)) :
    CountsTo F n Tryz.prog 112 #[.pointer (some ⟨Bs, 0, none⟩), .pointer (some ⟨Bn, 0, none⟩)] (fun k => #[.slice (a.map fun x => ⟨x.block, x.off + 10 * k * 2, none⟩) (partL len 10 k) (partL len 10 k)]) (partN len 10) (KeepsB Bs Bn) w := by
  intro l J W hW hd hY h0
  have b1 : Boxed W Bs 22 (.slice a len cap) := boxKeep hW hBs.lt hBs
  have b2 : Boxed W Bn 3 (.int .i64 10) := boxKeep hW hBn.lt hBn
  rcases Nat.eq_zero_or_pos len with rfl | hp
  · exact chunkC_zero F n hF hro l Bs Bn cap a J W b1 h0
  · obtain ⟨b, off, rfl⟩ := ha hp
    exact chunkC_walk F n hF hro hn l Bs Bn b off len cap hlen (hcap hp) J hd hY W b1 b2 h0


attribute [local go_sem] Oper.semAt_some

/-- The rows of a transaction whose value is written out. -/
theorem IsTx.segs {w : World} {t : Tx} {a : Option Addr} {c : Nat} {a' : Option Addr} {c' : Nat} {r : Option Addr} {d : Nat} (h : IsTx w (.agg #[.int .i64 t.seq, .slice a t.info.length c, .slice a' t.data.length c', .slice r t.rev.length d, .bool t.h0.on, .int .i64 t.h0.left, .bool t.h1.on, .int .i64 t.h1.left, .bool t.h2.on, .int .i64 t.h2.left]) t) :
    SegW w a t.info ∧ t.info.length ≤ maxLen ∧ SegW w a' t.data ∧ t.data.length ≤ maxLen ∧ SegI w r t.rev ∧ t.rev.length ≤ maxLen := by
  obtain ⟨b0, b1, b2, b3, b4, b5, e, f1, f2, f3, n1, n2, n3⟩ := h
  simp only [Value.agg.injEq] at e
  injection e with e
  simp only [List.cons.injEq, Value.slice.injEq, true_and, and_true] at e
  obtain ⟨⟨rfl, rfl⟩, ⟨rfl, rfl⟩, rfl, rfl⟩ := e
  exact ⟨f1, n1, f2, n2, f3, n3⟩

set_option maxHeartbeats 1000000 in
set_option maxRecDepth 100000 in
theorem commit_no (rh ru : Int) (v : Value) (t : Tx) (w : World) (hT : IsTx w v t) (r1 : t.info.length * 24 ≤ 140737488355328) (r2 : t.data.length * 24 ≤ 140737488355328) (he : ¬ sealE rh ru t = 0) :
    Calls Tryz.prog 16 #[.agg #[.int .i64 rh, .int .i64 ru], v] w fun e w' => ∃ a c, e = .returned (.tuple #[.agg #[.int .i64 (sealH rh ru t), .int .i64 (sealU rh ru t)], .slice a (commitS rh ru t).length c, .int .i64 (sealE rh ru t)]) ∧ SegSt w' a (commitS rh ru t) ∧ Below w.heap.size w w' := by
  have HT := hide hT
  obtain ⟨a0, a1, a2, a3, a4, a5, rfl, _, _, _, n1, n2, n3⟩ := hT
  have hH : sealH rh ru t = rh ∧ sealU rh ru t = ru ∧ sealP rh ru t = [] ∧ commitS rh ru t = [] := by simp [sealH, sealU, sealP, commitS, he]
  have HH := hide hH
  have heb : (sealE rh ru t != 0) = true := by simpa using he
  go_enter Tryz.func16, Tryz.ntmps16
  go_wp2_with fail
  refine (take_any rh ru _ t _ (HT.out.below (bthen (bthen (below1 _ _) (below1 _ _)) (below1 _ _))) r1 r2).mono ?_
  rintro e w1 ⟨a, c, rfl, _, hb1⟩
  obtain ⟨K1, K2, K3, hs1⟩ := three1 hb1
  have hs1' : w.heap.size < w1.heap.size := by omega
  have hs1a : w.heap.size + 1 + 1 < w1.heap.size + 1 := by omega
  have HB1 := hide (bthen (bthen (bthen (below1 _ _) (below1 _ _)) (below1 _ _)) hb1)
  obtain ⟨⟨r0, r1'⟩, _⟩ := box2 K1
  obtain ⟨⟨y0, y1⟩, f0, f1⟩ := box2 K3
  clear K1 K2 K3 hb1 hH
  go_wp2
  refine bodyPost_ret (v := .tuple #[.agg #[.int .i64 rh, .int .i64 ru], .slice none 0 0, .int .i64 (sealE rh ru t)]) (by simp [results, Tryz.results16, go_sem, hs1, hs1a, y0, y1]) rfl ⟨none, 0, by rw [HH.out.1, HH.out.2.1, HH.out.2.2.2]; rfl, .inl HH.out.2.2.2, ?_⟩
  refine Below.alloc (Below.alloc ?_ ?_ _) ?_ _
  · refine Below.setCell (Below.setCell HB1.out ?_ _) ?_ _
    · simp; omega
    · simp; omega
  · simp; omega
  · simp; omega

theorem Fr.weak {Bs Bp base : Nat} {w w' : World} (h : Fr Bs Bs base w w') : Fr Bs Bp base w w' :=
  ⟨h.os, h.tape, h.output, h.size, fun k hk _ n2 => h.low k hk n2 n2, fun k o ho hn n1 _ => h.box k o ho hn n1 n1⟩
theorem PlacesAt.fr {w w' : World} {base Bs Bp : Nat} {l : List Int} (h : PlacesAt w base Bp l) (hf : Fr Bs Bs base w w') (h1 : Bp ≠ Bs) (h2 : base ≤ Bs) : PlacesAt w' base Bp l := by
  obtain ⟨a, c, b1, s1, p1, r⟩ := h
  refine ⟨a, c, hf.boxed b1 (by decide) h1 h1, ?_, p1, r⟩
  rcases s1 with e | ⟨b, off, rfl, hlt, hc⟩
  · exact .inl e
  · have hk := (p1 b off rfl).1
    exact .inr ⟨b, off, rfl, Nat.lt_of_lt_of_le hlt hf.size, fun i hi => (World.cell?_of_block (w := w) (a := ⟨b, off + i, none⟩) (hf.low b hk (by omega) (by omega))).trans (hc i hi)⟩
theorem owns_fr {w w' : World} {b Bs Bp base : Nat} {e : TypeId} {size n : Nat} {v : Value} {xs : List Value} (h : w.ownsRow b e size v n xs) (hf : Fr Bs Bp base w w') (he : e ≠ 97) (h1 : Bs < b) (h2 : Bp < b) : w'.ownsRow b e size v n xs := by
  refine ⟨h.1, ?_⟩
  rcases h.2 with h0 | ⟨g, cap, cur, hv, hg, hh, r⟩
  · exact .inl h0
  · exact .inr ⟨g, cap, cur, hv, hg, hf.box g _ hh (fun cs fr e' => by simp only [Obj.cells.injEq] at e'; exact he e'.2.1) (by omega) (by omega), r⟩
theorem SegW.low {w W0 w' : World} {a : Option Addr} {l : List (Int × ByteArray)} {Bs Bp base : Nat} (h : SegW w a l) (hb : Below w.heap.size w W0) (hf : Fr Bs Bp base W0 w') (h1 : w.heap.size ≤ base) (h2 : w.heap.size ≤ Bp) (h3 : w.heap.size ≤ Bs) : SegW w' a l := by
  rcases h with h | ⟨b, off, rfl, hlt, hc⟩
  · exact .inl h
  · have hk := (hf.low b (by omega) (by omega) (by omega)).trans (hb.block b hlt)
    exact .inr ⟨b, off, rfl, Nat.lt_of_lt_of_le (Nat.lt_of_lt_of_le hlt hb.size) hf.size, fun i hi => ⟨(World.cell?_of_block (w := w) (a := ⟨b, off + i * 2, none⟩) hk).trans (hc i hi).1, (World.cell?_of_block (w := w) (a := ⟨b, off + i * 2 + 1, none⟩) hk).trans (hc i hi).2⟩⟩
theorem segW_part {w : World} {b off : Nat} {l : List (Int × ByteArray)} (h : SegW w (some ⟨b, off, none⟩) l) (k : Nat) : SegW w (some ⟨b, off + 10 * k * 2, none⟩) (partOf l k) := by
  rcases h with e | ⟨b', off', e, hlt, hc⟩
  · left; rw [e, partOf]; simp
  · cases e
    refine .inr ⟨b, off + 10 * k * 2, rfl, hlt, fun i hi => ?_⟩
    have hi2 : i < 10 ∧ 10 * k + i < l.length := by rw [partOf, List.length_take, List.length_drop] at hi; omega
    have e1 : (partOf l k).getD i (0, ByteArray.empty) = l.getD (10 * k + i) (0, ByteArray.empty) := by
      rw [List.getD, List.getD, partOf, List.getElem?_take, if_pos hi2.1, List.getElem?_drop]
    have := hc (10 * k + i) hi2.2
    rw [e1, show off + 10 * k * 2 + i * 2 = off + (10 * k + i) * 2 from by omega]
    exact this
theorem metaB_mono (q : Int) (l : List (Int × ByteArray)) {j k : Nat} (h : j ≤ k) : (metaB q l j).length ≤ (metaB q l k).length := by
  induction h with
  | refl => exact Nat.le_refl _
  | step h ih => rw [metaB_succ, List.length_append]; omega
theorem take_next (l : List ByteArray) {j : Nat} (h : j < l.length) : l.take (j + 1) = l.take j ++ [l.getD j ByteArray.empty] := by
  rw [List.take_add_one, getD_at l j ByteArray.empty h]; rfl
theorem partOf_mem {l : List (Int × ByteArray)} {k : Nat} {x : Int × ByteArray} (h : x ∈ partOf l k) : x ∈ l := List.mem_of_mem_drop (List.mem_of_mem_take h)

set_option maxHeartbeats 4000000 in
set_option maxRecDepth 100000 in
theorem commit_ok (rh ru : Int) (t : Tx) (a0 a2 a4 : Option Addr) (a1 a3 a5 : Nat) (w : World) (hT : IsTx w (.agg #[.int .i64 t.seq, .slice a0 t.info.length a1, .slice a2 t.data.length a3, .slice a4 t.rev.length a5, .bool t.h0.on, .int .i64 t.h0.left, .bool t.h1.on, .int .i64 t.h1.left, .bool t.h2.on, .int .i64 t.h2.left]) t) (hci : t.info.length ≤ a1) (hcr : t.rev.length ≤ a5) (he : sealE rh ru t = 0) :
    Calls Tryz.prog 16 #[.agg #[.int .i64 rh, .int .i64 ru], .agg #[.int .i64 t.seq, .slice a0 t.info.length a1, .slice a2 t.data.length a3, .slice a4 t.rev.length a5, .bool t.h0.on, .int .i64 t.h0.left, .bool t.h1.on, .int .i64 t.h1.left, .bool t.h2.on, .int .i64 t.h2.left]] w fun e w' => ∃ a c, e = .returned (.tuple #[.agg #[.int .i64 (sealH rh ru t), .int .i64 (sealU rh ru t)], .slice a (commitS rh ru t).length c, .int .i64 (sealE rh ru t)]) ∧ (commitS rh ru t).length ≤ c ∧ (∀ b off, a = some ⟨b, off, none⟩ → w.heap.size ≤ b) ∧ SegSt w' a (commitS rh ru t) ∧ Below w.heap.size w w' := by
  have HT := hide hT
  obtain ⟨hM, n1, hD, n2, hR, n3⟩ := IsTx.segs hT
  obtain ⟨hg, _, hPl, hPb⟩ := sealP_facts he
  have HPL := hide hPl
  have HPB := hide hPb
  have HG := hide hg
  have hsm := good_small hg
  have hg' := (goodX_iff t).1 hg
  have hbd : ∀ x ∈ t.data, 0 ≤ x.1 ∧ x.1 ≤ 11 := fun x hx => ((rises_iff _).1 hg'.2.2.1.2.1).1 x.1 (List.mem_map.2 ⟨x, hx, rfl⟩)
  have HBD := hide hbd
  have HCI := hide hci
  have HCR := hide hcr
  have HM := hide hM
  have HD := hide hD
  have HR := hide hR
  have HC : Hid (commitS rh ru t = (homeS t.data ++ putS (sealP rh ru t) (logB t) ++ (if 0 < t.rev.length + t.info.length then [flushS] else [])) ++ [writeS (1 + (sealP rh ru t).getD (logB t).length 0) (lastB t)] ++ [flushS]) := by rw [Hid, commitS, if_pos he]
  have hhl : (homeS t.data).length ≤ 13 := by
    rw [homeS, List.length_append, homeM_length]; split <;> simp <;> omega
  have HHL := hide hhl
  have hnl : (logB t).length ≤ 20 := by
    have := logB_length t hsm.1 hsm.2.2
    have h2 : needN (t.info.length : Int) (t.rev.length : Int) ≤ 20 := by unfold needN; split <;> (try split) <;> (try split) <;> (try split) <;> omega
    omega
  have HNL := hide hnl
  clear hPl hPb hg' hbd hci hcr hM hD hR n1 n2 n3 hT hhl hg hnl
  refine (callsIn_wide (n := 9)).1 ?_
  refine callsIn_of_wp_marks Tryz.func16 rfl trivial ?_ rfl
  simp only [Tryz.ntmps16, List.size_toArray, List.length_cons, List.length_nil, Nat.reduceAdd, Nat.reduceSub, Array.replicate_succ, Array.replicate_zero, List.push_toArray, List.append_toArray, List.nil_append, List.cons_append]
  gi_wp2_with fail
  refine ⟨trivial, (callsIn_wide.2 (take_any rh ru _ t _ (HT.out.below (bthen (bthen (below1 _ _) (below1 _ _)) (below1 _ _))) (by omega) (by omega))).mono ?_⟩
  rintro e w1 ⟨pa, pc, rfl, hP, hb1⟩
  rw [he]
  obtain ⟨K1, K2, K3, hs1⟩ := three1 hb1
  have KT := hide K2
  have KZ := hide K3
  have HB1 := hide (bthen (bthen (bthen (below1 _ _) (below1 _ _)) (below1 _ _)) hb1)
  have HP := hide hP
  have hsz1 : w.heap.size < w1.heap.size := by omega
  have hsz1' : w.heap.size + 1 < w1.heap.size := by omega
  obtain ⟨⟨x0, x1, x2, x3, x4, x5, x6, x7, x8, x9⟩, _⟩ := box10 K2
  have HE0 := hide he
  clear K1 K2 K3 hP he
  generalize sealP rh ru t = PS at *
  generalize hsH : sealH rh ru t = sH at *
  generalize hsU : sealU rh ru t = sU at *
  have HSH := hide hsH
  have HSU := hide hsU
  clear hsH hsU
  gi_wp2_with fail
  refine ⟨trivial, (callsIn_wide.2 (home_any a2 a3 t.data _ ((HD.out.below HB1.out).below (bthen (below1 _ _) (below1 _ _))) (by omega) HBD.out)).mono ?_⟩
  rintro e w2 ⟨v2, rfl, hO2, hb2⟩
  have KB := hide (two1 hb2)
  have KP := hide (two2 hb2)
  have hb12 : Below w1.heap.size w1 w2 := bthen (bthen (below1 _ _) (below1 _ _)) hb2
  replace KT := hide (boxKeep hb12 hsz1' KT.out)
  replace KZ := hide (boxKeep hb12 hs1 KZ.out)
  have HS := hide (HP.out.1.below hb12)
  have HO : Hid (w2.ownsRow (w1.heap.size + 1 + 1) 97 3 v2 (homeS t.data).length (cellsSt (homeS t.data))) := hide (by simpa using hO2)
  have HB2 := hide (bthen HB1.out hb12)
  have hsz2 : w1.heap.size + 1 < w2.heap.size := by have := hb2.size; simp at this; omega
  obtain ⟨ha, hc, rfl, _, _⟩ := SegSt.of_owns hO2
  clear hb2 hb12 hO2 x0 x1 x2 x3 x4 x5 x6 x7 x8 x9
  have hsz2a : w.heap.size + 1 < w2.heap.size := by omega
  have hsz2b : w.heap.size + 1 < w2.heap.size + 1 := by omega
  have hsz2c : w.heap.size + 1 < w2.heap.size + 1 + 1 := by omega
  obtain ⟨⟨x0, x1, x2, x3, x4, x5, x6, x7, x8, x9⟩, _⟩ := box10 KT.out
  gi_wp2_with fail
  obtain ⟨W0, hW0⟩ : ∃ W0, W0 = ((w2.alloc (Obj.cells #[.slice ha (homeS t.data).length hc] 42)).alloc (Obj.cells #[.func (.func 63) #[] #[.pointer (some ⟨w2.heap.size, 0, none⟩), .pointer (some ⟨w1.heap.size + 1, 0, none⟩)]] 100)).alloc (Obj.cells #[.func (.func 65) #[] #[.pointer (some ⟨w.heap.size + 1, 0, none⟩), .pointer (some ⟨w2.heap.size + 1, 0, none⟩)]] 106) := ⟨_, rfl⟩
  have hb20 : Below w2.heap.size w2 W0 := by rw [hW0]; exact bthen (bthen (below1 _ _) (below1 _ _)) (below1 _ _)
  have hz0 : W0.heap.size = w2.heap.size + 1 + 1 + 1 := by rw [hW0]; simp
  have hthree : W0.heap[w2.heap.size]? = some (Obj.cells #[.slice ha (homeS t.data).length hc] 42) ∧ W0.heap[w2.heap.size + 1]? = some (Obj.cells #[.func (.func 63) #[] #[.pointer (some ⟨w2.heap.size, 0, none⟩), .pointer (some ⟨w1.heap.size + 1, 0, none⟩)]] 100) ∧ W0.heap[w2.heap.size + 1 + 1]? = some (Obj.cells #[.func (.func 65) #[] #[.pointer (some ⟨w.heap.size + 1, 0, none⟩), .pointer (some ⟨w2.heap.size + 1, 0, none⟩)]] 106) ∧ w2.heap.size + 1 + 1 < W0.heap.size := by rw [hW0]; exact three1 (Below.refl _ _)
  rw [← hW0]
  clear hW0 x0 x1 x2 x3 x4 x5 x6 x7 x8 x9
  have bS : Hid (Boxed W0 (w2.heap.size) 42 (.slice ha (homeS t.data).length hc)) := hthree.1
  have bE : Hid (Boxed W0 (w2.heap.size + 1) 100 (.func (.func 63) #[] #[.pointer (some ⟨w2.heap.size, 0, none⟩), .pointer (some ⟨w1.heap.size + 1, 0, none⟩)])) := hthree.2.1
  have bM : Hid (Boxed W0 (w2.heap.size + 1 + 1) 106 (.func (.func 65) #[] #[.pointer (some ⟨w.heap.size + 1, 0, none⟩), .pointer (some ⟨w2.heap.size + 1, 0, none⟩)])) := hthree.2.2.1
  have hLS : StepsAt W0 (w1.heap.size + 1 + 1) (w2.heap.size) (homeS t.data ++ putS PS []) := by
    rw [show putS PS [] = [] from by simp [putS], List.append_nil]
    exact ⟨_, bS.out, owns_keep HO.out hb20⟩
  have hLP : PlacesAt W0 (w1.heap.size + 1 + 1) (w1.heap.size + 1) (PS.drop ([] : List ByteArray).length) := by
    refine ⟨pa, pc, boxKeep hb20 hsz2 KP.out, HS.out.below hb20, ?_, HP.out.2.2, ?_⟩
    · intro b off e
      rcases HP.out.1 with e0 | ⟨b', off', e', hlt, _⟩
      · have := HPL.out; rw [e0] at this; simp at this
      · rw [e] at e'; cases e'; omega
    · intro e
      rcases HP.out.1 with e0 | ⟨b', off', e', hlt, _⟩
      · exact e0
      · rw [e] at e'; cases e'
  have HLOG : Hid (LogAt W0 (w1.heap.size + 1 + 1) (w2.heap.size) (w1.heap.size + 1) (homeS t.data) PS []) := ⟨hLS, hLP, Nat.zero_le _⟩
  replace KT := hide (boxKeep hb20 hsz2a KT.out)
  replace KZ := hide (boxKeep hb20 (by omega) KZ.out)
  replace KB := hide (boxKeep hb20 (by omega) KB.out)
  have HB0 := hide (bthen HB2.out hb20)
  have hbz : w1.heap.size + 1 + 1 ≤ W0.heap.size := by omega
  have HZ0 := hide hz0
  clear hb20 hthree hLS hLP HO HS HP KP bS hz0
  refine ⟨trivial, (chunkI_in Fence.wide 8 trivial rfl a4 t.rev.length a5 W0).mono ?_⟩
  rintro e W1 ⟨rfl, hW1⟩
  have hb01 : Below W0.heap.size W0 W1 := by rw [hW1]; exact bthen (below1 _ _) (below1 _ _)
  have hz1 : W1.heap.size = W0.heap.size + 1 + 1 := by rw [hW1]; simp
  have cS : Boxed W1 W0.heap.size 23 (.slice a4 t.rev.length a5) := by rw [hW1]; exact two1 (Below.refl _ _)
  have cN : Boxed W1 (W0.heap.size + 1) 3 (.int .i64 20) := by rw [hW1]; exact two2 (Below.refl _ _)
  have HZ1 := hide hz1
  clear hW1 hz1
  have hcap1 : 0 < t.rev.length → t.rev.length ≤ a5 := fun _ => HCR.out
  have haddr1 : 0 < t.rev.length → ∃ b off, a4 = some ⟨b, off, none⟩ := fun hp => by
    rcases HR.out with e | ⟨b, off, e, _⟩
    · rw [e] at hp; simp at hp
    · exact ⟨b, off, e⟩
  have HA1 := hide haddr1
  have HC1 := hide hcap1
  clear haddr1 hcap1
  gi_wp2_with fail
  refine range_counted (F := Fence.wide) (n := 9) rfl (by decide) (gf := 111) (lb := #[.pointer (some ⟨W0.heap.size, 0, none⟩), .pointer (some ⟨W0.heap.size + 1, 0, none⟩)]) rfl trivial (enters_of Tryz.func111 (by kernel_rfl) rfl)
    (chunkI_counts Fence.wide 8 trivial rfl (by decide) W0.heap.size (W0.heap.size + 1) t.rev.length a5 a4 (by omega) HC1.out HA1.out W1 cS cN) (Below.refl _ _) KeepsB.trans KeepsB.put (fun _ => rfl)
    (fun k W => LogAt W (w1.heap.size + 1 + 1) (w2.heap.size) (w1.heap.size + 1) (homeS t.data) PS (if k = 0 then [] else revB t) ∧ Fr (w2.heap.size) (w1.heap.size + 1) (w1.heap.size + 1 + 1) W0 W ∧ Boxed W W0.heap.size 23 (.slice a4 t.rev.length a5) ∧ Boxed W (W0.heap.size + 1) 3 (.int .i64 20))
    ?own ?drew ?start ?a1 ?assign ?body ?done
  case own =>
    intro k A B row hI hgr hr
    have hr2 : ∀ r, row = some r → ∃ o : Obj, A.heap[r]? = some o ∧ o.isCells = false := fun r e => (hr r e).2
    refine ⟨hI.1.kept hgr hr2, hI.2.1.kept hgr (fun r e => by have := (hr r e).1; have := HZ1.out; omega) hbz, hI.2.2.1.kept hgr ?_, hI.2.2.2.kept hgr ?_⟩
    · intro e; obtain ⟨o, ho, hc⟩ := hr2 _ e.symm; rw [show A.heap[W0.heap.size]? = _ from hI.2.2.1] at ho; cases ho; cases hc
    · intro e; obtain ⟨o, ho, hc⟩ := hr2 _ e.symm; rw [show A.heap[W0.heap.size + 1]? = _ from hI.2.2.2] at ho; cases ho; cases hc
  case drew =>
    intro k V hI
    exact ⟨hI.1.below (Below.refl _ _).drew, hI.2.1.trans (Fr.of_below (Below.refl _ _).drew (by have := hI.2.1.size; omega)), hI.2.2.1, hI.2.2.2⟩
  case start =>
    refine ⟨?_, Fr.of_below hb01 hbz, cS, cN⟩
    rw [if_pos rfl]
    exact HLOG.out.below hb01
  case assign =>
    intro l k W K hK
    gi_wp2
    exact hK
  case body =>
    intro l k W hk hI
    obtain ⟨hL, hF, c1, c2⟩ := hI
    have hk0 : k = 0 ∧ 0 < t.rev.length := by unfold partN at hk; omega
    obtain ⟨rfl, hp⟩ := hk0
    obtain ⟨b, off, rfl⟩ := HA1.out hp
    have hpl : partL t.rev.length 20 0 = t.rev.length := by unfold partL; split <;> omega
    have bMw := (hF.boxed bM.out (by decide) (by omega) (by omega)).cell
    rw [if_pos rfl] at hL
    have hW0 := hF.size
    have hps : ([] : List ByteArray).length < PS.length := by have := HPL.out; simp; omega
    have hsg : SegI W (some ⟨b, off, none⟩) t.rev := by
      have hlt := HR.out
      rcases hlt with e | ⟨b', off', e, hl, hc⟩
      · exact .inl e
      · cases e
        refine .inr ⟨b, off, rfl, Nat.lt_of_lt_of_le (Nat.lt_of_lt_of_le hl HB0.out.size) hF.size, fun i hi => ?_⟩
        have hbw : b < w.heap.size := hl
        exact (World.cell?_of_block (w := W0) (a := ⟨b, off + i, none⟩) (hF.low b (by omega) (by omega) (by omega))).trans (cellKeep HB0.out hl (hc i hi))
    have hnl := HNL.out
    have hKT := hF.box _ _ KT.out (fun cs fr e => by simp only [Obj.cells.injEq] at e; exact absurd e.2.1 (by decide)) (by omega) (by omega)
    have hsq := (box10 hKT).1.1
    have hen := (hF.boxed bE.out (by decide) (by omega) (by omega)).cell
    have hpl2 : PlacesAt W (w1.heap.size + 1 + 1) (w1.heap.size + 1) (PS.getD ([] : List ByteArray).length 0 :: PS.drop (([] : List ByteArray).length + 1)) := by
      have := hL.2.1
      rw [drop_getD hps] at this
      exact this
    have hln : (homeS t.data ++ putS PS ([])).length ≤ 900 := by
      rw [List.length_append, putS_length (Nat.le_of_lt hps)]
      have := HHL.out; have := HPL.out; omega
    gi_wp2_with fail
    refine ⟨trivial, (CallsIn.inRound l (callsIn_wide.2 (emark_any (w2.heap.size) (w1.heap.size + 1) (w1.heap.size + 1 + 1) (w.heap.size + 1) (w2.heap.size + 1) (homeS t.data ++ putS PS ([])) (PS.getD ([] : List ByteArray).length 0) (PS.drop (([] : List ByteArray).length + 1)) ⟨3, 0, 0, [], t.rev⟩ _ t.seq W ⟨none, 0, some ⟨b, off, none⟩, _, rfl, .inl rfl, hsg, Nat.zero_le _, by show t.rev.length ≤ maxLen; unfold maxLen; omega⟩ hsq (by have := hF.size; have := HZ0.out; omega) hen (by have := hF.size; have := HZ0.out; omega) hL.1 hpl2 hln (by have := HPL.out; have := hnl; simp; omega) (HPB.out _).1 (HPB.out _).2 (by have := hF.size; omega) (by omega) (by omega)))).mono ?_⟩
    rintro e W' ⟨⟨v, rfl⟩, k1, k2, k3⟩
    clear hKT hsq hen hpl2 hln
    gi_wp2
    have hz := HZ0.out
    refine ⟨k3.others hL.1.boxed hL.2.1.boxed, KeepsB.of_fr k3 c1 c2 (by decide) (by decide) (by omega) (by omega) (by omega) (by omega), ?_, hF.trans k3, k3.boxed c1 (by decide) (by omega) (by omega), k3.boxed c2 (by decide) (by omega) (by omega)⟩
    rw [revB, if_neg (by omega)]
    exact LogAt.next (d := []) hps k1 k2
  case done =>
    intro D W hD hI hK
    obtain ⟨hL, hF, _, _⟩ := hI
    have hL2 : LogAt W (w1.heap.size + 1 + 1) (w2.heap.size) (w1.heap.size + 1) (homeS t.data) PS (revB t) := by
      by_cases h0 : t.rev.length = 0
      · have e1 : partN t.rev.length 20 = 0 := by rw [h0]; rfl
        have e2 : revB t = [] := by rw [revB, if_pos h0]
        rw [e1, if_pos rfl] at hL
        rw [e2]; exact hL
      · have e1 : partN t.rev.length 20 ≠ 0 := by unfold partN; omega
        rw [if_neg e1] at hL
        exact hL
    have HLW := hide hL2
    have HFW := hide hF
    have HKD := hide hK
    have hDs : D < W.heap.size := (Array.getElem?_eq_some_iff.1 hK).1
    have hW0s := hF.size
    have hDz : W0.heap.size < D := by have := HZ1.out; omega
    have hKT := hF.box _ _ KT.out (fun cs fr e => by simp only [Obj.cells.injEq] at e; exact absurd e.2.1 (by decide)) (by omega) (by omega)
    obtain ⟨⟨x0, x1, x2, x3, x4, x5, x6, x7, x8, x9⟩, _⟩ := box10 hKT
    clear hL hL2 hF hK hKT cS cN hb01 HLOG
    gi_wp2_with fail
    refine ⟨trivial, (chunkC_in Fence.wide 8 trivial rfl a0 t.info.length a1 W).mono ?_⟩
    rintro e W2 ⟨rfl, hW2⟩
    have hb02 : Below W.heap.size W W2 := by rw [hW2]; exact bthen (below1 _ _) (below1 _ _)
    have hz2 : W2.heap.size = W.heap.size + 1 + 1 := by rw [hW2]; simp
    have dS : Boxed W2 W.heap.size 22 (.slice a0 t.info.length a1) := by rw [hW2]; exact two1 (Below.refl _ _)
    have dN : Boxed W2 (W.heap.size + 1) 3 (.int .i64 10) := by rw [hW2]; exact two2 (Below.refl _ _)
    have HZ2 := hide hz2
    clear hW2 hz2 x0 x1 x2 x3 x4 x5 x6 x7 x8 x9
    have haddr2 : 0 < t.info.length → ∃ b off, a0 = some ⟨b, off, none⟩ := fun hp => by
      rcases HM.out with e | ⟨b, off, e, _⟩
      · rw [e] at hp; simp at hp
      · exact ⟨b, off, e⟩
    have HA2 := hide haddr2
    clear haddr2
    gi_wp2_with fail
    refine range_counted (F := Fence.wide) (n := 9) rfl (by decide) (gf := 112) (lb := #[.pointer (some ⟨W.heap.size, 0, none⟩), .pointer (some ⟨W.heap.size + 1, 0, none⟩)]) rfl trivial (enters_of Tryz.func112 (by kernel_rfl) rfl)
      (chunkC_counts Fence.wide 8 trivial rfl (by decide) W.heap.size (W.heap.size + 1) t.info.length a1 a0 (by omega) (fun _ => HCI.out) HA2.out W2 dS dN) (Below.refl _ _) KeepsB.trans KeepsB.put (fun _ => rfl)
      (fun k V => LogAt V (w1.heap.size + 1 + 1) (w2.heap.size) (w1.heap.size + 1) (homeS t.data) PS (revB t ++ metaB t.seq t.info k) ∧ Fr (w2.heap.size) (w1.heap.size + 1) (w1.heap.size + 1 + 1) W0 V ∧ Boxed V W.heap.size 22 (.slice a0 t.info.length a1) ∧ Boxed V (W.heap.size + 1) 3 (.int .i64 10) ∧ V.heap[D]? = some (.deferred (some [])))
      ?own2 ?drew2 ?start2 ?a2 ?assign2 ?body2 ?done2
    case own2 =>
      intro k A B row hI hgr hr
      have hr2 : ∀ r, row = some r → ∃ o : Obj, A.heap[r]? = some o ∧ o.isCells = false := fun r e => (hr r e).2
      have hz2 := HZ2.out
      refine ⟨hI.1.kept hgr hr2, hI.2.1.kept hgr (fun r e => by have := (hr r e).1; omega) hbz, hI.2.2.1.kept hgr ?_, hI.2.2.2.1.kept hgr ?_, (hgr.block D (Array.getElem?_eq_some_iff.1 hI.2.2.2.2).1 (fun e => by have := (hr D e.symm).1; omega)).trans hI.2.2.2.2⟩
      · intro e; obtain ⟨o, ho, hc⟩ := hr2 _ e.symm; rw [show A.heap[W.heap.size]? = _ from hI.2.2.1] at ho; cases ho; cases hc
      · intro e; obtain ⟨o, ho, hc⟩ := hr2 _ e.symm; rw [show A.heap[W.heap.size + 1]? = _ from hI.2.2.2.1] at ho; cases ho; cases hc
    case drew2 =>
      intro k V hI
      exact ⟨hI.1.below (Below.refl _ _).drew, hI.2.1.trans (Fr.of_below (Below.refl _ _).drew (by have := hI.2.1.size; omega)), hI.2.2.1, hI.2.2.2.1, hI.2.2.2.2⟩
    case start2 =>
      refine ⟨?_, HFW.out.trans (Fr.of_below hb02 (by omega)), dS, dN, boxKeep hb02 hDs HKD.out⟩
      rw [show metaB t.seq t.info 0 = [] from rfl, List.append_nil]
      exact HLW.out.below hb02
    case assign2 =>
      intro l k V K hK
      gi_wp2
      exact hK
    case body2 =>
      intro l k V hk hI
      obtain ⟨hL, hF, c1, c2, hKD⟩ := hI
      have hp : 0 < t.info.length := by unfold partN at hk; omega
      obtain ⟨b, off, rfl⟩ := HA2.out hp
      have hVs := hF.size
      have hsgP : SegW V (some ⟨b, off + 10 * k * 2, none⟩) (partOf t.info k) := segW_part (HM.out.low HB0.out hF (by omega) (by omega) (by omega)) k
      have hplen := partOf_length t.info k
      have hpsz : ∀ x ∈ partOf t.info k, x.2.size ≤ maxLen := by
        intro x hx
        have hg' := ((goodX_iff t).1 HG.out).2.1.1
        unfold fitsAll at hg'
        have := List.all_eq_true.1 hg' x (partOf_mem hx)
        simp [fitsB] at this
        unfold maxLen; omega
      have hpl10 : (partOf t.info k).length ≤ 10 := by rw [partOf, List.length_take]; omega
      have hmono := metaB_mono t.seq t.info (show k + 1 ≤ partN t.info.length 10 by omega)
      have hdd : (revB t).length + (metaB t.seq t.info (k + 1)).length ≤ (logB t).length := by rw [logB, List.length_append]; omega
      have hsucc := metaB_succ t.seq t.info k
      obtain ⟨dd, hddE⟩ : ∃ dd, dd = revB t ++ metaB t.seq t.info k := ⟨_, rfl⟩
      have hdl0 : dd.length + (partB t.seq t.info k).length ≤ (logB t).length := by rw [hddE, List.length_append]; rw [hsucc, List.length_append] at hdd; omega
      have HEND : Hid (revB t ++ metaB t.seq t.info (k + 1) = dd ++ [encT ⟨2, t.seq, 0, tagsOf (partOf t.info k), []⟩] ++ textsOf (partOf t.info k)) := by
        rw [Hid, hsucc, ← List.append_assoc, ← hddE, partB]; simp
      rw [← hddE] at hL
      have HPBL : Hid (dd.length + (1 + (textsOf (partOf t.info k)).length) ≤ (logB t).length) := by
        have hpB : (partB t.seq t.info k).length = 1 + (textsOf (partOf t.info k)).length := by rw [partB, List.length_cons]; omega
        rw [Hid, ← hpB]; exact hdl0
      clear hdl0
      have HSG := hide hsgP
      have HSZ := hide hpsz
      have HLV := hide hL
      have HFV := hide hF
      clear hsgP hpsz hmono hdd hsucc hddE hL hF
      rw [← hplen]
      clear hplen
      generalize partOf t.info k = part at *
      gi_wp2_with fail
      refine ⟨trivial, (CallsIn.inRound l (callsIn_wide.2 (sealEscape_any (some ⟨b, off + 10 * k * 2, none⟩) part.length part V HSG.out (by omega) HSZ.out))).mono ?_⟩
      rintro e V1 ⟨v1, v2, rfl, hG, hTx, hb1⟩
      have hL1 := HLV.out.below hb1
      have hF1 := HFV.out.trans (Fr.of_below hb1 (by omega))
      have hf01 : Fr (w2.heap.size) (w1.heap.size + 1) (w1.heap.size + 1 + 1) V V1 := Fr.of_below hb1 (by omega)
      obtain ⟨ga, gc, rfl, hGs, _⟩ := SegG.of_owns hG
      obtain ⟨ta, tc, hte, hTs, _⟩ := SegX.of_owns hTx
      subst hte
      have HTL : Hid ((textsOf part).length = part.length) := by rw [Hid, textsOf, List.length_map]
      have HGL : Hid ((tagsOf part).length = part.length) := by rw [Hid, tagsOf, List.length_map]
      have hdl : dd.length < PS.length := by have := HPL.out; have := HPBL.out; omega
      have HDL := hide hdl
      have hnl := HNL.out
      have hKT := hF1.box _ _ KT.out (fun cs fr e => by simp only [Obj.cells.injEq] at e; exact absurd e.2.1 (by decide)) (by omega) (by omega)
      have hsq := (box10 hKT).1.1
      have hen := (hF1.boxed bE.out (by decide) (by omega) (by omega)).cell
      have hpl2 : PlacesAt V1 (w1.heap.size + 1 + 1) (w1.heap.size + 1) (PS.getD (dd).length 0 :: PS.drop ((dd).length + 1)) := by
        have := hL1.2.1
        rw [drop_getD hdl] at this
        exact this
      have hln : (homeS t.data ++ putS PS (dd)).length ≤ 900 := by
        rw [List.length_append, putS_length (Nat.le_of_lt hdl)]
        have := HHL.out; have := HPL.out; omega
      have hmk := (hF1.boxed bM.out (by decide) (by omega) (by omega)).cell
      gi_wp2_with fail
      refine ⟨trivial, (CallsIn.inRound l (callsIn_wide.2 (emark_any (w2.heap.size) (w1.heap.size + 1) (w1.heap.size + 1 + 1) (w.heap.size + 1) (w2.heap.size + 1) (homeS t.data ++ putS PS (dd)) (PS.getD (dd).length 0) (PS.drop ((dd).length + 1)) ⟨2, 0, 0, tagsOf part, []⟩ _ t.seq V1 ⟨ga, gc, none, 0, rfl, hGs, .inl rfl, by show (tagsOf part).length ≤ maxLen; rw [HGL.out]; unfold maxLen; omega, Nat.zero_le _⟩ hsq (by have := hF1.size; have := HZ0.out; omega) hen (by have := hF1.size; have := HZ0.out; omega) hL1.1 hpl2 hln (by have := HPL.out; have := hnl; simp; omega) (HPB.out _).1 (HPB.out _).2 (by have := hF1.size; omega) (by omega) (by omega)))).mono ?_⟩
      rintro e V2 ⟨⟨v, rfl⟩, k1, k2, k3⟩
      have hL2 : LogAt V2 (w1.heap.size + 1 + 1) (w2.heap.size) (w1.heap.size + 1) (homeS t.data) PS (dd ++ [encT ⟨2, t.seq, 0, tagsOf part, []⟩]) := LogAt.next hdl k1 k2
      have hF2 := hF1.trans k3
      have hTx2 : OwnT V2 V.heap.size (.slice ta (textsOf part).length tc) (textsOf part) := owns_fr hTx k3 (by decide) (by have := HZ0.out; omega) (by omega)
      have HL2 := hide hL2
      have HF2 := hide hF2
      have HF02 := hide (hf01.trans k3)
      have HTX := hide hTx2
      have hV1s := hb1.size
      clear hKT hsq hen hpl2 hln hmk k1 k2 hL2 hF2 hL1 hF1 hf01 hTx hTx2 hG hGs hTs HGL
      have HD2 : Hid ((dd ++ [encT ⟨2, t.seq, 0, tagsOf part, []⟩]).length + (textsOf part).length < PS.length) := by
        rw [Hid, List.length_append]; have := HPBL.out; have := HPL.out; simp; omega
      have hTXb : (textsOf part).length ≤ 20 := by have := HPBL.out; have := HNL.out; omega
      clear hdl HDL HPBL HTL
      generalize dd ++ [encT ⟨2, t.seq, 0, tagsOf part, []⟩] = d2 at *
      generalize textsOf part = TX at *
      gi_wp2
      gi_loopw [60] (fun i wr => ∃ j : Nat, j ≤ TX.length ∧ i = .int .i64 j ∧ Hid (LogAt wr (w1.heap.size + 1 + 1) (w2.heap.size) (w1.heap.size + 1) (homeS t.data) PS (d2 ++ TX.take j)) ∧ Hid (Fr (w2.heap.size) (w1.heap.size + 1) (w1.heap.size + 1 + 1) V2 wr)) (fun i _ => TX.length - (intOf i).toNat)
      case atStart => exact ⟨0, Nat.zero_le _, rfl, by rw [List.take_zero, List.append_nil]; exact HL2, (Fr.of_below (Below.refl _ _) (by have := HF2.out.size; omega))⟩
      case round =>
        obtain ⟨j, hj, rfl, hLr, hFr⟩ := hrel
        have hV2s := HF2.out.size
        by_cases hlt : j < TX.length
        · have hlt' : (j : Int) < (TX.length : Int) := by omega
          have hTr : OwnT wr V.heap.size (.slice ta TX.length tc) TX := owns_fr HTX.out hFr.out (by decide) (by have := HZ0.out; omega) (by omega)
          obtain ⟨ta', tc', ee, hS, _⟩ := SegX.of_owns hTr
          obtain ⟨rfl, rfl⟩ : ta = ta' ∧ tc = tc' := by simpa using ee
          obtain ⟨b2, off2, rfl, hb2, hc2⟩ := hS.resolve_left (by intro e; rw [e] at hlt; simp at hlt)
          have hcell := hc2 j hlt
          have hen := ((HF2.out.trans hFr.out).boxed bE.out (by decide) (by omega) (by omega)).cell
          have hdl : (d2 ++ TX.take j).length < PS.length := by rw [List.length_append, List.length_take]; have := HD2.out; omega
          have hpl2 : PlacesAt wr (w1.heap.size + 1 + 1) (w1.heap.size + 1) (PS.getD (d2 ++ TX.take j).length 0 :: PS.drop ((d2 ++ TX.take j).length + 1)) := by
            have := hLr.out.2.1
            rw [drop_getD hdl] at this
            exact this
          have hln : (homeS t.data ++ putS PS (d2 ++ TX.take j)).length ≤ 900 := by
            rw [List.length_append, putS_length (Nat.le_of_lt hdl)]
            have := HHL.out; have := HPL.out; have := HNL.out; omega
          have HDL := hide hdl
          have HPL2 := hide hpl2
          have HLN := hide hln
          have HTN := hide (take_next TX hlt)
          clear hTr hS hc2 ee hdl hpl2 hln
          generalize TX.getD j ByteArray.empty = tj at *
          gi_wp2_with fail
          refine ⟨trivial, (CallsIn.inRound l (callsIn_wide.2 (enter_any (w2.heap.size) (w1.heap.size + 1) (w1.heap.size + 1 + 1) (homeS t.data ++ putS PS (d2 ++ TX.take j)) (PS.getD (d2 ++ TX.take j).length 0) (PS.drop ((d2 ++ TX.take j).length + 1)) tj wr hLr.out.1 HPL2.out HLN.out (by have := HPL.out; have := HNL.out; simp; omega) (HPB.out _).1 (HPB.out _).2 (by have := hFr.out.size; omega) (by omega) (by omega)))).mono ?_⟩
          rintro e V3 ⟨⟨v, rfl⟩, k1, k2, k3'⟩
          have HLn := hide (LogAt.next HDL.out k1 k2)
          have HFn := hide (hFr.out.trans k3')
          clear k1 k2 k3' HPL2 HLN hLr hFr hen hcell
          gi_wp2
          go_roundw
          case rel => exact ⟨j + 1, by omega, by go_num, by rw [HTN.out, ← List.append_assoc]; exact HLn, HFn⟩
          case measure => simp [intOf]; omega
        · have hlt' : ¬ ((j : Int) < (TX.length : Int)) := by omega
          have e : j = TX.length := by omega
          subst e
          rw [List.take_length] at hLr
          gi_wp2
          have hz := HZ0.out
          have hff := HF02.out.trans hFr.out
          refine ⟨hff.others HLV.out.1.boxed HLV.out.2.1.boxed, KeepsB.of_fr hff c1 c2 (by decide) (by decide) (by omega) (by omega) (by omega) (by omega), ?_, HF2.out.trans hFr.out, hff.boxed c1 (by decide) (by omega) (by omega), hff.boxed c2 (by decide) (by omega) (by omega), hff.box D _ hKD (fun cs fr e => by cases e) (by omega) (by omega)⟩
          rw [HEND.out]
          exact hLr.out
    case done2 =>
      intro D2 W3 hD2 hI hK2
      obtain ⟨hL3', hF3, _, _, hKD⟩ := hI
      have hL3 : LogAt W3 (w1.heap.size + 1 + 1) (w2.heap.size) (w1.heap.size + 1) (homeS t.data) PS (logB t) := hL3'
      have hdl3 : (logB t).length < PS.length := by have := HPL.out; omega
      have hW3s := hF3.size
      clear hL3'
      have hnl := HNL.out
      have hKT := hF3.box _ _ KT.out (fun cs fr e => by simp only [Obj.cells.injEq] at e; exact absurd e.2.1 (by decide)) (by omega) (by omega)
      have hsq := (box10 hKT).1.1
      have hen := (hF3.boxed bE.out (by decide) (by omega) (by omega)).cell
      have hpl2 : PlacesAt W3 (w1.heap.size + 1 + 1) (w1.heap.size + 1) (PS.getD (logB t).length 0 :: PS.drop ((logB t).length + 1)) := by
        have := hL3.2.1
        rw [drop_getD hdl3] at this
        exact this
      have hln : (homeS t.data ++ putS PS (logB t)).length ≤ 900 := by
        rw [List.length_append, putS_length (Nat.le_of_lt hdl3)]
        have := HHL.out; have := HPL.out; omega
      have hKTc := hKT
      obtain ⟨⟨x0, x1, x2, x3, x4, x5, x6, x7, x8, x9⟩, _⟩ := box10 hKTc
      clear hKT hKTc hsq hen
      have hln20 : (homeS t.data ++ putS PS (logB t)).length ≤ 40 := by
        rw [List.length_append, putS_length (Nat.le_of_lt hdl3)]
        have := HHL.out; have := HNL.out; omega
      have hz0 := HZ0.out
      have HZZ := hide hz0
      clear hz0
      have hzz : w2.heap.size + 1 + 1 < W0.heap.size := by have := HZZ.out; omega
      have hD2z : D < D2 := by have := HZ2.out; omega
      by_cases hz : 0 < t.rev.length + t.info.length
      · have hz' : (0 : Int) < (t.rev.length : Int) + (t.info.length : Int) := by omega
        gi_wp2_with fail
        refine ⟨trivial, (callsIn_wide.2 (safe_any (w2.heap.size) (w2.heap.size) (w1.heap.size + 1 + 1) (homeS t.data ++ putS PS (logB t)) W3 hL3.1 hln (by omega))).mono ?_⟩
        rintro e W4 ⟨⟨v4, rfl⟩, k1, k3'⟩
        have k3 : Fr (w2.heap.size) (w1.heap.size + 1) (w1.heap.size + 1 + 1) W3 W4 := k3'.weak
        have hF4 := hF3.trans k3
        have hP4 := hpl2.fr k3' (by omega) (by omega)
        have hK14 := k3.box D _ hKD (fun cs fr e => by cases e) (by omega) (by omega)
        have hK24 := k3.box D2 _ hK2 (fun cs fr e => by cases e) (by omega) (by omega)
        have hlnT : (homeS t.data ++ putS PS (logB t) ++ [flushS]).length ≤ 890 := by rw [List.length_append]; show _ + 1 ≤ 890; omega
        clear k3 k3' hL3 hF3 hKD hK2 hpl2 hln x0 x1 x2 x3 x4 x5 x6 x7 x8 x9
        have hmk := (hF4.boxed bM.out (by decide) (by omega) (by omega)).cell
        have hKT := hF4.box _ _ KT.out (fun cs fr e => by simp only [Obj.cells.injEq] at e; exact absurd e.2.1 (by decide)) (by omega) (by omega)
        have hsq := (box10 hKT).1.1
        have hen := (hF4.boxed bE.out (by decide) (by omega) (by omega)).cell
        gi_wp2_with fail
        refine ⟨trivial, (callsIn_wide.2 (emark_any (w2.heap.size) (w1.heap.size + 1) (w1.heap.size + 1 + 1) (w.heap.size + 1) (w2.heap.size + 1) (homeS t.data ++ putS PS (logB t) ++ [flushS]) (PS.getD (logB t).length 0) (PS.drop ((logB t).length + 1)) ⟨4, 0, 0, [], []⟩ _ t.seq W4 ⟨none, 0, none, 0, rfl, .inl rfl, .inl rfl, Nat.zero_le _, Nat.zero_le _⟩ hsq (by have := hF4.size; have := HZ0.out; omega) hen (by have := hF4.size; have := HZ0.out; omega) k1 hP4 (by omega) (by have := HPL.out; have := HNL.out; simp; omega) (HPB.out _).1 (HPB.out _).2 (by have := hF4.size; omega) (by omega) (by omega))).mono ?_⟩
        rintro e W5 ⟨⟨v5, rfl⟩, k1, k2, k3⟩
        have hF5 := hF4.trans k3
        have hK15 := k3.box D _ hK14 (fun cs fr e => by cases e) (by omega) (by omega)
        have hK25 := k3.box D2 _ hK24 (fun cs fr e => by cases e) (by omega) (by omega)
        have hln5 : (homeS t.data ++ putS PS (logB t) ++ [flushS] ++ [writeS (1 + PS.getD (logB t).length 0) (encT ⟨4, t.seq, 0, [], []⟩)]).length ≤ 900 := by
          rw [List.length_append]; show _ + 1 ≤ 900; omega
        have HS5 := hide k1
        have HF5 := hide hF5
        have HK15 := hide hK15
        have HK25 := hide hK25
        have HLN5 := hide hln5
        clear hmk hKT hsq hen k1 k2 k3 hF5 hK15 hK25 hln5 hlnT
        gi_wp2_with fail
        refine ⟨trivial, (callsIn_wide.2 (safe_any (w2.heap.size) (w1.heap.size + 1) (w1.heap.size + 1 + 1) _ W5 HS5.out HLN5.out (by have := HF5.out.size; omega))).mono ?_⟩
        rintro e W6 ⟨⟨v6, rfl⟩, k1, k3⟩
        have HF6 := hide (HF5.out.trans k3)
        have HK16 := hide (k3.box D _ HK15.out (fun cs fr e => by cases e) (by omega) (by omega))
        have HK26 := hide (k3.box D2 _ HK25.out (fun cs fr e => by cases e) (by omega) (by omega))
        have hfin : commitS rh ru t = homeS t.data ++ putS PS (logB t) ++ [flushS] ++ [writeS (1 + PS.getD (logB t).length 0) (encT ⟨4, t.seq, 0, [], []⟩)] ++ [flushS] := by rw [HC.out, if_pos hz]; rfl
        rw [← hfin] at k1
        have HFIN := hide hfin
        obtain ⟨v6', b6, o6⟩ := k1
        have HO6 := hide o6
        obtain ⟨fa, fc, rfl, hseg, hfrom⟩ := SegSt.of_owns o6
        have HSG := hide hseg
        have HFR := hide hfrom
        have c6 := b6.cell
        have hKB := HF6.out.box _ _ KB.out (fun cs fr e => by simp only [Obj.cells.injEq] at e; exact absurd e.2.1 (by decide)) (by omega) (by omega)
        have hKZ := HF6.out.box _ _ KZ.out (fun cs fr e => by simp only [Obj.cells.injEq] at e; exact absurd e.2.1 (by decide)) (by omega) (by omega)
        obtain ⟨⟨y0, y1⟩, _⟩ := box2 hKB
        obtain ⟨⟨z0, z1⟩, zf0, zf1⟩ := box2 hKZ
        have HW6 := hide HF6.out.size
        have KZ6 := hide hKZ
        clear k3 hfin b6 o6 hseg hfrom hKB hKZ
        gi_wp2
        gi_region
        all_goals
          gi_wp2
          have hset := box2Set KZ6.out (.int .i64 sH) (.int .i64 sU)
          have q2 : ((W6.setCell ⟨w.heap.size + 1 + 1, 0, none⟩ (.int .i64 sH)).setCell ⟨w.heap.size + 1 + 1, 1, none⟩ (.int .i64 sU)).drew.heap[D2]? = some (.deferred (some [])) := (Below.heap_setCell _ _ _ _ (by simp; omega)).trans ((Below.heap_setCell _ _ _ _ (by simp; omega)).trans HK26.out)
          have q1 : (((W6.setCell ⟨w.heap.size + 1 + 1, 0, none⟩ (.int .i64 sH)).setCell ⟨w.heap.size + 1 + 1, 1, none⟩ (.int .i64 sU)).drew.putObj D2 (.deferred none)).heap[D]? = some (.deferred (some [])) := (World.putObj_heap_other (by omega)).trans ((Below.heap_setCell _ _ _ _ (by simp; omega)).trans ((Below.heap_setCell _ _ _ _ (by simp; omega)).trans HK16.out))
          have hbase6 : w1.heap.size + 1 + 1 ≤ W6.heap.size := by have := HW6.out; omega
          have hO9 := ownsRow_putObj (ownsRow_putObj (owns_keep (ownsRow_setCell_below (ownsRow_setCell_below HO6.out (a := ⟨w.heap.size + 1 + 1, 0, none⟩) (by simp; omega) (.int .i64 sH)) (a := ⟨w.heap.size + 1 + 1, 1, none⟩) (by simp; omega) (.int .i64 sU)) (Below.refl _ _).drew) (.deferred none) q2 rfl) (.deferred none) q1 rfl
          have hB9 := ((((HB0.out.trans (HF6.out.below (by omega) (by omega) (by omega))).setCell (p := ⟨w.heap.size + 1 + 1, 0, none⟩) (by simp; omega) (.int .i64 sH)).setCell (p := ⟨w.heap.size + 1 + 1, 1, none⟩) (by simp; omega) (.int .i64 sU)).drew.trans (belowK_b (w := w) (Nat.le_refl _) _ D2 _ (.deferred none) (by omega) q2 rfl rfl)).trans (belowK_b (w := w) (Nat.le_refl _) _ D _ (.deferred none) (by omega) q1 rfl rfl)
          have hZ9 : ((((W6.setCell ⟨w.heap.size + 1 + 1, 0, none⟩ (.int .i64 sH)).setCell ⟨w.heap.size + 1 + 1, 1, none⟩ (.int .i64 sU)).drew.putObj D2 (.deferred none)).putObj D (.deferred none)).heap[w.heap.size + 1 + 1]? = some (.cells #[.int .i64 sH, .int .i64 sU] 41 (0, 0)) := (World.putObj_heap_other (by omega)).trans ((World.putObj_heap_other (by omega)).trans hset)
          obtain ⟨⟨u0, u1⟩, _⟩ := box2 hZ9
          refine ⟨by simp, .inl ⟨D2, _, rfl, run_takeDeferred q2, ?_⟩⟩
          refine ⟨by simp, .inl ⟨D, _, rfl, run_takeDeferred q1, ?_⟩⟩
          refine ⟨.tuple #[.agg #[.int .i64 sH, .int .i64 sU], .slice fa (commitS rh ru t).length fc, .int .i64 0], by simp [results, Tryz.results16, go_sem, u0, u1], ?_⟩
          have hcap := own_cap hO9 rfl
          obtain ⟨fa', fc', e9, hs9, hf9⟩ := SegSt.of_owns hO9
          obtain ⟨rfl, rfl⟩ : fa = fa' ∧ fc = fc' := by simpa using e9
          exact ⟨fa, fc, by rw [HSH.out, HSU.out, HE0.out], hcap, fun b off e => by have := hf9 b off e; have := HB0.out.size; omega, hs9, hB9⟩
      · have hz' : ¬ ((0 : Int) < (t.rev.length : Int) + (t.info.length : Int)) := by omega
        have hlnT : (homeS t.data ++ putS PS (logB t)).length ≤ 890 := by have := hln20; omega
        have hmk := (hF3.boxed bM.out (by decide) (by omega) (by omega)).cell
        have hKT := hF3.box _ _ KT.out (fun cs fr e => by simp only [Obj.cells.injEq] at e; exact absurd e.2.1 (by decide)) (by omega) (by omega)
        have hsq := (box10 hKT).1.1
        have hen := (hF3.boxed bE.out (by decide) (by omega) (by omega)).cell
        gi_wp2_with fail
        refine ⟨trivial, (callsIn_wide.2 (emark_any (w2.heap.size) (w1.heap.size + 1) (w1.heap.size + 1 + 1) (w.heap.size + 1) (w2.heap.size + 1) (homeS t.data ++ putS PS (logB t)) (PS.getD (logB t).length 0) (PS.drop ((logB t).length + 1)) ⟨4, 0, 0, [], []⟩ _ t.seq W3 ⟨none, 0, none, 0, rfl, .inl rfl, .inl rfl, Nat.zero_le _, Nat.zero_le _⟩ hsq (by have := hF3.size; have := HZ0.out; omega) hen (by have := hF3.size; have := HZ0.out; omega) hL3.1 hpl2 (by omega) (by have := HPL.out; have := HNL.out; simp; omega) (HPB.out _).1 (HPB.out _).2 (by have := hF3.size; omega) (by omega) (by omega))).mono ?_⟩
        rintro e W5 ⟨⟨v5, rfl⟩, k1, k2, k3⟩
        have hF5 := hF3.trans k3
        have hK15 := k3.box D _ hKD (fun cs fr e => by cases e) (by omega) (by omega)
        have hK25 := k3.box D2 _ hK2 (fun cs fr e => by cases e) (by omega) (by omega)
        have hln5 : (homeS t.data ++ putS PS (logB t) ++ [writeS (1 + PS.getD (logB t).length 0) (encT ⟨4, t.seq, 0, [], []⟩)]).length ≤ 900 := by
          rw [List.length_append]; show _ + 1 ≤ 900; omega
        have HS5 := hide k1
        have HF5 := hide hF5
        have HK15 := hide hK15
        have HK25 := hide hK25
        have HLN5 := hide hln5
        clear hmk hKT hsq hen k1 k2 k3 hF5 hK15 hK25 hln5 hlnT
        gi_wp2_with fail
        refine ⟨trivial, (callsIn_wide.2 (safe_any (w2.heap.size) (w1.heap.size + 1) (w1.heap.size + 1 + 1) _ W5 HS5.out HLN5.out (by have := HF5.out.size; omega))).mono ?_⟩
        rintro e W6 ⟨⟨v6, rfl⟩, k1, k3⟩
        have HF6 := hide (HF5.out.trans k3)
        have HK16 := hide (k3.box D _ HK15.out (fun cs fr e => by cases e) (by omega) (by omega))
        have HK26 := hide (k3.box D2 _ HK25.out (fun cs fr e => by cases e) (by omega) (by omega))
        have hfin : commitS rh ru t = homeS t.data ++ putS PS (logB t) ++ [writeS (1 + PS.getD (logB t).length 0) (encT ⟨4, t.seq, 0, [], []⟩)] ++ [flushS] := by rw [HC.out, if_neg hz, List.append_nil]; rfl
        rw [← hfin] at k1
        have HFIN := hide hfin
        obtain ⟨v6', b6, o6⟩ := k1
        have HO6 := hide o6
        obtain ⟨fa, fc, rfl, hseg, hfrom⟩ := SegSt.of_owns o6
        have HSG := hide hseg
        have HFR := hide hfrom
        have c6 := b6.cell
        have hKB := HF6.out.box _ _ KB.out (fun cs fr e => by simp only [Obj.cells.injEq] at e; exact absurd e.2.1 (by decide)) (by omega) (by omega)
        have hKZ := HF6.out.box _ _ KZ.out (fun cs fr e => by simp only [Obj.cells.injEq] at e; exact absurd e.2.1 (by decide)) (by omega) (by omega)
        obtain ⟨⟨y0, y1⟩, _⟩ := box2 hKB
        obtain ⟨⟨z0, z1⟩, zf0, zf1⟩ := box2 hKZ
        have HW6 := hide HF6.out.size
        have KZ6 := hide hKZ
        clear k3 hfin b6 o6 hseg hfrom hKB hKZ
        gi_wp2
        gi_region
        all_goals
          gi_wp2
          have hset := box2Set KZ6.out (.int .i64 sH) (.int .i64 sU)
          have q2 : ((W6.setCell ⟨w.heap.size + 1 + 1, 0, none⟩ (.int .i64 sH)).setCell ⟨w.heap.size + 1 + 1, 1, none⟩ (.int .i64 sU)).drew.heap[D2]? = some (.deferred (some [])) := (Below.heap_setCell _ _ _ _ (by simp; omega)).trans ((Below.heap_setCell _ _ _ _ (by simp; omega)).trans HK26.out)
          have q1 : (((W6.setCell ⟨w.heap.size + 1 + 1, 0, none⟩ (.int .i64 sH)).setCell ⟨w.heap.size + 1 + 1, 1, none⟩ (.int .i64 sU)).drew.putObj D2 (.deferred none)).heap[D]? = some (.deferred (some [])) := (World.putObj_heap_other (by omega)).trans ((Below.heap_setCell _ _ _ _ (by simp; omega)).trans ((Below.heap_setCell _ _ _ _ (by simp; omega)).trans HK16.out))
          have hbase6 : w1.heap.size + 1 + 1 ≤ W6.heap.size := by have := HW6.out; omega
          have hO9 := ownsRow_putObj (ownsRow_putObj (owns_keep (ownsRow_setCell_below (ownsRow_setCell_below HO6.out (a := ⟨w.heap.size + 1 + 1, 0, none⟩) (by simp; omega) (.int .i64 sH)) (a := ⟨w.heap.size + 1 + 1, 1, none⟩) (by simp; omega) (.int .i64 sU)) (Below.refl _ _).drew) (.deferred none) q2 rfl) (.deferred none) q1 rfl
          have hB9 := ((((HB0.out.trans (HF6.out.below (by omega) (by omega) (by omega))).setCell (p := ⟨w.heap.size + 1 + 1, 0, none⟩) (by simp; omega) (.int .i64 sH)).setCell (p := ⟨w.heap.size + 1 + 1, 1, none⟩) (by simp; omega) (.int .i64 sU)).drew.trans (belowK_b (w := w) (Nat.le_refl _) _ D2 _ (.deferred none) (by omega) q2 rfl rfl)).trans (belowK_b (w := w) (Nat.le_refl _) _ D _ (.deferred none) (by omega) q1 rfl rfl)
          have hZ9 : ((((W6.setCell ⟨w.heap.size + 1 + 1, 0, none⟩ (.int .i64 sH)).setCell ⟨w.heap.size + 1 + 1, 1, none⟩ (.int .i64 sU)).drew.putObj D2 (.deferred none)).putObj D (.deferred none)).heap[w.heap.size + 1 + 1]? = some (.cells #[.int .i64 sH, .int .i64 sU] 41 (0, 0)) := (World.putObj_heap_other (by omega)).trans ((World.putObj_heap_other (by omega)).trans hset)
          obtain ⟨⟨u0, u1⟩, _⟩ := box2 hZ9
          refine ⟨by simp, .inl ⟨D2, _, rfl, run_takeDeferred q2, ?_⟩⟩
          refine ⟨by simp, .inl ⟨D, _, rfl, run_takeDeferred q1, ?_⟩⟩
          refine ⟨.tuple #[.agg #[.int .i64 sH, .int .i64 sU], .slice fa (commitS rh ru t).length fc, .int .i64 0], by simp [results, Tryz.results16, go_sem, u0, u1], ?_⟩
          have hcap := own_cap hO9 rfl
          obtain ⟨fa', fc', e9, hs9, hf9⟩ := SegSt.of_owns hO9
          obtain ⟨rfl, rfl⟩ : fa = fa' ∧ fc = fc' := by simpa using e9
          exact ⟨fa, fc, by rw [HSH.out, HSU.out, HE0.out], hcap, fun b off e => by have := hf9 b off e; have := HB0.out.size; omega, hs9, hB9⟩

end Go.Proofs.YtjnpndfpajjihabGreat

namespace Go.Proofs.YtjnpndfpajjihabGreat
open Go.RowKit

theorem commit_cap (rh ru : Int) (t : Tx) (a0 a2 a4 : Option Addr) (a1 a3 a5 : Nat) (w : World) (hT : IsTx w (.agg #[.int .i64 t.seq, .slice a0 t.info.length a1, .slice a2 t.data.length a3, .slice a4 t.rev.length a5, .bool t.h0.on, .int .i64 t.h0.left, .bool t.h1.on, .int .i64 t.h1.left, .bool t.h2.on, .int .i64 t.h2.left]) t) (hci : t.info.length ≤ a1) (hcr : t.rev.length ≤ a5) (r1 : t.info.length * 24 ≤ 140737488355328) (r2 : t.data.length * 24 ≤ 140737488355328) :
    Calls Tryz.prog 16 #[.agg #[.int .i64 rh, .int .i64 ru], .agg #[.int .i64 t.seq, .slice a0 t.info.length a1, .slice a2 t.data.length a3, .slice a4 t.rev.length a5, .bool t.h0.on, .int .i64 t.h0.left, .bool t.h1.on, .int .i64 t.h1.left, .bool t.h2.on, .int .i64 t.h2.left]] w fun e w' => ∃ a c, e = .returned (.tuple #[.agg #[.int .i64 (sealH rh ru t), .int .i64 (sealU rh ru t)], .slice a (commitS rh ru t).length c, .int .i64 (sealE rh ru t)]) ∧ (commitS rh ru t).length ≤ c ∧ SegSt w' a (commitS rh ru t) ∧ Below w.heap.size w w' := by
  by_cases he : sealE rh ru t = 0
  · exact (commit_ok rh ru t a0 a2 a4 a1 a3 a5 w hT hci hcr he).mono fun _ _ ⟨a, c, h1, hc, _, h2, h3⟩ => ⟨a, c, h1, hc, h2, h3⟩
  · exact (commit_no rh ru _ t w hT r1 r2 he).mono fun _ _ ⟨a, c, h1, h2, h3⟩ => ⟨a, c, h1, by rw [commitS, if_neg he]; exact Nat.zero_le _, h2, h3⟩
theorem commit_any (rh ru : Int) (t : Tx) (a0 a2 a4 : Option Addr) (a1 a3 a5 : Nat) (w : World) (hT : IsTx w (.agg #[.int .i64 t.seq, .slice a0 t.info.length a1, .slice a2 t.data.length a3, .slice a4 t.rev.length a5, .bool t.h0.on, .int .i64 t.h0.left, .bool t.h1.on, .int .i64 t.h1.left, .bool t.h2.on, .int .i64 t.h2.left]) t) (hci : t.info.length ≤ a1) (hcr : t.rev.length ≤ a5) (r1 : t.info.length * 24 ≤ 140737488355328) (r2 : t.data.length * 24 ≤ 140737488355328) :
    Calls Tryz.prog 16 #[.agg #[.int .i64 rh, .int .i64 ru], .agg #[.int .i64 t.seq, .slice a0 t.info.length a1, .slice a2 t.data.length a3, .slice a4 t.rev.length a5, .bool t.h0.on, .int .i64 t.h0.left, .bool t.h1.on, .int .i64 t.h1.left, .bool t.h2.on, .int .i64 t.h2.left]] w fun e w' => ∃ a c, e = .returned (.tuple #[.agg #[.int .i64 (sealH rh ru t), .int .i64 (sealU rh ru t)], .slice a (commitS rh ru t).length c, .int .i64 (sealE rh ru t)]) ∧ SegSt w' a (commitS rh ru t) ∧ Below w.heap.size w w' := by
  exact (commit_cap rh ru t a0 a2 a4 a1 a3 a5 w hT hci hcr r1 r2).mono fun _ _ ⟨a, c, h1, _, h2, h3⟩ => ⟨a, c, h1, h2, h3⟩

def tx4 : Tx := ⟨1, [], [], [4], ⟨false, 0⟩, ⟨false, 0⟩, ⟨false, 0⟩⟩
theorem seal4 : sealE 0 0 tx4 = 0 ∧ sealH 0 0 tx4 = 2 ∧ sealU 0 0 tx4 = 2 := by decide +kernel
theorem commit4 : ∃ s1 s2, commitS 0 0 tx4 = [s1, flushS, s2, flushS] := by
  have hp : sealP 0 0 tx4 = [0, 1] := by decide +kernel
  refine ⟨writeS (1 + 0) (encT ⟨3, 1, 0, [], [4]⟩), writeS (1 + 1) (lastB tx4), ?_⟩
  rw [commitS, if_pos seal4.1, hp]
  rfl


set_option maxHeartbeats 2000000 in
set_option maxRecDepth 100000 in
theorem sealsL_any (w : World) :
    Calls Tryz.prog 19 #[] w fun e w' => e = .returned (.bool true) ∧ Below w.heap.size w w' := by
  obtain ⟨s1, s2, h4⟩ := commit4
  go_enter Tryz.func19, Tryz.ntmps19
  go_wp2_with fail
  refine (commit_any 0 0 tx4 none none (some ⟨w.heap.size, 0, none⟩) 0 0 1 _ ⟨none, 0, none, 0, _, _, rfl, .inl rfl, .inl rfl, .inr ⟨w.heap.size, 0, rfl, by simp, fun i hi => ?_⟩, Nat.zero_le _, Nat.zero_le _, by decide⟩ (by decide) (by decide) (by decide) (by decide)).mono ?_
  · have : i = 0 := by simpa [tx4] using hi
    subst this
    simp [go_sem, tx4]
  rintro e w1 ⟨a, c, rfl, hS, hb1⟩
  rw [h4] at hS
  rw [h4, seal4.1, seal4.2.1, seal4.2.2]
  have HB := hide (bthen (below1 _ _) hb1)
  obtain ⟨b, off, rfl, hlt, hc⟩ := hS.resolve_left (by simp)
  have h3 := (hc 3 (by simp)).1
  have h3' : w1.cell? ⟨b, off + 9, none⟩ = some (.int .i64 2) := h3
  clear hc h3 hS hb1
  go_wp2
  go_ret
  exact ⟨rfl, bthen HB.out (below1 _ _)⟩

end Go.Proofs.YtjnpndfpajjihabGreat
