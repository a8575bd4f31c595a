/-
  The walk of the document's own ScanLog.
  What Scan and the document's ScanLog find, as one.
-/
import Derived.Test.YtjnpndfpajjihabXScans
import Derived.Test.YtjnpndfpajjihabXAt
import Derived.Test.YtjnpndfpajjihabRefRd
import Derived.Deep.RegionHeld3
namespace Go.Proofs.Ytjnpndfpajjihab
open Go.RowKit

theorem SegS.drop {w : World} {b off : Nat} {l : List ByteArray} (h : SegS w (some ⟨b, off, none⟩) l) (p : Nat) : SegS w (some ⟨b, off + p, none⟩) (l.drop p) := by
  rcases h with rfl | ⟨b', o', e, hlt, hc⟩
  · exact .inl (by simp)
  · cases e
    by_cases hp : p < l.length
    · refine .inr ⟨b, off + p, rfl, hlt, fun i hi => ?_⟩
      have := hc (p + i) (by rw [List.length_drop] at hi; omega)
      rw [dropD_getD, Nat.add_assoc]
      exact this
    · exact .inl (List.drop_eq_nil_iff.2 (by omega))
theorem txnAt_n (la : Option Addr) (n lc : Nat) (L : List ByteArray) (seq : Int) (w : World) (hn : n = L.length) (hS : SegS w la L) (hL : L.length ≤ 24) (hz : ∀ i, (L.getD i ByteArray.empty).size ≤ maxLen) :
    Calls Try.prog 99 #[.slice la n lc, .int .i64 seq] w fun e w' => AtEnd w w' L seq e := by
  subst hn
  exact txnAt_any la lc L seq w hS hL hz
theorem segs_if {w : World} {g pos lc : Nat} {l : List ByteArray} (h : SegS w (some ⟨g, 0, none⟩) l) (hc : l.length ≤ lc) : SegS w (if lc = pos then some ⟨g, 0, none⟩ else some ⟨g, pos, none⟩) (l.drop pos) := by
  by_cases e : lc = pos
  · exact .inl (List.drop_eq_nil_iff.2 (by omega))
  · rw [if_neg e]
    have := SegS.drop h pos
    rwa [Nat.zero_add] at this
theorem log_sizes {d : Dk} (hg : goodB d = true) (a : Int) (pos i : Nat) : (((logOf d a).drop pos).getD i ByteArray.empty).size ≤ maxLen := by
  rw [dropD_getD]
  by_cases h : pos + i < 24
  · rw [logOf_at d a _ h]
    have := read_size hg (1 + (a + ((pos + i : Nat) : Int)) % 24)
    unfold maxLen; omega
  · rw [List.getD, List.getElem?_eq_none (by rw [logOf_length]; omega)]
    unfold maxLen
    show (0 : Nat) ≤ _
    omega
theorem owns_set10 {w : World} {base : Nat} {e : TypeId} {size : Nat} {v : Value} {n : Nat} {xs : List Value} {B : Nat} {v0 v1 v2 v3 v4 v5 v6 v7 v8 v9 : Value} (h : w.ownsRow base e size v n xs) (hb : ∀ k, v.ownBlock = some k → k ≠ B) : (((((((((((w.setCell ⟨B, 0, none⟩ v0).setCell ⟨B, 1, none⟩ v1).setCell ⟨B, 2, none⟩ v2).setCell ⟨B, 3, none⟩ v3).setCell ⟨B, 4, none⟩ v4).setCell ⟨B, 5, none⟩ v5).setCell ⟨B, 6, none⟩ v6).setCell ⟨B, 7, none⟩ v7).setCell ⟨B, 8, none⟩ v8).setCell ⟨B, 9, none⟩ v9)).ownsRow base e size v n xs := by
  repeat refine owns_setNe ?_ (fun k e => by simpa using hb k e) _
  exact h
theorem OwnR.set10 {w : World} {base B : Nat} {x : RX} {v0 v1 v2 v3 v4 v5 v6 v7 v8 v9 : Value} (h : OwnR w base x) (hB : B < base) : OwnR (((((((((((w.setCell ⟨B, 0, none⟩ v0).setCell ⟨B, 1, none⟩ v1).setCell ⟨B, 2, none⟩ v2).setCell ⟨B, 3, none⟩ v3).setCell ⟨B, 4, none⟩ v4).setCell ⟨B, 5, none⟩ v5).setCell ⟨B, 6, none⟩ v6).setCell ⟨B, 7, none⟩ v7).setCell ⟨B, 8, none⟩ v8).setCell ⟨B, 9, none⟩ v9)) base x :=
  ⟨owns_set10 h.1 (h.ne hB).1, owns_set10 h.2.1 (h.ne hB).2.1, owns_set10 h.2.2 (h.ne hB).2.2⟩
theorem AtPost.form {w w' : World} {L : List ByteArray} {seq : Int} {v : Value} {b : Int} (h : AtPost w w' L seq v b) : ∃ s ma mn mc ra rn rc, v = .agg #[.int .i64 s, .slice ma mn mc, .slice none 0 0, .slice ra rn rc, .bool false, .int .i64 0, .bool false, .int .i64 0, .bool false, .int .i64 0] := by
  unfold AtPost at h
  split at h
  · exact ⟨_, _, _, _, _, _, _, h.2⟩
  · rename_i n t _
    obtain ⟨_, m, r, e, hO, _⟩ := h
    obtain ⟨ma, mc, _, _, ra, rc, e1, _, e3, _⟩ := hO.tx
    simp only at e1 e3
    subst e1 e3
    exact ⟨_, _, _, _, _, _, _, e⟩
theorem AtPost.ofNone {w w' : World} {L : List ByteArray} {seq : Int} {s : Int} {ma : Option Addr} {mn mc : Nat} {ra : Option Addr} {rn rc : Nat} {b : Int} (h : AtPost w w' L seq (.agg #[.int .i64 s, .slice ma mn mc, .slice none 0 0, .slice ra rn rc, .bool false, .int .i64 0, .bool false, .int .i64 0, .bool false, .int .i64 0]) b) (hr : runT L seq 0 (txOf seq) = Option.none) : b = 0 := by
  rw [AtPost, hr] at h
  exact h.1
theorem AtPost.ofSome {w w' : World} {L : List ByteArray} {seq : Int} {s : Int} {ma : Option Addr} {mn mc : Nat} {ra : Option Addr} {rn rc : Nat} {b : Int} {n : Nat} {t : Tx} (h : AtPost w w' L seq (.agg #[.int .i64 s, .slice ma mn mc, .slice none 0 0, .slice ra rn rc, .bool false, .int .i64 0, .bool false, .int .i64 0, .bool false, .int .i64 0]) b) (hr : runT L seq 0 (txOf seq) = Option.some (n, t)) :
    b = (n : Int) ∧ s = seq ∧ OwnR w' w.heap.size ⟨.slice ma mn mc, .slice Option.none 0 0, .slice ra rn rc, t⟩ ∧ t = txW seq t.info t.rev ∧ mn = t.info.length ∧ rn = t.rev.length := by
  rw [AtPost, hr] at h
  obtain ⟨hb, m, r, e, hO, ht⟩ := h
  simp only [Value.agg.injEq, Array.mk.injEq, List.cons.injEq, Value.int.injEq, true_and, and_true] at e
  obtain ⟨rfl, rfl, rfl⟩ := e
  obtain ⟨ma', mc', _, _, ra', rc', e1, _, e3, _⟩ := hO.tx
  simp only at e1 e3
  cases e1
  cases e3
  exact ⟨hb, rfl, hO, ht, rfl, rfl⟩
theorem logOf_take (d : Dk) (a : Int) (k : Nat) (h : k < 24) : (logOf d a).take (k + 1) = (logOf d a).take k ++ [readT d (1 + (a + (k : Int)) % 24)] := by
  have h1 : (logOf d a)[k]? = some (readT d (1 + (a + (k : Int)) % 24)) := by rw [logOf, List.getElem?_map, List.getElem?_range h]; rfl
  rw [List.take_add_one, h1]
  rfl

theorem scan_good {d : Dk} (h : scanE d = 0) : goodB d = true ∧ (1 ≤ (superM d).seq ∧ (superM d).seq ≤ 2147483647) ∧ 0 ≤ (superM d).pos ∧ (superM d).pos ≤ 23 := by
  unfold scanE at h
  split at h
  · rename_i h1; exact absurd h h1
  · rename_i h1
    split at h
    · cases h
    · rename_i h2
      have h3 : (stampDec (readT d 0)).2 = 0 := by
        by_cases hx : (stampDec (readT d 0)).2 = 0
        · exact hx
        · exact absurd (.inl hx) h2
      have h4 := dec_good h3
      have h5 : readE d 0 = 0 := by
        by_cases hx : readE d 0 = 0
        · exact hx
        · exact absurd hx h1
      refine ⟨?_, ?_⟩
      · unfold readE at h5
        split at h5
        · rename_i hx; exact (Bool.and_eq_true_iff.1 hx).1
        · cases h5
      · unfold goodM at h4
        split at h4
        · cases h4
        · split at h4
          · cases h4
          · rename_i hx
            show (1 ≤ (stampDec (readT d 0)).1.seq ∧ _) ∧ _
            unfold superM
            omega

set_option maxHeartbeats 8000000 in
set_option maxRecDepth 100000 in
theorem scanLog_any (a : Option Addr) (c : Nat) (a' : Option Addr) (c' : Nat) (d : Dk) (w : World) (hD : IsDk w (.agg #[.slice a d.safe.length c, .slice a' d.wr.length c']) d) :
    Calls Try.prog 42 #[.agg #[.slice a d.safe.length c, .slice a' d.wr.length c']] w fun e w' => ScPost w w' d e := by
  have HD := hide hD
  clear hD
  obtain ⟨i0, hi, hz0, hz1, hz2⟩ := info_parts infoS
  go_enter Try.func42, Try.ntmps42
  go_wp2_with fail
  refine (readDisk_any _ d 0 _ (HD.out.below (bthen (below1 _ _) (below1 _ _)))).mono ?_
  rintro e w1 ⟨rfl, hb1⟩
  have K0 := hide (two1 hb1)
  have KB1 := hide (two2 hb1)
  have hs1 : w.heap.size + 1 < w1.heap.size := by have := hb1.size; simp at this; omega
  have HB1 := hide (bthen (bthen (below1 _ _) (below1 _ _)) hb1)
  clear hb1
  by_cases hE : readE d 0 = 0
  · rw [hE]
    have HE0 := hide hE
    clear hE
    go_wp2_with fail
    refine (decodeMark_any (readT d 0) _).mono ?_
    rintro e w2 ⟨v2, rfl, hN, hb2⟩
    obtain ⟨a2, c2, a3, c3, rfl, _, _, _, _⟩ := hN
    obtain ⟨M, hM⟩ : ∃ M, M = stampDec (readT d 0) := ⟨_, rfl⟩
    rw [← hM]
    obtain ⟨mk, er⟩ := M
    have HSE : Hid (scanE d = if er ≠ 0 ∨ mk.kind ≠ 1 then 1 else 0) := by rw [Hid, scanE, superM, ← hM, HE0.out]; simp
    have HSU : Hid (superM d = mk) := by rw [Hid, superM, ← hM]
    clear hM
    have hs2 : w.heap.size + 1 < w2.heap.size := Nat.lt_of_lt_of_le hs1 hb2.size
    have KB2 := hide (boxKeep hb2 hs1 KB1.out)
    have K02 := hide (boxKeep hb2 (show w.heap.size < w1.heap.size by omega) K0.out)
    have HB2 := hide (bthen HB1.out hb2)
    clear hb2 KB1 HB1 K0
    dsimp only
    by_cases hok : er = 0 ∧ mk.kind = 1
    · obtain ⟨rfl, hk⟩ := hok
      have HS0 : Hid (scanE d = 0) := by rw [Hid, HSE.out, if_neg (by simp [hk])]
      have hgd : goodB d = true ∧ (1 ≤ mk.seq ∧ mk.seq ≤ 2147483647) ∧ 0 ≤ mk.pos ∧ mk.pos ≤ 23 := by
        have h := HSU.out
        rw [← h]
        exact scan_good HS0.out
      obtain ⟨hg, ⟨hq0, hq1⟩, hp0, hp1⟩ := hgd
      have HG := hide hg
      have HL : Hid (scanL d = scanP (logOf d mk.pos) 0 mk.seq []) := by rw [Hid, scanL, HSU.out]
      obtain ⟨p0, hp⟩ : ∃ p0 : Nat, mk.pos = (p0 : Int) := ⟨mk.pos.toNat, by omega⟩
      have HPOS : Hid ((superM d).pos.toNat = p0) := by rw [Hid, HSU.out, hp]; rfl
      have HSQ : Hid ((superM d).seq = mk.seq) := by rw [Hid, HSU.out]
      rw [hp] at HL ⊢
      rw [hk]
      have hp24 : p0 < 24 := by omega
      obtain ⟨q0, hq⟩ : ∃ q0, q0 = mk.seq := ⟨_, rfl⟩
      rw [← hq] at HL HSQ hq0 hq1 ⊢
      clear HSE HSU hp0 hp1 hp hq hk hg
      generalize mk.tags.length = n2 at *
      generalize mk.blocks.length = n3 at *
      go_wp2
      obtain ⟨W2, hW2⟩ : ∃ W2, W2 = w2.alloc (.cells #[.int .i64 1, .int .i64 q0, .int .i64 (p0 : Int), .slice a2 n2 c2, .slice a3 n3 c3] 130) := ⟨_, rfl⟩
      have hb2 : Below w2.heap.size w2 W2 := by rw [hW2]; exact below1 _ _
      have KM2 : Hid (W2.heap[w2.heap.size]? = some (.cells #[.int .i64 1, .int .i64 q0, .int .i64 (p0 : Int), .slice a2 n2 c2, .slice a3 n3 c3] 130 (0, 0))) := by rw [hW2]; exact heap_alloc_new _ _
      have hsW2 : w2.heap.size + 1 = W2.heap.size := by rw [hW2]; simp
      have KB3 := hide (boxKeep hb2 hs2 KB2.out)
      have K03 := hide (boxKeep hb2 (show w.heap.size < w2.heap.size by omega) K02.out)
      have HB3 := hide (bthen HB2.out hb2)
      rw [← hW2]
      clear hW2 hb2 KB2 K02 HB2
      go_loopw [7, 37] (fun lv iv wr => ∃ k : Nat, k ≤ 24 ∧ iv = .int .i64 (k : Int) ∧ Hid (wr.ownsRow W2.heap.size 9 1 lv k (cellsS ((logOf d p0).take k))) ∧ Hid (Below W2.heap.size W2 wr)) (fun _ iv _ => 24 - (intOf iv).toNat)
      case atStart => exact ⟨0, Nat.zero_le _, rfl, World.ownsRow_nil _ _ _ _, Below.refl _ _⟩
      case round =>
        obtain ⟨k, hk, rfl, HO, HB⟩ := hrel
        by_cases hlt : k < 24
        · have hlt' : (k : Int) < 24 := by omega
          obtain ⟨⟨x0, x1⟩, xf⟩ := box2 (boxKeep HB.out (show w.heap.size < W2.heap.size by omega) K03.out)
          obtain ⟨⟨y0, y1, y2, y3, y4⟩, _⟩ := box5 (boxKeep HB.out (show w2.heap.size < W2.heap.size by omega) KM2.out)
          go_wp2_with fail
          refine (readDisk_any _ d _ _ (HD.out.below (bthen HB3.out HB.out))).mono ?_
          rintro e w4 ⟨rfl, hb4⟩
          obtain ⟨s, hs⟩ : ∃ s, s = readT d (1 + ((p0 : Int) + (k : Int)) % 24) := ⟨_, rfl⟩
          have HSN : Hid ((logOf d p0).take (k + 1) = (logOf d p0).take k ++ [s]) := by rw [Hid, hs]; exact logOf_take d p0 k hlt
          rw [← hs]
          clear hs
          have hO4 := hide (owns_keep HO.out hb4)
          have hB4 := hide (bthen HB.out hb4)
          generalize readE d (1 + ((p0 : Int) + (k : Int)) % 24) = E4
          clear hb4 HO x0 x1 xf y0 y1 y2 y3 y4
          go_wp2_with (at_builtin; refine wpList_append_own _ rfl _ _ 66 rfl W2.heap.size 9 i0 (.string ⟨#[]⟩) 1 16 Try.underlying66 hi hz0 hz1 hz2 rfl (by decide) _ _ _ rfl (hO4.out.alloc _) ⟨w4.heap.size, 0, none⟩ 1 1 (cellsS [s]) rfl ?qc1 ?qc2 ?qc3 ?qc4 ?qc5 ?qc6 ?_)
          case qc1 => rfl
          case qc2 =>
            intro j u hj
            match j, hj with
            | 0, hj => simp [cellsS] at hj; subst hj; simp [go_sem]
          case qc3 => exact cellsS_one
          case qc4 => unfold maxLen; omega
          case qc5 => omega
          case qc6 => have := hB4.out.size; simp; omega
          intro v5 w5 hown5 hgrow5 _
          have HB5 : Hid (Below W2.heap.size W2 w5) := (hB4.out.alloc hB4.out.size _).grown hgrow5 (by have := hB4.out.size; simp; omega) (fun k hk => (hO4.out.lt k hk).1)
          rw [← cellsS_append, ← HSN.out] at hown5
          have HO5 := hide hown5
          clear hown5 hgrow5 hB4 hO4
          go_wp2
          go_roundw
          case rel => exact ⟨k + 1, by omega, by go_num, HO5, HB5⟩
          case measure => simp [intOf]; omega
        · have hk24 : k = 24 := by omega
          subst hk24
          have hO := HO.out
          rw [List.take_of_length_le (by rw [logOf_length]; omega)] at hO
          obtain ⟨g, lc, hv⟩ : ∃ g lc, u7 = .slice (some ⟨g, 0, none⟩) 24 lc := by
            rcases hO.2 with ⟨_, h0⟩ | ⟨g, cap, cur, e, _⟩
            · cases h0
            · exact ⟨g, cap, e⟩
          subst hv
          have hcap : 24 ≤ lc := by
            rcases hO.2 with ⟨_, h0⟩ | ⟨g, cap, cur, e, _, _, h2, _⟩
            · cases h0
            · cases e; exact h2
          obtain ⟨a9, c9, hv9, hLS, _⟩ := SegS.of_owns hO
          cases hv9
          have HLS := hide hLS
          obtain ⟨⟨y0, y1, y2, y3, y4⟩, _⟩ := box5 (boxKeep HB.out (show w2.heap.size < W2.heap.size by omega) KM2.out)
          have KB4 := hide (boxKeep HB.out (show w.heap.size + 1 < W2.heap.size by omega) KB3.out)
          have KM4 := hide (boxKeep HB.out (show w2.heap.size < W2.heap.size by omega) KM2.out)
          have HB4 := hide (bthen HB3.out HB.out)
          have hz3 : w2.heap.size < wr.heap.size := by have := HB.out.size; omega
          clear hO HO HB KB3 K03 HB3 KM2 hLS
          have hz3a := hz3
          go_wp2
          obtain ⟨w3, hw3⟩ : ∃ w3, w3 = wr := ⟨_, rfl⟩
          subst hw3
          clear y0 y1 y2 y3 y4
          have hm0 : (p0 + 0) % 24 = p0 := by omega
          have KF0 : Hid ((w3.alloc (.cells #[.slice none 0 0, .int .i64 q0, .int .i64 (p0 : Int)] 72)).heap[w3.heap.size]? = some (.cells #[.slice none 0 0, .int .i64 q0, .int .i64 (p0 : Int)] 72 (0, 0))) := heap_alloc_new _ _
          have HLP0 : Hid (scanP (logOf d p0) 0 (q0 + (([] : List RX).length : Int)) (([] : List RX).map (·.t)) = scanL d) := by rw [Hid, HL.out]; simp
          go_loopw [12] (fun av wr => ∃ (pos : Nat) (sq : Int) (q : List RX) (va : Option Addr) (vc : Nat), av = .int .i64 (pos : Int) ∧ pos ≤ 24 ∧ sq = q0 + (q.length : Int) ∧ q.length ≤ pos ∧ Hid (scanP (logOf d p0) pos sq (q.map (·.t)) = scanL d) ∧ Hid (Below w3.heap.size w3 wr) ∧ w3.heap.size < wr.heap.size ∧
              Hid (wr.heap[w3.heap.size]? = some (.cells #[.slice va q.length vc, .int .i64 sq, .int .i64 (((p0 + pos) % 24 : Nat) : Int)] 72 (0, 0))) ∧ Hid (wr.ownsRow (w3.heap.size + 1) 40 10 (.slice va q.length vc) q.length (cellsX q)) ∧ Hid (∀ x ∈ q, OwnR wr (w3.heap.size + 1) x))
            (fun av _ => 24 - (intOf av).toNat)
          case atStart => exact ⟨0, q0 + (([] : List RX).length : Int), [], none, 0, rfl, Nat.zero_le _, rfl, Nat.zero_le _, HLP0, below1 _ _, by simp, by rw [hm0]; simpa using KF0, World.ownsRow_nil _ _ _ _, fun x hx => (by cases hx)⟩
          case round =>
            clear KF0 HLP0 HL
            obtain ⟨pos, sq, q, va, vc, rfl, hpos, hsq, hql, HLP, HB, hsz, KF, HO, HX⟩ := hrel
            have HQS := hide hsq
            clear hsq
            have KB := hide (boxKeep HB.out (show w.heap.size + 1 < w3.heap.size by omega) KB4.out)
            by_cases hlt : sq < 2147483647
            · have hpos' : (pos : Int) ≤ 24 := by omega
              have hposc : (pos : Int) ≤ (lc : Int) := by omega
              have hpos0 : (0 : Int) ≤ (pos : Int) := by omega
              obtain ⟨⟨x0, x1, x2⟩, xf⟩ := box3 KF.out
              have HALL : Hid (∀ w', Below wr.heap.size wr w' → Hid (Below wr.heap.size wr w') ∧ w'.cell? ⟨w3.heap.size, 1, none⟩ = some (.int .i64 sq)) := fun w' hb => ⟨hb, cellKeep hb hsz x1⟩
              obtain ⟨la, HLA⟩ : ∃ la : Option Addr, Hid (la = if lc = pos then some ⟨g, 0, none⟩ else some ⟨g, pos, none⟩) := ⟨_, rfl⟩
              go_wp2
              refine wp_region_held_drew (S := (fun w' => w'.cell? ⟨w3.heap.size, 1, none⟩ = some (.int .i64 sq))) (by kernel_rfl) (HALL.out _ ((Below.refl _ _).drew)).2 (fun hHeld => ?_)
              refine held_take 0 _ 65 (.slice (some ⟨g, 0, none⟩) 24 lc) (by kernel_rfl) (by kernel_rfl) (by kernel_rfl) rfl rfl rfl ?_ (fun _ _ _ h => h) (by assumption) ?_
              · intro w hSw
                go_simp
              refine held_take 1 _ 66 (.int .i64 (pos : Int)) (by kernel_rfl) (by kernel_rfl) (by kernel_rfl) rfl rfl rfl ?_ (fun _ _ _ h => h) (by assumption) ?_
              · intro w hSw
                go_simp
              refine held_take 2 _ 67 (.slice la (24 - pos) (lc - pos)) (by kernel_rfl) (by kernel_rfl) (by kernel_rfl) rfl rfl rfl ?_ (fun _ _ _ h => h) (by assumption) ?_
              · intro w hSw
                rw [HLA.out]
                go_simp
              refine held_take 3 _ 68 (.pointer (some ⟨w3.heap.size, 1, none⟩)) (by kernel_rfl) (by kernel_rfl) (by kernel_rfl) rfl rfl rfl ?_ (fun _ _ _ h => h) (by assumption) ?_
              · intro w hSw
                go_simp
              refine held_take 4 _ 69 (.int .i64 sq) (by kernel_rfl) (by kernel_rfl) (by kernel_rfl) rfl rfl rfl ?_ (fun _ _ _ h => h) (by assumption) ?_
              · intro w hSw
                go_simp
              refine wpAnyH_ready (rs := [5, 9]) (by kernel_rfl) (by simp) ?_
              refine AllReadyH.cons rfl (fun K hK => ?_) (AllReadyH.cons rfl (fun K hK => ?_) AllReadyH.nil)
              · have HNOW : Hid (Below wr.heap.size wr wr.drew) := (Below.refl _ _).drew
                go_simp
                refine (txnAt_n _ _ _ ((logOf d p0).drop pos) sq _ (by rw [List.length_drop, logOf_length]) (by rw [HLA.out]; exact segs_if ((HLS.out.below HB.out).below HNOW.out) (by rw [logOf_length]; exact hcap)) (by rw [List.length_drop, logOf_length]; omega) (log_sizes HG.out p0 pos)).mono ?_
                rintro e w10 ⟨v, b, rfl, hb10, hT⟩
                obtain ⟨s, ma, mn, mc, ra, rn, rc, rfl⟩ := hT.form
                have HT := hide hT
                have HB10 := hide hb10
                have hbN := bthen HNOW.out hb10
                have hsw := hbN.size
                clear hT hb10
                dsimp only
                refine hK.out _ _ (HALL.out _ hbN).2 (fun hHeld2 => ?_)
                clear hK K
                refine held_take 6 _ 64 (.tuple #[.agg #[.int .i64 s, .slice ma mn mc, .slice none 0 0, .slice ra rn rc, .bool false, .int .i64 0, .bool false, .int .i64 0, .bool false, .int .i64 0], .int .i64 b]) (by kernel_rfl) (by kernel_rfl) (by kernel_rfl) rfl rfl rfl ?_ (fun _ _ _ h => h) (by assumption) ?_
                · intro w hSw
                  go_simp
                refine held_take 7 _ 71 (.agg #[.int .i64 s, .slice ma mn mc, .slice none 0 0, .slice ra rn rc, .bool false, .int .i64 0, .bool false, .int .i64 0, .bool false, .int .i64 0]) (by kernel_rfl) (by kernel_rfl) (by kernel_rfl) rfl rfl rfl ?_ (fun _ _ _ h => h) (by assumption) ?_
                · intro w hSw
                  go_simp
                refine held_take 8 _ 72 (.int .i64 b) (by kernel_rfl) (by kernel_rfl) (by kernel_rfl) rfl rfl rfl ?_ (fun _ _ _ h => h) (by assumption) ?_
                · intro w hSw
                  go_simp
                refine wpAnyH_ready (rs := [9]) (by kernel_rfl) (by simp) ?_
                refine AllReadyH.cons rfl (fun K hK => ?_) AllReadyH.nil
                go_simp
                refine hK.out _ _ (HALL.out _ (hbN.alloc hsw _)).2 (fun hHeld3 => ?_)
                clear hK K
                refine wpAnyH_ready (rs := [10]) (by kernel_rfl) (by simp) ?_
                refine AllReadyH.cons rfl (fun K hK => ?_) AllReadyH.nil
                go_simp
                refine hK.out _ _ (HALL.out _ (hbN.alloc hsw _)).2 (fun hHeld4 => ?_)
                clear hK K
                refine held_take 11 _ 14 (.int .i64 b) (by kernel_rfl) (by kernel_rfl) (by kernel_rfl) rfl rfl rfl ?_ (fun _ _ _ h => h) (by assumption) ?_
                · intro w hSw
                  go_simp
                refine wpAnyH_done (by kernel_rfl) ?_ _
                obtain ⟨W, hW⟩ : ∃ W, W = w10.alloc (.cells #[.int .i64 s, .slice ma mn mc, .slice none 0 0, .slice ra rn rc, .bool false, .int .i64 0, .bool false, .int .i64 0, .bool false, .int .i64 0] 40) := ⟨_, rfl⟩
                have hbW : Below wr.heap.size wr W := by rw [hW]; exact hbN.alloc hsw _
                have KT : Hid (W.heap[w10.heap.size]? = some (.cells #[.int .i64 s, .slice ma mn mc, .slice none 0 0, .slice ra rn rc, .bool false, .int .i64 0, .bool false, .int .i64 0, .bool false, .int .i64 0] 40 (0, 0))) := by rw [hW]; exact heap_alloc_new _ _
                have HOW : Hid (∀ t, OwnR w10 wr.drew.heap.size ⟨.slice ma mn mc, .slice none 0 0, .slice ra rn rc, t⟩ → OwnR W (w3.heap.size + 1) ⟨.slice ma mn mc, .slice none 0 0, .slice ra rn rc, t⟩) := by
                  intro t h
                  rw [hW]
                  exact (h.below (below1 _ _)).base (by simp; omega)
                rw [← hW]
                obtain ⟨T, hTe⟩ : ∃ T, T = w10.heap.size := ⟨_, rfl⟩
                rw [← hTe] at KT ⊢
                have hTW : T < W.heap.size := (Array.getElem?_eq_some_iff.1 KT.out).1
                have hTw : wr.heap.size ≤ T := by rw [hTe]; omega
                clear hW hTe
                clear HB10 hbN HNOW hHeld hHeld2 hHeld3 hHeld4
                have hs2 := hbW.size
                have KB3 := hide (boxKeep hbW (show w.heap.size + 1 < wr.heap.size by omega) KB.out)
                have KF3 := hide (boxKeep hbW hsz KF.out)
                have HO3 := hide (owns_keep HO.out hbW)
                have HX3 : Hid (∀ x ∈ q, OwnR W (w3.heap.size + 1) x) := fun x hx => (HX.out x hx).below hbW
                have HB2 := hide (bthen HB.out hbW)
                have hz2 : w.heap.size + 1 < W.heap.size := by omega
                have hz3 : w3.heap.size < W.heap.size := by omega
                have hT3 : w3.heap.size < T := by omega
                clear hbW HALL x0 x1 x2 xf KB KF HO HX HB hsw hTw hs2
                cases hrun : runT (logOf d p0) sq pos (txOf sq) with
                | none =>
                  have hr2 : runT ((logOf d p0).drop pos) sq 0 (txOf sq) = none := by rw [runT_drop (logOf d p0) sq pos (by rw [logOf_length]; exact hpos) 24 0 (txOf sq) (by rw [logOf_length]; omega), Nat.add_zero, hrun]; rfl
                  obtain rfl := HT.out.ofNone hr2
                  have HEND : Hid (scanL d = (q.map (·.t), pos)) := by rw [Hid, ← HLP.out, scanP, dif_pos hlt, hrun]
                  clear hrun hr2 HLP HT HOW KT hT3
                  obtain ⟨m3, hm3⟩ : ∃ m3 : Nat, m3 = (p0 + pos) % 24 := ⟨_, rfl⟩
                  rw [← hm3] at KF3
                  have HM3 := hide hm3
                  clear hm3
                  obtain ⟨⟨z0, z1, z2⟩, zf⟩ := box3 KB3.out
                  obtain ⟨⟨x0, x1, x2⟩, xf⟩ := box3 KF3.out
                  go_wp2
                  clear x0 x1 x2 xf
                  obtain ⟨V9, hV9⟩ : ∃ V9, V9 = (((W.setCell ⟨w.heap.size + 1, 0, none⟩ (.slice va q.length vc)).setCell ⟨w.heap.size + 1, 1, none⟩ (.int .i64 sq)).setCell ⟨w.heap.size + 1, 2, none⟩ (.int .i64 (m3 : Int))) := ⟨_, rfl⟩
                  have hbx := stored3 KB3.out (.slice va q.length vc) (.int .i64 sq) (.int .i64 (m3 : Int))
                  rw [← hV9] at hbx
                  obtain ⟨⟨y0, y1, y2⟩, _⟩ := box3 hbx
                  have HV9 := hide hV9
                  rw [← hV9]
                  clear hV9 hbx z0 z1 z2 zf
                  refine bodyPost_ret (v := .tuple #[.agg #[.slice va q.length vc, .int .i64 sq, .int .i64 (m3 : Int)], .int .i64 0]) (by simp [results, Try.results42, go_sem, y0, y1, y2]) rfl ?_
                  rw [ScPost, HS0.out]
                  refine ⟨_, rfl, ?_, fun h => absurd rfl h, fun _ => ⟨q, va, vc, ?_, ?_, ?_, ?_⟩⟩
                  · rw [HV9.out]
                    exact (((bthen HB4.out HB2.out).setCell (p := ⟨w.heap.size + 1, 0, none⟩) (by simp) _).setCell (p := ⟨w.heap.size + 1, 1, none⟩) (by simp) _).setCell (p := ⟨w.heap.size + 1, 2, none⟩) (by simp) _
                  · rw [HPOS.out, HEND.out, HSQ.out, ← HQS.out, HM3.out]
                  · rw [HEND.out]
                  · rw [HV9.out]
                    refine owns_base (owns_set3 (HO3.out) ?_) (show w.heap.size ≤ w3.heap.size + 1 by omega)
                    intro k hk
                    have := (HO3.out.lt k hk).1
                    omega
                  · intro x hx
                    rw [HV9.out]
                    exact OwnR.base (OwnR.set3 (HX3.out x hx) (by omega)) (by omega)
                | some nt =>
                  obtain ⟨n, t⟩ := nt
                  have hr2 : runT ((logOf d p0).drop pos) sq 0 (txOf sq) = some (n - pos, t) := by rw [runT_drop (logOf d p0) sq pos (by rw [logOf_length]; exact hpos) 24 0 (txOf sq) (by rw [logOf_length]; omega), Nat.add_zero, hrun]; rfl
                  have hn := runT_bound (logOf d p0) sq 24 pos (txOf sq) n t (by rw [logOf_length]; omega) hrun
                  rw [logOf_length] at hn
                  have HLP2 : Hid (scanP (logOf d p0) n (sq + 1) (q.map (·.t) ++ [t]) = scanL d) := by rw [Hid, ← HLP.out, scanP.eq_def (logOf d p0) pos, dif_pos hlt, hrun]
                  obtain ⟨hbv, hsv, hOt, ht, hmn, hrn⟩ := HT.out.ofSome hr2
                  subst hsv
                  have HOT := hide (HOW.out t hOt)
                  clear hrun hr2 HLP HT HOW hOt
                  obtain ⟨ti, tv, ht2⟩ : ∃ ti tv, t = txW s ti tv := ⟨_, _, ht⟩
                  subst ht2
                  subst hmn hrn
                  obtain ⟨n', hn'⟩ : ∃ n', n' = n - pos := ⟨_, rfl⟩
                  rw [← hn'] at hbv
                  subst hbv
                  have HNN : Hid (pos + n' = n) := by rw [Hid]; omega
                  have hn24 : pos + n' ≤ 24 := by omega
                  have hnb : ((n' : Int) == 0) = false := by have : ¬ ((n' : Int) = 0) := by omega
                                                             simpa using this
                  clear hn' ht
                  have hql2 : q.length ≤ 24 := by omega
                  obtain ⟨⟨x0, x1, x2⟩, xf⟩ := box3 KF3.out
                  obtain ⟨⟨t0, t1, t2, t3, t4, t5, t6, t7, t8, t9⟩, tf⟩ := box10 KT.out
                  go_wp2_with (at_builtin; refine wpList_appX rfl _ _ rfl (w3.heap.size + 1) _ q rfl (owns_keep HO3.out (below1 _ _)) W.heap.size ⟨.slice ma (txW s ti tv).info.length mc, .slice none 0 0, .slice ra (txW s ti tv).rev.length rc, txW s ti tv⟩ rfl (news10 (by simp [go_sem, txW]) (by simp [go_sem, txW]) (by simp [go_sem, txW]) (by simp [go_sem, txW]) (by simp [go_sem, txW]) (by simp [go_sem, txW]) (by simp [go_sem, txW]) (by simp [go_sem, txW]) (by simp [go_sem, txW]) (by simp [go_sem, txW])) HOT.out.one (by omega) (by simp; omega) ?_)
                  intro v3 w4 hO4 hg4
                  clear x0 x1 x2 xf t0 t1 t2 t3 t4 t5 t6 t7 t8 t9 tf
                  obtain ⟨qn, hqn⟩ : ∃ qn, qn = q ++ [(⟨.slice ma (txW s ti tv).info.length mc, .slice none 0 0, .slice ra (txW s ti tv).rev.length rc, txW s ti tv⟩ : RX)] := ⟨_, rfl⟩
                  have hqnl : qn.length = q.length + 1 := by rw [hqn]; simp
                  have hO5 := owns_n hO4 (show _ = qn.length by simp [hqn])
                  rw [← hqn] at hO5
                  have hB2 : Below W.heap.size W _ := below1 W (.cells #[.int .i64 s, .slice ma ti.length mc, .slice none 0 0, .slice ra tv.length rc, .bool false, .int .i64 0, .bool false, .int .i64 0, .bool false, .int .i64 0] 40 (0, 0))
                  have hob : ∀ k, (Value.slice va q.length vc).ownBlock = some k → w3.heap.size + 1 ≤ k := fun k hk => (HO3.out.lt k hk).1
                  have hs3 : W.heap.size + 1 ≤ w4.heap.size := by have := hg4.size; simpa using this
                  have HX4 : Hid (∀ x ∈ qn, OwnR w4 (w3.heap.size + 1) x) := by
                    intro x hx
                    rw [hqn] at hx
                    have hx2 : OwnR W (w3.heap.size + 1) x := by
                      rcases List.mem_append.1 hx with h | h
                      · exact HX3.out x h
                      · rw [List.mem_singleton.1 h]; exact HOT.out
                    exact (hx2.below hB2).grown (owns_keep HO3.out hB2) hg4
                  have HLP4 : Hid (scanP (logOf d p0) n (s + 1) (qn.map (·.t)) = scanL d) := by rw [Hid, hqn, List.map_append]; exact HLP2.out
                  have HQ4 : Hid (s + 1 = q0 + (qn.length : Int)) := by rw [Hid, hqnl, HQS.out]; omega
                  have KF4 : Hid (w4.heap[w3.heap.size]? = _) := (hg4.block _ (by simp; omega) (fun e => by have := hob _ e.symm; omega)).trans (boxKeep hB2 hz3 KF3.out)
                  have HB5 : Hid (Below w3.heap.size w3 w4) := (bthen HB2.out hB2).grown hg4 (bthen HB2.out hB2).size (fun k hk => by have := hob k hk; omega)
                  have HO5 := hide hO5
                  obtain ⟨va3, vc3, hv3⟩ : ∃ va3 vc3, v3 = .slice va3 qn.length vc3 := by
                    rcases hO5.2 with ⟨e, h0⟩ | ⟨g, cap, cur, e, _⟩
                    · exact absurd h0 (by omega)
                    · exact ⟨_, _, e⟩
                  subst hv3
                  have hsw : IntKind.i64.wrap (s + 1) = s + 1 := by rw [IntKind.wrap_i64]; have := HQS.out; omega
                  clear hqn hO4 hO5 hB2 hob hg4 HX3 HOT HLP2 KB3 KF3 HB2 HO3 hqnl KT
                  obtain ⟨⟨x0, x1, x2⟩, xf⟩ := box3 KF4.out
                  obtain ⟨⟨y0, y1, y2, y3, y4⟩, _⟩ := box5 (boxKeep HB5.out hz3a KM4.out)
                  have hz4 : w3.heap.size < w4.heap.size := by omega
                  have hqn24 : qn.length ≤ n := by have h1 := HQ4.out; have h2 := HQS.out; omega
                  go_wp2
                  clear x0 x1 x2 xf y0 y1 y2 y3 y4
                  refine ⟨⟨_, _, _, _, _, _, _, _, _, _, _, _, _, _, _, _, _, _, _, _, _, _, _, _, _, _, _, _, _, _, _, _, _, _, _, _, _, _, ?rel, rfl⟩, ?measure⟩
                  case rel =>
                    have e1 : ((p0 : Int) + ((pos : Int) + (n' : Int))) % 24 = (((p0 + n) % 24 : Nat) : Int) := by rw [← HNN.out]; simp
                    exact ⟨n, s + 1, qn, va3, vc3, by rw [← HNN.out]; simp, hn.2, HQ4.out, hqn24, HLP4, ((HB5.out.setCell (p := ⟨w3.heap.size, 0, none⟩) (by simp) _).setCell (p := ⟨w3.heap.size, 1, none⟩) (by simp) _).setCell (p := ⟨w3.heap.size, 2, none⟩) (by simp) _, by simp [World.setCell]; omega, by rw [← e1]; exact stored3 KF4.out _ _ _, owns_set3 HO5.out (fun k hk => by have := (HO5.out.lt k hk).1; omega), fun x hx => (HX4.out x hx).set3 (by omega)⟩
                  case measure => have := HNN.out; simp [intOf]; omega
              · go_simp
                have HNOW : Hid (Below wr.heap.size wr (wr.alloc (.cells #[.int .i64 0, .slice none 0 0, .slice none 0 0, .slice none 0 0, .bool false, .int .i64 0, .bool false, .int .i64 0, .bool false, .int .i64 0] 40)).drew) := (below1 _ _).drew
                refine hK.out _ _ (HALL.out _ HNOW.out).2 (fun hHeld2 => ?_)
                clear hK K
                refine wpAnyH_ready (rs := [5]) (by kernel_rfl) (by simp) ?_
                refine AllReadyH.cons rfl (fun K hK => ?_) AllReadyH.nil
                go_simp
                refine (txnAt_n _ _ _ ((logOf d p0).drop pos) sq _ (by rw [List.length_drop, logOf_length]) (by rw [HLA.out]; exact segs_if ((HLS.out.below HB.out).below HNOW.out) (by rw [logOf_length]; exact hcap)) (by rw [List.length_drop, logOf_length]; omega) (log_sizes HG.out p0 pos)).mono ?_
                rintro e w10 ⟨v, b, rfl, hb10, hT⟩
                obtain ⟨s, ma, mn, mc, ra, rn, rc, rfl⟩ := hT.form
                have HT := hide hT
                have HB10 := hide hb10
                have hbN := bthen HNOW.out hb10
                have hsw := hbN.size
                clear hT hb10
                dsimp only
                have KTb : w10.heap[wr.heap.size]? = some (.cells #[.int .i64 0, .slice none 0 0, .slice none 0 0, .slice none 0 0, .bool false, .int .i64 0, .bool false, .int .i64 0, .bool false, .int .i64 0] 40 (0, 0)) := (HB10.out.block _ (by simp)).trans (heap_alloc_new wr _)
                have hTw0 : wr.heap.size < w10.heap.size := (Array.getElem?_eq_some_iff.1 KTb).1
                refine hK.out _ _ (HALL.out _ hbN).2 (fun hHeld3 => ?_)
                clear hK K
                refine held_take 6 _ 64 (.tuple #[.agg #[.int .i64 s, .slice ma mn mc, .slice none 0 0, .slice ra rn rc, .bool false, .int .i64 0, .bool false, .int .i64 0, .bool false, .int .i64 0], .int .i64 b]) (by kernel_rfl) (by kernel_rfl) (by kernel_rfl) rfl rfl rfl ?_ (fun _ _ _ h => h) (by assumption) ?_
                · intro w hSw
                  go_simp
                refine held_take 7 _ 71 (.agg #[.int .i64 s, .slice ma mn mc, .slice none 0 0, .slice ra rn rc, .bool false, .int .i64 0, .bool false, .int .i64 0, .bool false, .int .i64 0]) (by kernel_rfl) (by kernel_rfl) (by kernel_rfl) rfl rfl rfl ?_ (fun _ _ _ h => h) (by assumption) ?_
                · intro w hSw
                  go_simp
                refine held_take 8 _ 72 (.int .i64 b) (by kernel_rfl) (by kernel_rfl) (by kernel_rfl) rfl rfl rfl ?_ (fun _ _ _ h => h) (by assumption) ?_
                · intro w hSw
                  go_simp
                obtain ⟨⟨z0, z1, z2, z3, z4, z5, z6, z7, z8, z9⟩, zf⟩ := box10 KTb
                refine wpAnyH_ready (rs := [10]) (by kernel_rfl) (by simp) ?_
                refine AllReadyH.cons rfl (fun K hK => ?_) AllReadyH.nil
                go_simp
                have hbS : Below wr.heap.size wr ((((((((((w10.setCell ⟨wr.heap.size, 0, none⟩ (.int .i64 s)).setCell ⟨wr.heap.size, 1, none⟩ (.slice ma mn mc)).setCell ⟨wr.heap.size, 2, none⟩ (.slice none 0 0)).setCell ⟨wr.heap.size, 3, none⟩ (.slice ra rn rc)).setCell ⟨wr.heap.size, 4, none⟩ (.bool false)).setCell ⟨wr.heap.size, 5, none⟩ (.int .i64 0)).setCell ⟨wr.heap.size, 6, none⟩ (.bool false)).setCell ⟨wr.heap.size, 7, none⟩ (.int .i64 0)).setCell ⟨wr.heap.size, 8, none⟩ (.bool false)).setCell ⟨wr.heap.size, 9, none⟩ (.int .i64 0)) := by
                  repeat refine Below.setCell ?_ (by simp) _
                  exact hbN
                clear z0 z1 z2 z3 z4 z5 z6 z7 z8 z9 zf
                refine hK.out _ _ (HALL.out _ hbS).2 (fun hHeld4 => ?_)
                clear hK K
                refine held_take 11 _ 14 (.int .i64 b) (by kernel_rfl) (by kernel_rfl) (by kernel_rfl) rfl rfl rfl ?_ (fun _ _ _ h => h) (by assumption) ?_
                · intro w hSw
                  go_simp
                refine wpAnyH_done (by kernel_rfl) ?_ _
                obtain ⟨W, hW⟩ : ∃ W, W = ((((((((((w10.setCell ⟨wr.heap.size, 0, none⟩ (.int .i64 s)).setCell ⟨wr.heap.size, 1, none⟩ (.slice ma mn mc)).setCell ⟨wr.heap.size, 2, none⟩ (.slice none 0 0)).setCell ⟨wr.heap.size, 3, none⟩ (.slice ra rn rc)).setCell ⟨wr.heap.size, 4, none⟩ (.bool false)).setCell ⟨wr.heap.size, 5, none⟩ (.int .i64 0)).setCell ⟨wr.heap.size, 6, none⟩ (.bool false)).setCell ⟨wr.heap.size, 7, none⟩ (.int .i64 0)).setCell ⟨wr.heap.size, 8, none⟩ (.bool false)).setCell ⟨wr.heap.size, 9, none⟩ (.int .i64 0)) := ⟨_, rfl⟩
                have hbW : Below wr.heap.size wr W := by rw [hW]; exact hbS
                have KT : Hid (W.heap[wr.heap.size]? = some (.cells #[.int .i64 s, .slice ma mn mc, .slice none 0 0, .slice ra rn rc, .bool false, .int .i64 0, .bool false, .int .i64 0, .bool false, .int .i64 0] 40 (0, 0))) := by rw [hW]; exact stored10 KTb (.int .i64 s) (.slice ma mn mc) (.slice none 0 0) (.slice ra rn rc) (.bool false) (.int .i64 0) (.bool false) (.int .i64 0) (.bool false) (.int .i64 0)
                have HOW : Hid (∀ t, OwnR w10 ((wr.alloc (.cells #[.int .i64 0, .slice none 0 0, .slice none 0 0, .slice none 0 0, .bool false, .int .i64 0, .bool false, .int .i64 0, .bool false, .int .i64 0] 40)).drew).heap.size ⟨.slice ma mn mc, .slice none 0 0, .slice ra rn rc, t⟩ → OwnR W (w3.heap.size + 1) ⟨.slice ma mn mc, .slice none 0 0, .slice ra rn rc, t⟩) := by
                  intro t h
                  rw [hW]
                  exact OwnR.base (OwnR.set10 h (show wr.heap.size < _ by simp)) (by simp; omega)
                rw [← hW]
                obtain ⟨T, hTe⟩ : ∃ T, T = wr.heap.size := ⟨_, rfl⟩
                rw [← hTe] at KT ⊢
                have hTW : T < W.heap.size := (Array.getElem?_eq_some_iff.1 KT.out).1
                have hTw : wr.heap.size ≤ T := by rw [hTe]; omega
                clear hW hTe
                clear HB10 hbN HNOW hbS KTb hTw0 hHeld hHeld2 hHeld3 hHeld4
                have hs2 := hbW.size
                have KB3 := hide (boxKeep hbW (show w.heap.size + 1 < wr.heap.size by omega) KB.out)
                have KF3 := hide (boxKeep hbW hsz KF.out)
                have HO3 := hide (owns_keep HO.out hbW)
                have HX3 : Hid (∀ x ∈ q, OwnR W (w3.heap.size + 1) x) := fun x hx => (HX.out x hx).below hbW
                have HB2 := hide (bthen HB.out hbW)
                have hz2 : w.heap.size + 1 < W.heap.size := by omega
                have hz3 : w3.heap.size < W.heap.size := by omega
                have hT3 : w3.heap.size < T := by omega
                clear hbW HALL x0 x1 x2 xf KB KF HO HX HB hsw hTw hs2
                cases hrun : runT (logOf d p0) sq pos (txOf sq) with
                | none =>
                  have hr2 : runT ((logOf d p0).drop pos) sq 0 (txOf sq) = none := by rw [runT_drop (logOf d p0) sq pos (by rw [logOf_length]; exact hpos) 24 0 (txOf sq) (by rw [logOf_length]; omega), Nat.add_zero, hrun]; rfl
                  obtain rfl := HT.out.ofNone hr2
                  have HEND : Hid (scanL d = (q.map (·.t), pos)) := by rw [Hid, ← HLP.out, scanP, dif_pos hlt, hrun]
                  clear hrun hr2 HLP HT HOW KT hT3
                  obtain ⟨m3, hm3⟩ : ∃ m3 : Nat, m3 = (p0 + pos) % 24 := ⟨_, rfl⟩
                  rw [← hm3] at KF3
                  have HM3 := hide hm3
                  clear hm3
                  obtain ⟨⟨z0, z1, z2⟩, zf⟩ := box3 KB3.out
                  obtain ⟨⟨x0, x1, x2⟩, xf⟩ := box3 KF3.out
                  go_wp2
                  clear x0 x1 x2 xf
                  obtain ⟨V9, hV9⟩ : ∃ V9, V9 = (((W.setCell ⟨w.heap.size + 1, 0, none⟩ (.slice va q.length vc)).setCell ⟨w.heap.size + 1, 1, none⟩ (.int .i64 sq)).setCell ⟨w.heap.size + 1, 2, none⟩ (.int .i64 (m3 : Int))) := ⟨_, rfl⟩
                  have hbx := stored3 KB3.out (.slice va q.length vc) (.int .i64 sq) (.int .i64 (m3 : Int))
                  rw [← hV9] at hbx
                  obtain ⟨⟨y0, y1, y2⟩, _⟩ := box3 hbx
                  have HV9 := hide hV9
                  rw [← hV9]
                  clear hV9 hbx z0 z1 z2 zf
                  refine bodyPost_ret (v := .tuple #[.agg #[.slice va q.length vc, .int .i64 sq, .int .i64 (m3 : Int)], .int .i64 0]) (by simp [results, Try.results42, go_sem, y0, y1, y2]) rfl ?_
                  rw [ScPost, HS0.out]
                  refine ⟨_, rfl, ?_, fun h => absurd rfl h, fun _ => ⟨q, va, vc, ?_, ?_, ?_, ?_⟩⟩
                  · rw [HV9.out]
                    exact (((bthen HB4.out HB2.out).setCell (p := ⟨w.heap.size + 1, 0, none⟩) (by simp) _).setCell (p := ⟨w.heap.size + 1, 1, none⟩) (by simp) _).setCell (p := ⟨w.heap.size + 1, 2, none⟩) (by simp) _
                  · rw [HPOS.out, HEND.out, HSQ.out, ← HQS.out, HM3.out]
                  · rw [HEND.out]
                  · rw [HV9.out]
                    refine owns_base (owns_set3 (HO3.out) ?_) (show w.heap.size ≤ w3.heap.size + 1 by omega)
                    intro k hk
                    have := (HO3.out.lt k hk).1
                    omega
                  · intro x hx
                    rw [HV9.out]
                    exact OwnR.base (OwnR.set3 (HX3.out x hx) (by omega)) (by omega)
                | some nt =>
                  obtain ⟨n, t⟩ := nt
                  have hr2 : runT ((logOf d p0).drop pos) sq 0 (txOf sq) = some (n - pos, t) := by rw [runT_drop (logOf d p0) sq pos (by rw [logOf_length]; exact hpos) 24 0 (txOf sq) (by rw [logOf_length]; omega), Nat.add_zero, hrun]; rfl
                  have hn := runT_bound (logOf d p0) sq 24 pos (txOf sq) n t (by rw [logOf_length]; omega) hrun
                  rw [logOf_length] at hn
                  have HLP2 : Hid (scanP (logOf d p0) n (sq + 1) (q.map (·.t) ++ [t]) = scanL d) := by rw [Hid, ← HLP.out, scanP.eq_def (logOf d p0) pos, dif_pos hlt, hrun]
                  obtain ⟨hbv, hsv, hOt, ht, hmn, hrn⟩ := HT.out.ofSome hr2
                  subst hsv
                  have HOT := hide (HOW.out t hOt)
                  clear hrun hr2 HLP HT HOW hOt
                  obtain ⟨ti, tv, ht2⟩ : ∃ ti tv, t = txW s ti tv := ⟨_, _, ht⟩
                  subst ht2
                  subst hmn hrn
                  obtain ⟨n', hn'⟩ : ∃ n', n' = n - pos := ⟨_, rfl⟩
                  rw [← hn'] at hbv
                  subst hbv
                  have HNN : Hid (pos + n' = n) := by rw [Hid]; omega
                  have hn24 : pos + n' ≤ 24 := by omega
                  have hnb : ((n' : Int) == 0) = false := by have : ¬ ((n' : Int) = 0) := by omega
                                                             simpa using this
                  clear hn' ht
                  have hql2 : q.length ≤ 24 := by omega
                  obtain ⟨⟨x0, x1, x2⟩, xf⟩ := box3 KF3.out
                  obtain ⟨⟨t0, t1, t2, t3, t4, t5, t6, t7, t8, t9⟩, tf⟩ := box10 KT.out
                  go_wp2_with (at_builtin; refine wpList_appX rfl _ _ rfl (w3.heap.size + 1) _ q rfl (owns_keep HO3.out (below1 _ _)) W.heap.size ⟨.slice ma (txW s ti tv).info.length mc, .slice none 0 0, .slice ra (txW s ti tv).rev.length rc, txW s ti tv⟩ rfl (news10 (by simp [go_sem, txW]) (by simp [go_sem, txW]) (by simp [go_sem, txW]) (by simp [go_sem, txW]) (by simp [go_sem, txW]) (by simp [go_sem, txW]) (by simp [go_sem, txW]) (by simp [go_sem, txW]) (by simp [go_sem, txW]) (by simp [go_sem, txW])) HOT.out.one (by omega) (by simp; omega) ?_)
                  intro v3 w4 hO4 hg4
                  clear x0 x1 x2 xf t0 t1 t2 t3 t4 t5 t6 t7 t8 t9 tf
                  obtain ⟨qn, hqn⟩ : ∃ qn, qn = q ++ [(⟨.slice ma (txW s ti tv).info.length mc, .slice none 0 0, .slice ra (txW s ti tv).rev.length rc, txW s ti tv⟩ : RX)] := ⟨_, rfl⟩
                  have hqnl : qn.length = q.length + 1 := by rw [hqn]; simp
                  have hO5 := owns_n hO4 (show _ = qn.length by simp [hqn])
                  rw [← hqn] at hO5
                  have hB2 : Below W.heap.size W _ := below1 W (.cells #[.int .i64 s, .slice ma ti.length mc, .slice none 0 0, .slice ra tv.length rc, .bool false, .int .i64 0, .bool false, .int .i64 0, .bool false, .int .i64 0] 40 (0, 0))
                  have hob : ∀ k, (Value.slice va q.length vc).ownBlock = some k → w3.heap.size + 1 ≤ k := fun k hk => (HO3.out.lt k hk).1
                  have hs3 : W.heap.size + 1 ≤ w4.heap.size := by have := hg4.size; simpa using this
                  have HX4 : Hid (∀ x ∈ qn, OwnR w4 (w3.heap.size + 1) x) := by
                    intro x hx
                    rw [hqn] at hx
                    have hx2 : OwnR W (w3.heap.size + 1) x := by
                      rcases List.mem_append.1 hx with h | h
                      · exact HX3.out x h
                      · rw [List.mem_singleton.1 h]; exact HOT.out
                    exact (hx2.below hB2).grown (owns_keep HO3.out hB2) hg4
                  have HLP4 : Hid (scanP (logOf d p0) n (s + 1) (qn.map (·.t)) = scanL d) := by rw [Hid, hqn, List.map_append]; exact HLP2.out
                  have HQ4 : Hid (s + 1 = q0 + (qn.length : Int)) := by rw [Hid, hqnl, HQS.out]; omega
                  have KF4 : Hid (w4.heap[w3.heap.size]? = _) := (hg4.block _ (by simp; omega) (fun e => by have := hob _ e.symm; omega)).trans (boxKeep hB2 hz3 KF3.out)
                  have HB5 : Hid (Below w3.heap.size w3 w4) := (bthen HB2.out hB2).grown hg4 (bthen HB2.out hB2).size (fun k hk => by have := hob k hk; omega)
                  have HO5 := hide hO5
                  obtain ⟨va3, vc3, hv3⟩ : ∃ va3 vc3, v3 = .slice va3 qn.length vc3 := by
                    rcases hO5.2 with ⟨e, h0⟩ | ⟨g, cap, cur, e, _⟩
                    · exact absurd h0 (by omega)
                    · exact ⟨_, _, e⟩
                  subst hv3
                  have hsw : IntKind.i64.wrap (s + 1) = s + 1 := by rw [IntKind.wrap_i64]; have := HQS.out; omega
                  clear hqn hO4 hO5 hB2 hob hg4 HX3 HOT HLP2 KB3 KF3 HB2 HO3 hqnl KT
                  obtain ⟨⟨x0, x1, x2⟩, xf⟩ := box3 KF4.out
                  obtain ⟨⟨y0, y1, y2, y3, y4⟩, _⟩ := box5 (boxKeep HB5.out hz3a KM4.out)
                  have hz4 : w3.heap.size < w4.heap.size := by omega
                  have hqn24 : qn.length ≤ n := by have h1 := HQ4.out; have h2 := HQS.out; omega
                  go_wp2
                  clear x0 x1 x2 xf y0 y1 y2 y3 y4
                  refine ⟨⟨_, _, _, _, _, _, _, _, _, _, _, _, _, _, _, _, _, _, _, _, _, _, _, _, _, _, _, _, _, _, _, _, _, _, _, _, _, _, ?rel, rfl⟩, ?measure⟩
                  case rel =>
                    have e1 : ((p0 : Int) + ((pos : Int) + (n' : Int))) % 24 = (((p0 + n) % 24 : Nat) : Int) := by rw [← HNN.out]; simp
                    exact ⟨n, s + 1, qn, va3, vc3, by rw [← HNN.out]; simp, hn.2, HQ4.out, hqn24, HLP4, ((HB5.out.setCell (p := ⟨w3.heap.size, 0, none⟩) (by simp) _).setCell (p := ⟨w3.heap.size, 1, none⟩) (by simp) _).setCell (p := ⟨w3.heap.size, 2, none⟩) (by simp) _, by simp [World.setCell]; omega, by rw [← e1]; exact stored3 KF4.out _ _ _, owns_set3 HO5.out (fun k hk => by have := (HO5.out.lt k hk).1; omega), fun x hx => (HX4.out x hx).set3 (by omega)⟩
                  case measure => have := HNN.out; simp [intOf]; omega
            · have HEND : Hid (scanL d = (q.map (·.t), pos)) := by rw [Hid, ← HLP.out, scanP, dif_neg hlt]
              have KB3 := KB
              have KF3 := KF
              have HO3 := HO
              have HX3 := HX
              clear KB KF HO HX HLP
              have hz2 : w.heap.size + 1 < wr.heap.size := by have := HB.out.size; omega
              obtain ⟨m3, hm3⟩ : ∃ m3 : Nat, m3 = (p0 + pos) % 24 := ⟨_, rfl⟩
              rw [← hm3] at KF3
              have HM3 := hide hm3
              clear hm3
              obtain ⟨⟨z0, z1, z2⟩, zf⟩ := box3 KB3.out
              obtain ⟨⟨x0, x1, x2⟩, xf⟩ := box3 KF3.out
              go_wp2
              clear x0 x1 x2 xf
              obtain ⟨V9, hV9⟩ : ∃ V9, V9 = (((wr.setCell ⟨w.heap.size + 1, 0, none⟩ (.slice va q.length vc)).setCell ⟨w.heap.size + 1, 1, none⟩ (.int .i64 sq)).setCell ⟨w.heap.size + 1, 2, none⟩ (.int .i64 (m3 : Int))) := ⟨_, rfl⟩
              have hbx := stored3 KB3.out (.slice va q.length vc) (.int .i64 sq) (.int .i64 (m3 : Int))
              rw [← hV9] at hbx
              obtain ⟨⟨y0, y1, y2⟩, _⟩ := box3 hbx
              have HV9 := hide hV9
              rw [← hV9]
              clear hV9 hbx z0 z1 z2 zf
              refine bodyPost_ret (v := .tuple #[.agg #[.slice va q.length vc, .int .i64 sq, .int .i64 (m3 : Int)], .int .i64 0]) (by simp [results, Try.results42, go_sem, y0, y1, y2]) rfl ?_
              rw [ScPost, HS0.out]
              refine ⟨_, rfl, ?_, fun h => absurd rfl h, fun _ => ⟨q, va, vc, ?_, ?_, ?_, ?_⟩⟩
              · rw [HV9.out]
                exact (((bthen HB4.out HB.out).setCell (p := ⟨w.heap.size + 1, 0, none⟩) (by simp) _).setCell (p := ⟨w.heap.size + 1, 1, none⟩) (by simp) _).setCell (p := ⟨w.heap.size + 1, 2, none⟩) (by simp) _
              · rw [HPOS.out, HEND.out, HSQ.out, ← HQS.out, HM3.out]
              · rw [HEND.out]
              · rw [HV9.out]
                refine owns_base (owns_set3 (HO3.out) ?_) (show w.heap.size ≤ w3.heap.size + 1 by omega)
                intro k hk
                have := (HO3.out.lt k hk).1
                omega
              · intro x hx
                rw [HV9.out]
                exact OwnR.base (OwnR.set3 (HX3.out x hx) (by omega)) (by omega)
    · have HS1 : Hid (scanE d = 1) := by
        rw [Hid, HSE.out, if_pos]
        by_cases h : er = 0
        · exact .inr (fun e => hok ⟨h, e⟩)
        · exact .inl h
      clear HSE
      by_cases he : er = 0
      · subst he
        have hk' : (mk.kind != 1) = true := by
          have : ¬ mk.kind = 1 := fun e => hok ⟨rfl, e⟩
          simpa using this
        clear hok
        obtain ⟨⟨z0, z1, z2⟩, zf⟩ := box3 KB2.out
        go_wp2
        obtain ⟨W, hW⟩ : ∃ W, W = ((((w2.setCell ⟨w.heap.size + 1, 0, none⟩ (.slice none 0 0)).setCell ⟨w.heap.size + 1, 1, none⟩ (.int .i64 0)).setCell ⟨w.heap.size + 1, 2, none⟩ (.int .i64 0)).alloc (.cells #[.int .i64 mk.kind, .int .i64 mk.seq, .int .i64 mk.pos, .slice a2 mk.tags.length c2, .slice a3 mk.blocks.length c3] 130)) := ⟨_, rfl⟩
        have hbx := stored3a KB2.out (.slice none 0 0) (.int .i64 0) (.int .i64 0) (.cells #[.int .i64 mk.kind, .int .i64 mk.seq, .int .i64 mk.pos, .slice a2 mk.tags.length c2, .slice a3 mk.blocks.length c3] 130)
        rw [← hW] at hbx
        obtain ⟨⟨y0, y1, y2⟩, _⟩ := box3 hbx
        have HW := hide hW
        rw [← hW]
        clear hW hbx z0 z1 z2 zf
        refine bodyPost_ret (v := .tuple #[.agg #[.slice none 0 0, .int .i64 0, .int .i64 0], .int .i64 1]) (by simp [results, Try.results42, go_sem, y0, y1, y2]) rfl ?_
        rw [ScPost, HS1.out]
        refine ⟨_, rfl, ?_, fun _ => rfl, fun h => absurd h (by first | exact HE.out | decide)⟩
        rw [HW.out]
        exact ((((HB2.out).setCell (p := ⟨w.heap.size + 1, 0, none⟩) (by simp) _).setCell (p := ⟨w.heap.size + 1, 1, none⟩) (by simp) _).setCell (p := ⟨w.heap.size + 1, 2, none⟩) (by simp) _).alloc (by simp [World.setCell]; omega) _
      · have he' : (er != 0) = true := by simpa using he
        clear hok he
        obtain ⟨⟨z0, z1, z2⟩, zf⟩ := box3 KB2.out
        go_wp2
        obtain ⟨W, hW⟩ : ∃ W, W = ((((w2.setCell ⟨w.heap.size + 1, 0, none⟩ (.slice none 0 0)).setCell ⟨w.heap.size + 1, 1, none⟩ (.int .i64 0)).setCell ⟨w.heap.size + 1, 2, none⟩ (.int .i64 0)).alloc (.cells #[.int .i64 mk.kind, .int .i64 mk.seq, .int .i64 mk.pos, .slice a2 mk.tags.length c2, .slice a3 mk.blocks.length c3] 130)) := ⟨_, rfl⟩
        have hbx := stored3a KB2.out (.slice none 0 0) (.int .i64 0) (.int .i64 0) (.cells #[.int .i64 mk.kind, .int .i64 mk.seq, .int .i64 mk.pos, .slice a2 mk.tags.length c2, .slice a3 mk.blocks.length c3] 130)
        rw [← hW] at hbx
        obtain ⟨⟨y0, y1, y2⟩, _⟩ := box3 hbx
        have HW := hide hW
        rw [← hW]
        clear hW hbx z0 z1 z2 zf
        refine bodyPost_ret (v := .tuple #[.agg #[.slice none 0 0, .int .i64 0, .int .i64 0], .int .i64 1]) (by simp [results, Try.results42, go_sem, y0, y1, y2]) rfl ?_
        rw [ScPost, HS1.out]
        refine ⟨_, rfl, ?_, fun _ => rfl, fun h => absurd h (by first | exact HE.out | decide)⟩
        rw [HW.out]
        exact ((((HB2.out).setCell (p := ⟨w.heap.size + 1, 0, none⟩) (by simp) _).setCell (p := ⟨w.heap.size + 1, 1, none⟩) (by simp) _).setCell (p := ⟨w.heap.size + 1, 2, none⟩) (by simp) _).alloc (by simp [World.setCell]; omega) _
  · have HE := hide hE
    have HSE : Hid (scanE d = readE d 0) := by rw [Hid, scanE, if_pos hE]
    have hE' : (readE d 0 != 0) = true := by simpa using hE
    clear hE
    generalize readE d 0 = E at *
    obtain ⟨⟨z0, z1, z2⟩, zf⟩ := box3 KB1.out
    go_wp2
    obtain ⟨W, hW⟩ : ∃ W, W = (((w1.setCell ⟨w.heap.size + 1, 0, none⟩ (.slice none 0 0)).setCell ⟨w.heap.size + 1, 1, none⟩ (.int .i64 0)).setCell ⟨w.heap.size + 1, 2, none⟩ (.int .i64 0)) := ⟨_, rfl⟩
    have hbx := stored3 KB1.out (.slice none 0 0) (.int .i64 0) (.int .i64 0)
    rw [← hW] at hbx
    obtain ⟨⟨y0, y1, y2⟩, _⟩ := box3 hbx
    have HW := hide hW
    rw [← hW]
    clear hW hbx z0 z1 z2 zf
    refine bodyPost_ret (v := .tuple #[.agg #[.slice none 0 0, .int .i64 0, .int .i64 0], .int .i64 E]) (by simp [results, Try.results42, go_sem, y0, y1, y2]) rfl ?_
    rw [ScPost, HSE.out]
    refine ⟨_, rfl, ?_, fun _ => rfl, fun h => absurd h (by first | exact HE.out | decide)⟩
    rw [HW.out]
    exact (((HB1.out).setCell (p := ⟨w.heap.size + 1, 0, none⟩) (by simp) _).setCell (p := ⟨w.heap.size + 1, 1, none⟩) (by simp) _).setCell (p := ⟨w.heap.size + 1, 2, none⟩) (by simp) _

end Go.Proofs.Ytjnpndfpajjihab

namespace Go.Proofs.Ytjnpndfpajjihab
open Go.RowKit

theorem scanP_len (log : List ByteArray) : ∀ (f pos : Nat) (seq : Int) (acc : List Tx), log.length - pos ≤ f → (scanP log pos seq acc).1.length ≤ acc.length + f := by
  intro f
  induction f with
  | zero =>
    intro pos seq acc hf
    rw [scanP]
    split
    · rw [runT, dif_neg (by omega)]
      exact Nat.le_refl _
    · exact Nat.le_refl _
  | succ f ih =>
    intro pos seq acc hf
    rw [scanP]
    split
    · split
      · exact Nat.le_add_right _ _
      · rename_i n t hr
        have hb := runT_bound log seq _ pos _ n t (Nat.le_refl _) hr
        have := ih n (seq + 1) (acc ++ [t]) (by omega)
        rw [List.length_append, List.length_singleton] at this
        omega
    · exact Nat.le_add_right _ _

/-- What is found, as plain data. -/
def fndL (d : Dk) : List Tx := if scanE d = 0 then (scanL d).1 else []
def fndN (d : Dk) : Int := if scanE d = 0 then (superM d).seq + ((scanL d).1.length : Int) else 0
def fndP (d : Dk) : Int := if scanE d = 0 then ((((superM d).pos.toNat + (scanL d).2) % 24 : Nat) : Int) else 0
theorem fndL_len (d : Dk) : (fndL d).length ≤ 24 := by
  unfold fndL
  split
  · have := scanP_len (logOf d (superM d).pos) 24 0 (superM d).seq [] (by rw [logOf_length]; omega)
    simpa [scanL] using this
  · exact Nat.zero_le _
theorem ScPost.found {w w' : World} {d : Dk} {e : Ending} (h : ScPost w w' d e) : ∃ va vc, e = .returned (.tuple #[.agg #[.slice va (fndL d).length vc, .int .i64 (fndN d), .int .i64 (fndP d)], .int .i64 (scanE d)]) ∧ SegTx w' va (fndL d) ∧ Below w.heap.size w w' := by
  obtain ⟨v, rfl, hb, h1, h2⟩ := h
  by_cases hE : scanE d = 0
  · obtain ⟨q, va, vc, rfl, hq, hO, hX⟩ := h2 hE
    obtain ⟨a, c, hv, hS, _⟩ := SegTx.of_owns hO hX
    simp only [Value.slice.injEq] at hv
    obtain ⟨rfl, _, rfl⟩ := hv
    have hl : fndL d = q.map (·.t) := by rw [fndL, if_pos hE, hq]
    have hlen : q.length = (scanL d).1.length := by rw [← hq, List.length_map]
    refine ⟨va, vc, ?_, by rw [hl]; exact hS, hb⟩
    rw [hl, fndN, fndP, if_pos hE, if_pos hE, List.length_map, hlen]
  · rw [h1 hE]
    refine ⟨none, 0, ?_, .inl (by rw [fndL, if_neg hE]), hb⟩
    rw [fndL, fndN, fndP, if_neg hE, if_neg hE, if_neg hE]
    rfl

end Go.Proofs.Ytjnpndfpajjihab
