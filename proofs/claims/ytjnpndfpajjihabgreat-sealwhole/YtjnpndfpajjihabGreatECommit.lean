/-
  The walk of seal's Commit.
-/
import Derived.Test.YtjnpndfpajjihabGreatEPure
import Derived.Test.YtjnpndfpajjihabGreatGrSealWhole44
import Derived.Test.YtjnpndfpajjihabGreatGrSealWhole38
import Derived.Laws.EntriesVeiled
namespace Go.Proofs.YtjnpndfpajjihabGreat
open Go.RowKit Go.Shelf

attribute [local go_sem] Oper.semAt_some

/-- The rows of a transaction whose value is written out. -/
theorem IsTx.segs {w : World} {t : Tx} {a : Option Addr} {c : Nat} {a' : Option Addr} {c' : Nat} {r : Option Addr} {d : Nat} (h : IsTx w (.agg #[.int .i64 t.seq, .slice a t.info.length c, .slice a' t.data.length c', .slice r t.rev.length d, .bool t.h0.on, .int .i64 t.h0.left, .bool t.h1.on, .int .i64 t.h1.left, .bool t.h2.on, .int .i64 t.h2.left]) t) :
    SegW w a t.info ∧ t.info.length ≤ maxLen ∧ SegW w a' t.data ∧ t.data.length ≤ maxLen ∧ SegI w r t.rev ∧ t.rev.length ≤ maxLen := by
  obtain ⟨b0, b1, b2, b3, b4, b5, e, f1, f2, f3, n1, n2, n3⟩ := h
  simp only [Value.agg.injEq] at e
  injection e with e
  simp only [List.cons.injEq, Value.slice.injEq, true_and, and_true] at e
  obtain ⟨⟨rfl, rfl⟩, ⟨rfl, rfl⟩, rfl, rfl⟩ := e
  exact ⟨f1, n1, f2, n2, f3, n3⟩

set_option maxHeartbeats 1000000 in
set_option maxRecDepth 100000 in
theorem commit_no (rh ru : Int) (v : Value) (t : Tx) (w : World) (hT : IsTx w v t) (r1 : t.info.length * 24 ≤ 140737488355328) (r2 : t.data.length * 24 ≤ 140737488355328) (he : ¬ sealE rh ru t = 0) :
    Calls Tryz.prog 16 #[.agg #[.int .i64 rh, .int .i64 ru], v] w fun e w' => ∃ a c, e = .returned (.tuple #[.agg #[.int .i64 (sealH rh ru t), .int .i64 (sealU rh ru t)], .slice a (commitS rh ru t).length c, .int .i64 (sealE rh ru t)]) ∧ SegSt w' a (commitS rh ru t) ∧ Below w.heap.size w w' := by
  have HT := hide hT
  obtain ⟨a0, a1, a2, a3, a4, a5, rfl, _, _, _, n1, n2, n3⟩ := hT
  have hH : sealH rh ru t = rh ∧ sealU rh ru t = ru ∧ sealP rh ru t = [] ∧ commitS rh ru t = [] := by simp [sealH, sealU, sealP, commitS, he]
  have HH := hide hH
  have heb : (sealE rh ru t != 0) = true := by simpa using he
  go_enter Tryz.func16, Tryz.ntmps16
  go_wp2_with fail
  refine (take_any rh ru _ t _ (HT.out.below (bthen (bthen (below1 _ _) (below1 _ _)) (below1 _ _))) r1 r2).mono ?_
  rintro e w1 ⟨a, c, rfl, _, hb1⟩
  obtain ⟨K1, K2, K3, hs1⟩ := three1 hb1
  have hs1' : w.heap.size < w1.heap.size := by omega
  have hs1a : w.heap.size + 1 + 1 < w1.heap.size + 1 := by omega
  have HB1 := hide (bthen (bthen (bthen (below1 _ _) (below1 _ _)) (below1 _ _)) hb1)
  obtain ⟨⟨r0, r1'⟩, _⟩ := box2 K1
  obtain ⟨⟨y0, y1⟩, f0, f1⟩ := box2 K3
  clear K1 K2 K3 hb1 hH
  go_wp2
  refine bodyPost_ret (v := .tuple #[.agg #[.int .i64 rh, .int .i64 ru], .slice none 0 0, .int .i64 (sealE rh ru t)]) (by simp [results, Tryz.results16, go_sem, hs1, hs1a, y0, y1]) rfl ⟨none, 0, by rw [HH.out.1, HH.out.2.1, HH.out.2.2.2]; rfl, .inl HH.out.2.2.2, ?_⟩
  refine Below.alloc (Below.alloc ?_ ?_ _) ?_ _
  · refine Below.setCell (Below.setCell HB1.out ?_ _) ?_ _
    · simp; omega
    · simp; omega
  · simp; omega
  · simp; omega

theorem Fr.weak {Bs Bp base : Nat} {w w' : World} (h : Fr Bs Bs base w w') : Fr Bs Bp base w w' :=
  ⟨h.os, h.tape, h.output, h.size, fun k hk _ n2 => h.low k hk n2 n2, fun k o ho hn n1 _ => h.box k o ho hn n1 n1⟩
theorem PlacesAt.fr {w w' : World} {base Bs Bp : Nat} {l : List Int} (h : PlacesAt w base Bp l) (hf : Fr Bs Bs base w w') (h1 : Bp ≠ Bs) (h2 : base ≤ Bs) : PlacesAt w' base Bp l := by
  obtain ⟨a, c, b1, s1, p1, r⟩ := h
  refine ⟨a, c, hf.boxed b1 (by decide) h1 h1, ?_, p1, r⟩
  rcases s1 with e | ⟨b, off, rfl, hlt, hc⟩
  · exact .inl e
  · have hk := (p1 b off rfl).1
    exact .inr ⟨b, off, rfl, Nat.lt_of_lt_of_le hlt hf.size, fun i hi => (World.cell?_of_block (w := w) (a := ⟨b, off + i, none⟩) (hf.low b hk (by omega) (by omega))).trans (hc i hi)⟩
theorem owns_fr {w w' : World} {b Bs Bp base : Nat} {e : TypeId} {size n : Nat} {v : Value} {xs : List Value} (h : w.ownsRow b e size v n xs) (hf : Fr Bs Bp base w w') (he : e ≠ 97) (h1 : Bs < b) (h2 : Bp < b) : w'.ownsRow b e size v n xs := by
  refine ⟨h.1, ?_⟩
  rcases h.2 with h0 | ⟨g, cap, cur, hv, hg, hh, r⟩
  · exact .inl h0
  · exact .inr ⟨g, cap, cur, hv, hg, hf.box g _ hh (fun cs fr e' => by simp only [Obj.cells.injEq] at e'; exact he e'.2.1) (by omega) (by omega), r⟩
theorem SegW.low {w W0 w' : World} {a : Option Addr} {l : List (Int × ByteArray)} {Bs Bp base : Nat} (h : SegW w a l) (hb : Below w.heap.size w W0) (hf : Fr Bs Bp base W0 w') (h1 : w.heap.size ≤ base) (h2 : w.heap.size ≤ Bp) (h3 : w.heap.size ≤ Bs) : SegW w' a l := by
  rcases h with h | ⟨b, off, rfl, hlt, hc⟩
  · exact .inl h
  · have hk := (hf.low b (by omega) (by omega) (by omega)).trans (hb.block b hlt)
    exact .inr ⟨b, off, rfl, Nat.lt_of_lt_of_le (Nat.lt_of_lt_of_le hlt hb.size) hf.size, fun i hi => ⟨(World.cell?_of_block (w := w) (a := ⟨b, off + i * 2, none⟩) hk).trans (hc i hi).1, (World.cell?_of_block (w := w) (a := ⟨b, off + i * 2 + 1, none⟩) hk).trans (hc i hi).2⟩⟩
theorem segW_part {w : World} {b off : Nat} {l : List (Int × ByteArray)} (h : SegW w (some ⟨b, off, none⟩) l) (k : Nat) : SegW w (some ⟨b, off + 10 * k * 2, none⟩) (partOf l k) := by
  rcases h with e | ⟨b', off', e, hlt, hc⟩
  · left; rw [e, partOf]; simp
  · cases e
    refine .inr ⟨b, off + 10 * k * 2, rfl, hlt, fun i hi => ?_⟩
    have hi2 : i < 10 ∧ 10 * k + i < l.length := by rw [partOf, List.length_take, List.length_drop] at hi; omega
    have e1 : (partOf l k).getD i (0, ByteArray.empty) = l.getD (10 * k + i) (0, ByteArray.empty) := by
      rw [List.getD, List.getD, partOf, List.getElem?_take, if_pos hi2.1, List.getElem?_drop]
    have := hc (10 * k + i) hi2.2
    rw [e1, show off + 10 * k * 2 + i * 2 = off + (10 * k + i) * 2 from by omega]
    exact this
theorem metaB_mono (q : Int) (l : List (Int × ByteArray)) {j k : Nat} (h : j ≤ k) : (metaB q l j).length ≤ (metaB q l k).length := by
  induction h with
  | refl => exact Nat.le_refl _
  | step h ih => rw [metaB_succ, List.length_append]; omega
theorem take_next (l : List ByteArray) {j : Nat} (h : j < l.length) : l.take (j + 1) = l.take j ++ [l.getD j ByteArray.empty] := by
  rw [List.take_add_one, getD_at l j ByteArray.empty h]; rfl
theorem partOf_mem {l : List (Int × ByteArray)} {k : Nat} {x : Int × ByteArray} (h : x ∈ partOf l k) : x ∈ l := List.mem_of_mem_drop (List.mem_of_mem_take h)

set_option maxHeartbeats 4000000 in
set_option maxRecDepth 100000 in
theorem commit_ok (rh ru : Int) (t : Tx) (a0 a2 a4 : Option Addr) (a1 a3 a5 : Nat) (w : World) (hT : IsTx w (.agg #[.int .i64 t.seq, .slice a0 t.info.length a1, .slice a2 t.data.length a3, .slice a4 t.rev.length a5, .bool t.h0.on, .int .i64 t.h0.left, .bool t.h1.on, .int .i64 t.h1.left, .bool t.h2.on, .int .i64 t.h2.left]) t) (hci : t.info.length ≤ a1) (hcr : t.rev.length ≤ a5) (he : sealE rh ru t = 0) :
    Calls Tryz.prog 16 #[.agg #[.int .i64 rh, .int .i64 ru], .agg #[.int .i64 t.seq, .slice a0 t.info.length a1, .slice a2 t.data.length a3, .slice a4 t.rev.length a5, .bool t.h0.on, .int .i64 t.h0.left, .bool t.h1.on, .int .i64 t.h1.left, .bool t.h2.on, .int .i64 t.h2.left]] w fun e w' => ∃ a c, e = .returned (.tuple #[.agg #[.int .i64 (sealH rh ru t), .int .i64 (sealU rh ru t)], .slice a (commitS rh ru t).length c, .int .i64 (sealE rh ru t)]) ∧ (commitS rh ru t).length ≤ c ∧ (∀ b off, a = some ⟨b, off, none⟩ → w.heap.size ≤ b) ∧ SegSt w' a (commitS rh ru t) ∧ Below w.heap.size w w' := by
  have HT := hide hT
  obtain ⟨hM, n1, hD, n2, hR, n3⟩ := IsTx.segs hT
  obtain ⟨hg, _, hPl, hPb⟩ := sealP_facts he
  have HPL := hide hPl
  have HPB := hide hPb
  have HG := hide hg
  have hsm := good_small hg
  have hg' := (goodX_iff t).1 hg
  have hbd : ∀ x ∈ t.data, 0 ≤ x.1 ∧ x.1 ≤ 11 := fun x hx => ((rises_iff _).1 hg'.2.2.1.2.1).1 x.1 (List.mem_map.2 ⟨x, hx, rfl⟩)
  have HBD := hide hbd
  have HCI := hide hci
  have HCR := hide hcr
  have HM := hide hM
  have HD := hide hD
  have HR := hide hR
  have HC : Hid (commitS rh ru t = (homeS t.data ++ putS (sealP rh ru t) (logB t) ++ (if 0 < t.rev.length + t.info.length then [flushS] else [])) ++ [writeS (1 + (sealP rh ru t).getD (logB t).length 0) (lastB t)] ++ [flushS]) := by rw [Hid, commitS, if_pos he]
  have hhl : (homeS t.data).length ≤ 13 := by
    rw [homeS, List.length_append, homeM_length]; split <;> simp <;> omega
  have HHL := hide hhl
  have hnl : (logB t).length ≤ 20 := by
    have := logB_length t hsm.1 hsm.2.2
    have h2 : needN (t.info.length : Int) (t.rev.length : Int) ≤ 20 := by unfold needN; split <;> (try split) <;> (try split) <;> (try split) <;> omega
    omega
  have HNL := hide hnl
  clear hPl hPb hg' hbd hci hcr hM hD hR n1 n2 n3 hT hhl hg hnl
  refine (callsIn_wide (n := 9)).1 ?_
  refine callsIn_of_wp_marks Tryz.func16 rfl trivial ?_ rfl
  simp only [Tryz.ntmps16, List.size_toArray, List.length_cons, List.length_nil, Nat.reduceAdd, Nat.reduceSub, Array.replicate_succ, Array.replicate_zero, List.push_toArray, List.append_toArray, List.nil_append, List.cons_append]
  gi_wp2_with fail
  refine ⟨trivial, (callsIn_wide.2 (take_any rh ru _ t _ (HT.out.below (bthen (bthen (below1 _ _) (below1 _ _)) (below1 _ _))) (by omega) (by omega))).mono ?_⟩
  rintro e w1 ⟨pa, pc, rfl, hP, hb1⟩
  rw [he]
  obtain ⟨K1, K2, K3, hs1⟩ := three1 hb1
  have KT := hide K2
  have KZ := hide K3
  have HB1 := hide (bthen (bthen (bthen (below1 _ _) (below1 _ _)) (below1 _ _)) hb1)
  have HP := hide hP
  have hsz1 : w.heap.size < w1.heap.size := by omega
  have hsz1' : w.heap.size + 1 < w1.heap.size := by omega
  obtain ⟨⟨x0, x1, x2, x3, x4, x5, x6, x7, x8, x9⟩, _⟩ := box10 K2
  have HE0 := hide he
  clear K1 K2 K3 hP he
  generalize sealP rh ru t = PS at *
  generalize hsH : sealH rh ru t = sH at *
  generalize hsU : sealU rh ru t = sU at *
  have HSH := hide hsH
  have HSU := hide hsU
  clear hsH hsU
  gi_wp2_with fail
  refine ⟨trivial, (callsIn_wide.2 (home_any a2 a3 t.data _ ((HD.out.below HB1.out).below (bthen (below1 _ _) (below1 _ _))) (by omega) HBD.out)).mono ?_⟩
  rintro e w2 ⟨v2, rfl, hO2, hb2⟩
  have KB := hide (two1 hb2)
  have KP := hide (two2 hb2)
  have hb12 : Below w1.heap.size w1 w2 := bthen (bthen (below1 _ _) (below1 _ _)) hb2
  replace KT := hide (boxKeep hb12 hsz1' KT.out)
  replace KZ := hide (boxKeep hb12 hs1 KZ.out)
  have HS := hide (HP.out.1.below hb12)
  have HO : Hid (w2.ownsRow (w1.heap.size + 1 + 1) 97 3 v2 (homeS t.data).length (cellsSt (homeS t.data))) := hide (by simpa using hO2)
  have HB2 := hide (bthen HB1.out hb12)
  have hsz2 : w1.heap.size + 1 < w2.heap.size := by have := hb2.size; simp at this; omega
  obtain ⟨ha, hc, rfl, _, _⟩ := SegSt.of_owns hO2
  clear hb2 hb12 hO2 x0 x1 x2 x3 x4 x5 x6 x7 x8 x9
  have hsz2a : w.heap.size + 1 < w2.heap.size := by omega
  have hsz2b : w.heap.size + 1 < w2.heap.size + 1 := by omega
  have hsz2c : w.heap.size + 1 < w2.heap.size + 1 + 1 := by omega
  obtain ⟨⟨x0, x1, x2, x3, x4, x5, x6, x7, x8, x9⟩, _⟩ := box10 KT.out
  gi_wp2_with fail
  obtain ⟨W0, hW0⟩ : ∃ W0, W0 = ((w2.alloc (Obj.cells #[.slice ha (homeS t.data).length hc] 42)).alloc (Obj.cells #[.func (.func 63) #[] #[.pointer (some ⟨w2.heap.size, 0, none⟩), .pointer (some ⟨w1.heap.size + 1, 0, none⟩)]] 100)).alloc (Obj.cells #[.func (.func 65) #[] #[.pointer (some ⟨w.heap.size + 1, 0, none⟩), .pointer (some ⟨w2.heap.size + 1, 0, none⟩)]] 106) := ⟨_, rfl⟩
  have hb20 : Below w2.heap.size w2 W0 := by rw [hW0]; exact bthen (bthen (below1 _ _) (below1 _ _)) (below1 _ _)
  have hz0 : W0.heap.size = w2.heap.size + 1 + 1 + 1 := by rw [hW0]; simp
  have hthree : W0.heap[w2.heap.size]? = some (Obj.cells #[.slice ha (homeS t.data).length hc] 42) ∧ W0.heap[w2.heap.size + 1]? = some (Obj.cells #[.func (.func 63) #[] #[.pointer (some ⟨w2.heap.size, 0, none⟩), .pointer (some ⟨w1.heap.size + 1, 0, none⟩)]] 100) ∧ W0.heap[w2.heap.size + 1 + 1]? = some (Obj.cells #[.func (.func 65) #[] #[.pointer (some ⟨w.heap.size + 1, 0, none⟩), .pointer (some ⟨w2.heap.size + 1, 0, none⟩)]] 106) ∧ w2.heap.size + 1 + 1 < W0.heap.size := by rw [hW0]; exact three1 (Below.refl _ _)
  rw [← hW0]
  clear hW0 x0 x1 x2 x3 x4 x5 x6 x7 x8 x9
  have bS : Hid (Boxed W0 (w2.heap.size) 42 (.slice ha (homeS t.data).length hc)) := hthree.1
  have bE : Hid (Boxed W0 (w2.heap.size + 1) 100 (.func (.func 63) #[] #[.pointer (some ⟨w2.heap.size, 0, none⟩), .pointer (some ⟨w1.heap.size + 1, 0, none⟩)])) := hthree.2.1
  have bM : Hid (Boxed W0 (w2.heap.size + 1 + 1) 106 (.func (.func 65) #[] #[.pointer (some ⟨w.heap.size + 1, 0, none⟩), .pointer (some ⟨w2.heap.size + 1, 0, none⟩)])) := hthree.2.2.1
  have hLS : StepsAt W0 (w1.heap.size + 1 + 1) (w2.heap.size) (homeS t.data ++ putS PS []) := by
    rw [show putS PS [] = [] from by simp [putS], List.append_nil]
    exact ⟨_, bS.out, owns_keep HO.out hb20⟩
  have hLP : PlacesAt W0 (w1.heap.size + 1 + 1) (w1.heap.size + 1) (PS.drop ([] : List ByteArray).length) := by
    refine ⟨pa, pc, boxKeep hb20 hsz2 KP.out, HS.out.below hb20, ?_, HP.out.2.2, ?_⟩
    · intro b off e
      rcases HP.out.1 with e0 | ⟨b', off', e', hlt, _⟩
      · have := HPL.out; rw [e0] at this; simp at this
      · rw [e] at e'; cases e'; omega
    · intro e
      rcases HP.out.1 with e0 | ⟨b', off', e', hlt, _⟩
      · exact e0
      · rw [e] at e'; cases e'
  have HLOG : Hid (LogAt W0 (w1.heap.size + 1 + 1) (w2.heap.size) (w1.heap.size + 1) (homeS t.data) PS []) := ⟨hLS, hLP, Nat.zero_le _⟩
  replace KT := hide (boxKeep hb20 hsz2a KT.out)
  replace KZ := hide (boxKeep hb20 (by omega) KZ.out)
  replace KB := hide (boxKeep hb20 (by omega) KB.out)
  have HB0 := hide (bthen HB2.out hb20)
  have hbz : w1.heap.size + 1 + 1 ≤ W0.heap.size := by omega
  have HZ0 := hide hz0
  clear hb20 hthree hLS hLP HO HS HP KP bS hz0
  refine ⟨trivial, (chunkI_in Fence.wide 8 trivial rfl a4 t.rev.length a5 W0).mono ?_⟩
  rintro e W1 ⟨rfl, hW1⟩
  have hb01 : Below W0.heap.size W0 W1 := by rw [hW1]; exact bthen (below1 _ _) (below1 _ _)
  have hz1 : W1.heap.size = W0.heap.size + 1 + 1 := by rw [hW1]; simp
  have cS : Boxed W1 W0.heap.size 23 (.slice a4 t.rev.length a5) := by rw [hW1]; exact two1 (Below.refl _ _)
  have cN : Boxed W1 (W0.heap.size + 1) 3 (.int .i64 20) := by rw [hW1]; exact two2 (Below.refl _ _)
  have HZ1 := hide hz1
  clear hW1 hz1
  have hcap1 : 0 < t.rev.length → t.rev.length ≤ a5 := fun _ => HCR.out
  have haddr1 : 0 < t.rev.length → ∃ b off, a4 = some ⟨b, off, none⟩ := fun hp => by
    rcases HR.out with e | ⟨b, off, e, _⟩
    · rw [e] at hp; simp at hp
    · exact ⟨b, off, e⟩
  have HA1 := hide haddr1
  have HC1 := hide hcap1
  clear haddr1 hcap1
  gi_wp2_with fail
  refine range_counted (F := Fence.wide) (n := 9) rfl (by decide) (gf := 111) (lb := #[.pointer (some ⟨W0.heap.size, 0, none⟩), .pointer (some ⟨W0.heap.size + 1, 0, none⟩)]) rfl trivial (enters_of Tryz.func111 (by kernel_rfl) rfl)
    (chunkI_counts Fence.wide 8 trivial rfl (by decide) W0.heap.size (W0.heap.size + 1) t.rev.length a5 a4 (by omega) HC1.out HA1.out W1 cS cN) (Below.refl _ _) KeepsB.trans KeepsB.put (fun _ => rfl)
    (fun k W => LogAt W (w1.heap.size + 1 + 1) (w2.heap.size) (w1.heap.size + 1) (homeS t.data) PS (if k = 0 then [] else revB t) ∧ Fr (w2.heap.size) (w1.heap.size + 1) (w1.heap.size + 1 + 1) W0 W ∧ Boxed W W0.heap.size 23 (.slice a4 t.rev.length a5) ∧ Boxed W (W0.heap.size + 1) 3 (.int .i64 20))
    ?own ?drew ?start ?a1 ?assign ?body ?done
  case own =>
    intro k A B row hI hgr hr
    have hr2 : ∀ r, row = some r → ∃ o : Obj, A.heap[r]? = some o ∧ o.isCells = false := fun r e => (hr r e).2
    refine ⟨hI.1.kept hgr hr2, hI.2.1.kept hgr (fun r e => by have := (hr r e).1; have := HZ1.out; omega) hbz, hI.2.2.1.kept hgr ?_, hI.2.2.2.kept hgr ?_⟩
    · intro e; obtain ⟨o, ho, hc⟩ := hr2 _ e.symm; rw [show A.heap[W0.heap.size]? = _ from hI.2.2.1] at ho; cases ho; cases hc
    · intro e; obtain ⟨o, ho, hc⟩ := hr2 _ e.symm; rw [show A.heap[W0.heap.size + 1]? = _ from hI.2.2.2] at ho; cases ho; cases hc
  case drew =>
    intro k V hI
    exact ⟨hI.1.below (Below.refl _ _).drew, hI.2.1.trans (Fr.of_below (Below.refl _ _).drew (by have := hI.2.1.size; omega)), hI.2.2.1, hI.2.2.2⟩
  case start =>
    refine ⟨?_, Fr.of_below hb01 hbz, cS, cN⟩
    rw [if_pos rfl]
    exact HLOG.out.below hb01
  case assign =>
    intro l k W K hK
    gi_wp2
    exact hK
  case body =>
    intro l k W hk hI
    obtain ⟨hL, hF, c1, c2⟩ := hI
    have hk0 : k = 0 ∧ 0 < t.rev.length := by unfold partN at hk; omega
    obtain ⟨rfl, hp⟩ := hk0
    obtain ⟨b, off, rfl⟩ := HA1.out hp
    have hpl : partL t.rev.length 20 0 = t.rev.length := by unfold partL; split <;> omega
    have bMw := (hF.boxed bM.out (by decide) (by omega) (by omega)).cell
    rw [if_pos rfl] at hL
    have hW0 := hF.size
    have hps : ([] : List ByteArray).length < PS.length := by have := HPL.out; simp; omega
    have hsg : SegI W (some ⟨b, off, none⟩) t.rev := by
      have hlt := HR.out
      rcases hlt with e | ⟨b', off', e, hl, hc⟩
      · exact .inl e
      · cases e
        refine .inr ⟨b, off, rfl, Nat.lt_of_lt_of_le (Nat.lt_of_lt_of_le hl HB0.out.size) hF.size, fun i hi => ?_⟩
        have hbw : b < w.heap.size := hl
        exact (World.cell?_of_block (w := W0) (a := ⟨b, off + i, none⟩) (hF.low b (by omega) (by omega) (by omega))).trans (cellKeep HB0.out hl (hc i hi))
    have hnl := HNL.out
    have hKT := hF.box _ _ KT.out (fun cs fr e => by simp only [Obj.cells.injEq] at e; exact absurd e.2.1 (by decide)) (by omega) (by omega)
    have hsq := (box10 hKT).1.1
    have hen := (hF.boxed bE.out (by decide) (by omega) (by omega)).cell
    have hpl2 : PlacesAt W (w1.heap.size + 1 + 1) (w1.heap.size + 1) (PS.getD ([] : List ByteArray).length 0 :: PS.drop (([] : List ByteArray).length + 1)) := by
      have := hL.2.1
      rw [drop_getD hps] at this
      exact this
    have hln : (homeS t.data ++ putS PS ([])).length ≤ 900 := by
      rw [List.length_append, putS_length (Nat.le_of_lt hps)]
      have := HHL.out; have := HPL.out; omega
    gi_wp2_with fail
    refine ⟨trivial, (CallsIn.inRound l (callsIn_wide.2 (emark_any (w2.heap.size) (w1.heap.size + 1) (w1.heap.size + 1 + 1) (w.heap.size + 1) (w2.heap.size + 1) (homeS t.data ++ putS PS ([])) (PS.getD ([] : List ByteArray).length 0) (PS.drop (([] : List ByteArray).length + 1)) ⟨3, 0, 0, [], t.rev⟩ _ t.seq W ⟨none, 0, some ⟨b, off, none⟩, _, rfl, .inl rfl, hsg, Nat.zero_le _, by show t.rev.length ≤ maxLen; unfold maxLen; omega⟩ hsq (by have := hF.size; have := HZ0.out; omega) hen (by have := hF.size; have := HZ0.out; omega) hL.1 hpl2 hln (by have := HPL.out; have := hnl; simp; omega) (HPB.out _).1 (HPB.out _).2 (by have := hF.size; omega) (by omega) (by omega)))).mono ?_⟩
    rintro e W' ⟨⟨v, rfl⟩, k1, k2, k3⟩
    clear hKT hsq hen hpl2 hln
    gi_wp2
    have hz := HZ0.out
    refine ⟨k3.others hL.1.boxed hL.2.1.boxed, KeepsB.of_fr k3 c1 c2 (by decide) (by decide) (by omega) (by omega) (by omega) (by omega), ?_, hF.trans k3, k3.boxed c1 (by decide) (by omega) (by omega), k3.boxed c2 (by decide) (by omega) (by omega)⟩
    rw [revB, if_neg (by omega)]
    exact LogAt.next (d := []) hps k1 k2
  case done =>
    intro D W hD hI hK
    obtain ⟨hL, hF, _, _⟩ := hI
    have hL2 : LogAt W (w1.heap.size + 1 + 1) (w2.heap.size) (w1.heap.size + 1) (homeS t.data) PS (revB t) := by
      by_cases h0 : t.rev.length = 0
      · have e1 : partN t.rev.length 20 = 0 := by rw [h0]; rfl
        have e2 : revB t = [] := by rw [revB, if_pos h0]
        rw [e1, if_pos rfl] at hL
        rw [e2]; exact hL
      · have e1 : partN t.rev.length 20 ≠ 0 := by unfold partN; omega
        rw [if_neg e1] at hL
        exact hL
    have HLW := hide hL2
    have HFW := hide hF
    have HKD := hide hK
    have hDs : D < W.heap.size := (Array.getElem?_eq_some_iff.1 hK).1
    have hW0s := hF.size
    have hDz : W0.heap.size < D := by have := HZ1.out; omega
    have hKT := hF.box _ _ KT.out (fun cs fr e => by simp only [Obj.cells.injEq] at e; exact absurd e.2.1 (by decide)) (by omega) (by omega)
    obtain ⟨⟨x0, x1, x2, x3, x4, x5, x6, x7, x8, x9⟩, _⟩ := box10 hKT
    clear hL hL2 hF hK hKT cS cN hb01 HLOG
    gi_wp2_with fail
    refine ⟨trivial, (chunkC_in Fence.wide 8 trivial rfl a0 t.info.length a1 W).mono ?_⟩
    rintro e W2 ⟨rfl, hW2⟩
    have hb02 : Below W.heap.size W W2 := by rw [hW2]; exact bthen (below1 _ _) (below1 _ _)
    have hz2 : W2.heap.size = W.heap.size + 1 + 1 := by rw [hW2]; simp
    have dS : Boxed W2 W.heap.size 22 (.slice a0 t.info.length a1) := by rw [hW2]; exact two1 (Below.refl _ _)
    have dN : Boxed W2 (W.heap.size + 1) 3 (.int .i64 10) := by rw [hW2]; exact two2 (Below.refl _ _)
    have HZ2 := hide hz2
    clear hW2 hz2 x0 x1 x2 x3 x4 x5 x6 x7 x8 x9
    have haddr2 : 0 < t.info.length → ∃ b off, a0 = some ⟨b, off, none⟩ := fun hp => by
      rcases HM.out with e | ⟨b, off, e, _⟩
      · rw [e] at hp; simp at hp
      · exact ⟨b, off, e⟩
    have HA2 := hide haddr2
    clear haddr2
    gi_wp2_with fail
    refine range_counted (F := Fence.wide) (n := 9) rfl (by decide) (gf := 112) (lb := #[.pointer (some ⟨W.heap.size, 0, none⟩), .pointer (some ⟨W.heap.size + 1, 0, none⟩)]) rfl trivial (enters_of Tryz.func112 (by kernel_rfl) rfl)
      (chunkC_counts Fence.wide 8 trivial rfl (by decide) W.heap.size (W.heap.size + 1) t.info.length a1 a0 (by omega) (fun _ => HCI.out) HA2.out W2 dS dN) (Below.refl _ _) KeepsB.trans KeepsB.put (fun _ => rfl)
      (fun k V => LogAt V (w1.heap.size + 1 + 1) (w2.heap.size) (w1.heap.size + 1) (homeS t.data) PS (revB t ++ metaB t.seq t.info k) ∧ Fr (w2.heap.size) (w1.heap.size + 1) (w1.heap.size + 1 + 1) W0 V ∧ Boxed V W.heap.size 22 (.slice a0 t.info.length a1) ∧ Boxed V (W.heap.size + 1) 3 (.int .i64 10) ∧ V.heap[D]? = some (.deferred (some [])))
      ?own2 ?drew2 ?start2 ?a2 ?assign2 ?body2 ?done2
    case own2 =>
      intro k A B row hI hgr hr
      have hr2 : ∀ r, row = some r → ∃ o : Obj, A.heap[r]? = some o ∧ o.isCells = false := fun r e => (hr r e).2
      have hz2 := HZ2.out
      refine ⟨hI.1.kept hgr hr2, hI.2.1.kept hgr (fun r e => by have := (hr r e).1; omega) hbz, hI.2.2.1.kept hgr ?_, hI.2.2.2.1.kept hgr ?_, (hgr.block D (Array.getElem?_eq_some_iff.1 hI.2.2.2.2).1 (fun e => by have := (hr D e.symm).1; omega)).trans hI.2.2.2.2⟩
      · intro e; obtain ⟨o, ho, hc⟩ := hr2 _ e.symm; rw [show A.heap[W.heap.size]? = _ from hI.2.2.1] at ho; cases ho; cases hc
      · intro e; obtain ⟨o, ho, hc⟩ := hr2 _ e.symm; rw [show A.heap[W.heap.size + 1]? = _ from hI.2.2.2.1] at ho; cases ho; cases hc
    case drew2 =>
      intro k V hI
      exact ⟨hI.1.below (Below.refl _ _).drew, hI.2.1.trans (Fr.of_below (Below.refl _ _).drew (by have := hI.2.1.size; omega)), hI.2.2.1, hI.2.2.2.1, hI.2.2.2.2⟩
    case start2 =>
      refine ⟨?_, HFW.out.trans (Fr.of_below hb02 (by omega)), dS, dN, boxKeep hb02 hDs HKD.out⟩
      rw [show metaB t.seq t.info 0 = [] from rfl, List.append_nil]
      exact HLW.out.below hb02
    case assign2 =>
      intro l k V K hK
      gi_wp2
      exact hK
    case body2 =>
      intro l k V hk hI
      obtain ⟨hL, hF, c1, c2, hKD⟩ := hI
      have hp : 0 < t.info.length := by unfold partN at hk; omega
      obtain ⟨b, off, rfl⟩ := HA2.out hp
      have hVs := hF.size
      have hsgP : SegW V (some ⟨b, off + 10 * k * 2, none⟩) (partOf t.info k) := segW_part (HM.out.low HB0.out hF (by omega) (by omega) (by omega)) k
      have hplen := partOf_length t.info k
      have hpsz : ∀ x ∈ partOf t.info k, x.2.size ≤ maxLen := by
        intro x hx
        have hg' := ((goodX_iff t).1 HG.out).2.1.1
        unfold fitsAll at hg'
        have := List.all_eq_true.1 hg' x (partOf_mem hx)
        simp [fitsB] at this
        unfold maxLen; omega
      have hpl10 : (partOf t.info k).length ≤ 10 := by rw [partOf, List.length_take]; omega
      have hmono := metaB_mono t.seq t.info (show k + 1 ≤ partN t.info.length 10 by omega)
      have hdd : (revB t).length + (metaB t.seq t.info (k + 1)).length ≤ (logB t).length := by rw [logB, List.length_append]; omega
      have hsucc := metaB_succ t.seq t.info k
      obtain ⟨dd, hddE⟩ : ∃ dd, dd = revB t ++ metaB t.seq t.info k := ⟨_, rfl⟩
      have hdl0 : dd.length + (partB t.seq t.info k).length ≤ (logB t).length := by rw [hddE, List.length_append]; rw [hsucc, List.length_append] at hdd; omega
      have HEND : Hid (revB t ++ metaB t.seq t.info (k + 1) = dd ++ [encT ⟨2, t.seq, 0, tagsOf (partOf t.info k), []⟩] ++ textsOf (partOf t.info k)) := by
        rw [Hid, hsucc, ← List.append_assoc, ← hddE, partB]; simp
      rw [← hddE] at hL
      have HPBL : Hid (dd.length + (1 + (textsOf (partOf t.info k)).length) ≤ (logB t).length) := by
        have hpB : (partB t.seq t.info k).length = 1 + (textsOf (partOf t.info k)).length := by rw [partB, List.length_cons]; omega
        rw [Hid, ← hpB]; exact hdl0
      clear hdl0
      have HSG := hide hsgP
      have HSZ := hide hpsz
      have HLV := hide hL
      have HFV := hide hF
      clear hsgP hpsz hmono hdd hsucc hddE hL hF
      rw [← hplen]
      clear hplen
      generalize partOf t.info k = part at *
      gi_wp2_with fail
      refine ⟨trivial, (CallsIn.inRound l (callsIn_wide.2 (sealEscape_any (some ⟨b, off + 10 * k * 2, none⟩) part.length part V HSG.out (by omega) HSZ.out))).mono ?_⟩
      rintro e V1 ⟨v1, v2, rfl, hG, hTx, hb1⟩
      have hL1 := HLV.out.below hb1
      have hF1 := HFV.out.trans (Fr.of_below hb1 (by omega))
      have hf01 : Fr (w2.heap.size) (w1.heap.size + 1) (w1.heap.size + 1 + 1) V V1 := Fr.of_below hb1 (by omega)
      obtain ⟨ga, gc, rfl, hGs, _⟩ := SegG.of_owns hG
      obtain ⟨ta, tc, hte, hTs, _⟩ := SegX.of_owns hTx
      subst hte
      have HTL : Hid ((textsOf part).length = part.length) := by rw [Hid, textsOf, List.length_map]
      have HGL : Hid ((tagsOf part).length = part.length) := by rw [Hid, tagsOf, List.length_map]
      have hdl : dd.length < PS.length := by have := HPL.out; have := HPBL.out; omega
      have HDL := hide hdl
      have hnl := HNL.out
      have hKT := hF1.box _ _ KT.out (fun cs fr e => by simp only [Obj.cells.injEq] at e; exact absurd e.2.1 (by decide)) (by omega) (by omega)
      have hsq := (box10 hKT).1.1
      have hen := (hF1.boxed bE.out (by decide) (by omega) (by omega)).cell
      have hpl2 : PlacesAt V1 (w1.heap.size + 1 + 1) (w1.heap.size + 1) (PS.getD (dd).length 0 :: PS.drop ((dd).length + 1)) := by
        have := hL1.2.1
        rw [drop_getD hdl] at this
        exact this
      have hln : (homeS t.data ++ putS PS (dd)).length ≤ 900 := by
        rw [List.length_append, putS_length (Nat.le_of_lt hdl)]
        have := HHL.out; have := HPL.out; omega
      have hmk := (hF1.boxed bM.out (by decide) (by omega) (by omega)).cell
      gi_wp2_with fail
      refine ⟨trivial, (CallsIn.inRound l (callsIn_wide.2 (emark_any (w2.heap.size) (w1.heap.size + 1) (w1.heap.size + 1 + 1) (w.heap.size + 1) (w2.heap.size + 1) (homeS t.data ++ putS PS (dd)) (PS.getD (dd).length 0) (PS.drop ((dd).length + 1)) ⟨2, 0, 0, tagsOf part, []⟩ _ t.seq V1 ⟨ga, gc, none, 0, rfl, hGs, .inl rfl, by show (tagsOf part).length ≤ maxLen; rw [HGL.out]; unfold maxLen; omega, Nat.zero_le _⟩ hsq (by have := hF1.size; have := HZ0.out; omega) hen (by have := hF1.size; have := HZ0.out; omega) hL1.1 hpl2 hln (by have := HPL.out; have := hnl; simp; omega) (HPB.out _).1 (HPB.out _).2 (by have := hF1.size; omega) (by omega) (by omega)))).mono ?_⟩
      rintro e V2 ⟨⟨v, rfl⟩, k1, k2, k3⟩
      have hL2 : LogAt V2 (w1.heap.size + 1 + 1) (w2.heap.size) (w1.heap.size + 1) (homeS t.data) PS (dd ++ [encT ⟨2, t.seq, 0, tagsOf part, []⟩]) := LogAt.next hdl k1 k2
      have hF2 := hF1.trans k3
      have hTx2 : OwnT V2 V.heap.size (.slice ta (textsOf part).length tc) (textsOf part) := owns_fr hTx k3 (by decide) (by have := HZ0.out; omega) (by omega)
      have HL2 := hide hL2
      have HF2 := hide hF2
      have HF02 := hide (hf01.trans k3)
      have HTX := hide hTx2
      have hV1s := hb1.size
      clear hKT hsq hen hpl2 hln hmk k1 k2 hL2 hF2 hL1 hF1 hf01 hTx hTx2 hG hGs hTs HGL
      have HD2 : Hid ((dd ++ [encT ⟨2, t.seq, 0, tagsOf part, []⟩]).length + (textsOf part).length < PS.length) := by
        rw [Hid, List.length_append]; have := HPBL.out; have := HPL.out; simp; omega
      have hTXb : (textsOf part).length ≤ 20 := by have := HPBL.out; have := HNL.out; omega
      clear hdl HDL HPBL HTL
      generalize dd ++ [encT ⟨2, t.seq, 0, tagsOf part, []⟩] = d2 at *
      generalize textsOf part = TX at *
      gi_wp2
      gi_loopw [60] (fun i wr => ∃ j : Nat, j ≤ TX.length ∧ i = .int .i64 j ∧ Hid (LogAt wr (w1.heap.size + 1 + 1) (w2.heap.size) (w1.heap.size + 1) (homeS t.data) PS (d2 ++ TX.take j)) ∧ Hid (Fr (w2.heap.size) (w1.heap.size + 1) (w1.heap.size + 1 + 1) V2 wr)) (fun i _ => TX.length - (intOf i).toNat)
      case atStart => exact ⟨0, Nat.zero_le _, rfl, by rw [List.take_zero, List.append_nil]; exact HL2, (Fr.of_below (Below.refl _ _) (by have := HF2.out.size; omega))⟩
      case round =>
        obtain ⟨j, hj, rfl, hLr, hFr⟩ := hrel
        have hV2s := HF2.out.size
        by_cases hlt : j < TX.length
        · have hlt' : (j : Int) < (TX.length : Int) := by omega
          have hTr : OwnT wr V.heap.size (.slice ta TX.length tc) TX := owns_fr HTX.out hFr.out (by decide) (by have := HZ0.out; omega) (by omega)
          obtain ⟨ta', tc', ee, hS, _⟩ := SegX.of_owns hTr
          obtain ⟨rfl, rfl⟩ : ta = ta' ∧ tc = tc' := by simpa using ee
          obtain ⟨b2, off2, rfl, hb2, hc2⟩ := hS.resolve_left (by intro e; rw [e] at hlt; simp at hlt)
          have hcell := hc2 j hlt
          have hen := ((HF2.out.trans hFr.out).boxed bE.out (by decide) (by omega) (by omega)).cell
          have hdl : (d2 ++ TX.take j).length < PS.length := by rw [List.length_append, List.length_take]; have := HD2.out; omega
          have hpl2 : PlacesAt wr (w1.heap.size + 1 + 1) (w1.heap.size + 1) (PS.getD (d2 ++ TX.take j).length 0 :: PS.drop ((d2 ++ TX.take j).length + 1)) := by
            have := hLr.out.2.1
            rw [drop_getD hdl] at this
            exact this
          have hln : (homeS t.data ++ putS PS (d2 ++ TX.take j)).length ≤ 900 := by
            rw [List.length_append, putS_length (Nat.le_of_lt hdl)]
            have := HHL.out; have := HPL.out; have := HNL.out; omega
          have HDL := hide hdl
          have HPL2 := hide hpl2
          have HLN := hide hln
          have HTN := hide (take_next TX hlt)
          clear hTr hS hc2 ee hdl hpl2 hln
          generalize TX.getD j ByteArray.empty = tj at *
          gi_wp2_with fail
          refine ⟨trivial, (CallsIn.inRound l (callsIn_wide.2 (enter_any (w2.heap.size) (w1.heap.size + 1) (w1.heap.size + 1 + 1) (homeS t.data ++ putS PS (d2 ++ TX.take j)) (PS.getD (d2 ++ TX.take j).length 0) (PS.drop ((d2 ++ TX.take j).length + 1)) tj wr hLr.out.1 HPL2.out HLN.out (by have := HPL.out; have := HNL.out; simp; omega) (HPB.out _).1 (HPB.out _).2 (by have := hFr.out.size; omega) (by omega) (by omega)))).mono ?_⟩
          rintro e V3 ⟨⟨v, rfl⟩, k1, k2, k3'⟩
          have HLn := hide (LogAt.next HDL.out k1 k2)
          have HFn := hide (hFr.out.trans k3')
          clear k1 k2 k3' HPL2 HLN hLr hFr hen hcell
          gi_wp2
          go_roundw
          case rel => exact ⟨j + 1, by omega, by go_num, by rw [HTN.out, ← List.append_assoc]; exact HLn, HFn⟩
          case measure => simp [intOf]; omega
        · have hlt' : ¬ ((j : Int) < (TX.length : Int)) := by omega
          have e : j = TX.length := by omega
          subst e
          rw [List.take_length] at hLr
          gi_wp2
          have hz := HZ0.out
          have hff := HF02.out.trans hFr.out
          refine ⟨hff.others HLV.out.1.boxed HLV.out.2.1.boxed, KeepsB.of_fr hff c1 c2 (by decide) (by decide) (by omega) (by omega) (by omega) (by omega), ?_, HF2.out.trans hFr.out, hff.boxed c1 (by decide) (by omega) (by omega), hff.boxed c2 (by decide) (by omega) (by omega), hff.box D _ hKD (fun cs fr e => by cases e) (by omega) (by omega)⟩
          rw [HEND.out]
          exact hLr.out
    case done2 =>
      intro D2 W3 hD2 hI hK2
      obtain ⟨hL3', hF3, _, _, hKD⟩ := hI
      have hL3 : LogAt W3 (w1.heap.size + 1 + 1) (w2.heap.size) (w1.heap.size + 1) (homeS t.data) PS (logB t) := hL3'
      have hdl3 : (logB t).length < PS.length := by have := HPL.out; omega
      have hW3s := hF3.size
      clear hL3'
      have hnl := HNL.out
      have hKT := hF3.box _ _ KT.out (fun cs fr e => by simp only [Obj.cells.injEq] at e; exact absurd e.2.1 (by decide)) (by omega) (by omega)
      have hsq := (box10 hKT).1.1
      have hen := (hF3.boxed bE.out (by decide) (by omega) (by omega)).cell
      have hpl2 : PlacesAt W3 (w1.heap.size + 1 + 1) (w1.heap.size + 1) (PS.getD (logB t).length 0 :: PS.drop ((logB t).length + 1)) := by
        have := hL3.2.1
        rw [drop_getD hdl3] at this
        exact this
      have hln : (homeS t.data ++ putS PS (logB t)).length ≤ 900 := by
        rw [List.length_append, putS_length (Nat.le_of_lt hdl3)]
        have := HHL.out; have := HPL.out; omega
      have hKTc := hKT
      obtain ⟨⟨x0, x1, x2, x3, x4, x5, x6, x7, x8, x9⟩, _⟩ := box10 hKTc
      clear hKT hKTc hsq hen
      have hln20 : (homeS t.data ++ putS PS (logB t)).length ≤ 40 := by
        rw [List.length_append, putS_length (Nat.le_of_lt hdl3)]
        have := HHL.out; have := HNL.out; omega
      have hz0 := HZ0.out
      have HZZ := hide hz0
      clear hz0
      have hzz : w2.heap.size + 1 + 1 < W0.heap.size := by have := HZZ.out; omega
      have hD2z : D < D2 := by have := HZ2.out; omega
      by_cases hz : 0 < t.rev.length + t.info.length
      · have hz' : (0 : Int) < (t.rev.length : Int) + (t.info.length : Int) := by omega
        gi_wp2_with fail
        refine ⟨trivial, (callsIn_wide.2 (safe_any (w2.heap.size) (w2.heap.size) (w1.heap.size + 1 + 1) (homeS t.data ++ putS PS (logB t)) W3 hL3.1 hln (by omega))).mono ?_⟩
        rintro e W4 ⟨⟨v4, rfl⟩, k1, k3'⟩
        have k3 : Fr (w2.heap.size) (w1.heap.size + 1) (w1.heap.size + 1 + 1) W3 W4 := k3'.weak
        have hF4 := hF3.trans k3
        have hP4 := hpl2.fr k3' (by omega) (by omega)
        have hK14 := k3.box D _ hKD (fun cs fr e => by cases e) (by omega) (by omega)
        have hK24 := k3.box D2 _ hK2 (fun cs fr e => by cases e) (by omega) (by omega)
        have hlnT : (homeS t.data ++ putS PS (logB t) ++ [flushS]).length ≤ 890 := by rw [List.length_append]; show _ + 1 ≤ 890; omega
        clear k3 k3' hL3 hF3 hKD hK2 hpl2 hln x0 x1 x2 x3 x4 x5 x6 x7 x8 x9
        have hmk := (hF4.boxed bM.out (by decide) (by omega) (by omega)).cell
        have hKT := hF4.box _ _ KT.out (fun cs fr e => by simp only [Obj.cells.injEq] at e; exact absurd e.2.1 (by decide)) (by omega) (by omega)
        have hsq := (box10 hKT).1.1
        have hen := (hF4.boxed bE.out (by decide) (by omega) (by omega)).cell
        gi_wp2_with fail
        refine ⟨trivial, (callsIn_wide.2 (emark_any (w2.heap.size) (w1.heap.size + 1) (w1.heap.size + 1 + 1) (w.heap.size + 1) (w2.heap.size + 1) (homeS t.data ++ putS PS (logB t) ++ [flushS]) (PS.getD (logB t).length 0) (PS.drop ((logB t).length + 1)) ⟨4, 0, 0, [], []⟩ _ t.seq W4 ⟨none, 0, none, 0, rfl, .inl rfl, .inl rfl, Nat.zero_le _, Nat.zero_le _⟩ hsq (by have := hF4.size; have := HZ0.out; omega) hen (by have := hF4.size; have := HZ0.out; omega) k1 hP4 (by omega) (by have := HPL.out; have := HNL.out; simp; omega) (HPB.out _).1 (HPB.out _).2 (by have := hF4.size; omega) (by omega) (by omega))).mono ?_⟩
        rintro e W5 ⟨⟨v5, rfl⟩, k1, k2, k3⟩
        have hF5 := hF4.trans k3
        have hK15 := k3.box D _ hK14 (fun cs fr e => by cases e) (by omega) (by omega)
        have hK25 := k3.box D2 _ hK24 (fun cs fr e => by cases e) (by omega) (by omega)
        have hln5 : (homeS t.data ++ putS PS (logB t) ++ [flushS] ++ [writeS (1 + PS.getD (logB t).length 0) (encT ⟨4, t.seq, 0, [], []⟩)]).length ≤ 900 := by
          rw [List.length_append]; show _ + 1 ≤ 900; omega
        have HS5 := hide k1
        have HF5 := hide hF5
        have HK15 := hide hK15
        have HK25 := hide hK25
        have HLN5 := hide hln5
        clear hmk hKT hsq hen k1 k2 k3 hF5 hK15 hK25 hln5 hlnT
        gi_wp2_with fail
        refine ⟨trivial, (callsIn_wide.2 (safe_any (w2.heap.size) (w1.heap.size + 1) (w1.heap.size + 1 + 1) _ W5 HS5.out HLN5.out (by have := HF5.out.size; omega))).mono ?_⟩
        rintro e W6 ⟨⟨v6, rfl⟩, k1, k3⟩
        have HF6 := hide (HF5.out.trans k3)
        have HK16 := hide (k3.box D _ HK15.out (fun cs fr e => by cases e) (by omega) (by omega))
        have HK26 := hide (k3.box D2 _ HK25.out (fun cs fr e => by cases e) (by omega) (by omega))
        have hfin : commitS rh ru t = homeS t.data ++ putS PS (logB t) ++ [flushS] ++ [writeS (1 + PS.getD (logB t).length 0) (encT ⟨4, t.seq, 0, [], []⟩)] ++ [flushS] := by rw [HC.out, if_pos hz]; rfl
        rw [← hfin] at k1
        have HFIN := hide hfin
        obtain ⟨v6', b6, o6⟩ := k1
        have HO6 := hide o6
        obtain ⟨fa, fc, rfl, hseg, hfrom⟩ := SegSt.of_owns o6
        have HSG := hide hseg
        have HFR := hide hfrom
        have c6 := b6.cell
        have hKB := HF6.out.box _ _ KB.out (fun cs fr e => by simp only [Obj.cells.injEq] at e; exact absurd e.2.1 (by decide)) (by omega) (by omega)
        have hKZ := HF6.out.box _ _ KZ.out (fun cs fr e => by simp only [Obj.cells.injEq] at e; exact absurd e.2.1 (by decide)) (by omega) (by omega)
        obtain ⟨⟨y0, y1⟩, _⟩ := box2 hKB
        obtain ⟨⟨z0, z1⟩, zf0, zf1⟩ := box2 hKZ
        have HW6 := hide HF6.out.size
        have KZ6 := hide hKZ
        clear k3 hfin b6 o6 hseg hfrom hKB hKZ
        gi_wp2
        gi_region
        all_goals
          gi_wp2
          have hset := box2Set KZ6.out (.int .i64 sH) (.int .i64 sU)
          have q2 : ((W6.setCell ⟨w.heap.size + 1 + 1, 0, none⟩ (.int .i64 sH)).setCell ⟨w.heap.size + 1 + 1, 1, none⟩ (.int .i64 sU)).drew.heap[D2]? = some (.deferred (some [])) := (Below.heap_setCell _ _ _ _ (by simp; omega)).trans ((Below.heap_setCell _ _ _ _ (by simp; omega)).trans HK26.out)
          have q1 : (((W6.setCell ⟨w.heap.size + 1 + 1, 0, none⟩ (.int .i64 sH)).setCell ⟨w.heap.size + 1 + 1, 1, none⟩ (.int .i64 sU)).drew.putObj D2 (.deferred none)).heap[D]? = some (.deferred (some [])) := (World.putObj_heap_other (by omega)).trans ((Below.heap_setCell _ _ _ _ (by simp; omega)).trans ((Below.heap_setCell _ _ _ _ (by simp; omega)).trans HK16.out))
          have hbase6 : w1.heap.size + 1 + 1 ≤ W6.heap.size := by have := HW6.out; omega
          have hO9 := ownsRow_putObj (ownsRow_putObj (owns_keep (ownsRow_setCell_below (ownsRow_setCell_below HO6.out (a := ⟨w.heap.size + 1 + 1, 0, none⟩) (by simp; omega) (.int .i64 sH)) (a := ⟨w.heap.size + 1 + 1, 1, none⟩) (by simp; omega) (.int .i64 sU)) (Below.refl _ _).drew) (.deferred none) q2 rfl) (.deferred none) q1 rfl
          have hB9 := ((((HB0.out.trans (HF6.out.below (by omega) (by omega) (by omega))).setCell (p := ⟨w.heap.size + 1 + 1, 0, none⟩) (by simp; omega) (.int .i64 sH)).setCell (p := ⟨w.heap.size + 1 + 1, 1, none⟩) (by simp; omega) (.int .i64 sU)).drew.trans (belowK_b (w := w) (Nat.le_refl _) _ D2 _ (.deferred none) (by omega) q2 rfl rfl)).trans (belowK_b (w := w) (Nat.le_refl _) _ D _ (.deferred none) (by omega) q1 rfl rfl)
          have hZ9 : ((((W6.setCell ⟨w.heap.size + 1 + 1, 0, none⟩ (.int .i64 sH)).setCell ⟨w.heap.size + 1 + 1, 1, none⟩ (.int .i64 sU)).drew.putObj D2 (.deferred none)).putObj D (.deferred none)).heap[w.heap.size + 1 + 1]? = some (.cells #[.int .i64 sH, .int .i64 sU] 41 (0, 0)) := (World.putObj_heap_other (by omega)).trans ((World.putObj_heap_other (by omega)).trans hset)
          obtain ⟨⟨u0, u1⟩, _⟩ := box2 hZ9
          refine ⟨by simp, .inl ⟨D2, _, rfl, run_takeDeferred q2, ?_⟩⟩
          refine ⟨by simp, .inl ⟨D, _, rfl, run_takeDeferred q1, ?_⟩⟩
          refine ⟨.tuple #[.agg #[.int .i64 sH, .int .i64 sU], .slice fa (commitS rh ru t).length fc, .int .i64 0], by simp [results, Tryz.results16, go_sem, u0, u1], ?_⟩
          have hcap := own_cap hO9 rfl
          obtain ⟨fa', fc', e9, hs9, hf9⟩ := SegSt.of_owns hO9
          obtain ⟨rfl, rfl⟩ : fa = fa' ∧ fc = fc' := by simpa using e9
          exact ⟨fa, fc, by rw [HSH.out, HSU.out, HE0.out], hcap, fun b off e => by have := hf9 b off e; have := HB0.out.size; omega, hs9, hB9⟩
      · have hz' : ¬ ((0 : Int) < (t.rev.length : Int) + (t.info.length : Int)) := by omega
        have hlnT : (homeS t.data ++ putS PS (logB t)).length ≤ 890 := by have := hln20; omega
        have hmk := (hF3.boxed bM.out (by decide) (by omega) (by omega)).cell
        have hKT := hF3.box _ _ KT.out (fun cs fr e => by simp only [Obj.cells.injEq] at e; exact absurd e.2.1 (by decide)) (by omega) (by omega)
        have hsq := (box10 hKT).1.1
        have hen := (hF3.boxed bE.out (by decide) (by omega) (by omega)).cell
        gi_wp2_with fail
        refine ⟨trivial, (callsIn_wide.2 (emark_any (w2.heap.size) (w1.heap.size + 1) (w1.heap.size + 1 + 1) (w.heap.size + 1) (w2.heap.size + 1) (homeS t.data ++ putS PS (logB t)) (PS.getD (logB t).length 0) (PS.drop ((logB t).length + 1)) ⟨4, 0, 0, [], []⟩ _ t.seq W3 ⟨none, 0, none, 0, rfl, .inl rfl, .inl rfl, Nat.zero_le _, Nat.zero_le _⟩ hsq (by have := hF3.size; have := HZ0.out; omega) hen (by have := hF3.size; have := HZ0.out; omega) hL3.1 hpl2 (by omega) (by have := HPL.out; have := HNL.out; simp; omega) (HPB.out _).1 (HPB.out _).2 (by have := hF3.size; omega) (by omega) (by omega))).mono ?_⟩
        rintro e W5 ⟨⟨v5, rfl⟩, k1, k2, k3⟩
        have hF5 := hF3.trans k3
        have hK15 := k3.box D _ hKD (fun cs fr e => by cases e) (by omega) (by omega)
        have hK25 := k3.box D2 _ hK2 (fun cs fr e => by cases e) (by omega) (by omega)
        have hln5 : (homeS t.data ++ putS PS (logB t) ++ [writeS (1 + PS.getD (logB t).length 0) (encT ⟨4, t.seq, 0, [], []⟩)]).length ≤ 900 := by
          rw [List.length_append]; show _ + 1 ≤ 900; omega
        have HS5 := hide k1
        have HF5 := hide hF5
        have HK15 := hide hK15
        have HK25 := hide hK25
        have HLN5 := hide hln5
        clear hmk hKT hsq hen k1 k2 k3 hF5 hK15 hK25 hln5 hlnT
        gi_wp2_with fail
        refine ⟨trivial, (callsIn_wide.2 (safe_any (w2.heap.size) (w1.heap.size + 1) (w1.heap.size + 1 + 1) _ W5 HS5.out HLN5.out (by have := HF5.out.size; omega))).mono ?_⟩
        rintro e W6 ⟨⟨v6, rfl⟩, k1, k3⟩
        have HF6 := hide (HF5.out.trans k3)
        have HK16 := hide (k3.box D _ HK15.out (fun cs fr e => by cases e) (by omega) (by omega))
        have HK26 := hide (k3.box D2 _ HK25.out (fun cs fr e => by cases e) (by omega) (by omega))
        have hfin : commitS rh ru t = homeS t.data ++ putS PS (logB t) ++ [writeS (1 + PS.getD (logB t).length 0) (encT ⟨4, t.seq, 0, [], []⟩)] ++ [flushS] := by rw [HC.out, if_neg hz, List.append_nil]; rfl
        rw [← hfin] at k1
        have HFIN := hide hfin
        obtain ⟨v6', b6, o6⟩ := k1
        have HO6 := hide o6
        obtain ⟨fa, fc, rfl, hseg, hfrom⟩ := SegSt.of_owns o6
        have HSG := hide hseg
        have HFR := hide hfrom
        have c6 := b6.cell
        have hKB := HF6.out.box _ _ KB.out (fun cs fr e => by simp only [Obj.cells.injEq] at e; exact absurd e.2.1 (by decide)) (by omega) (by omega)
        have hKZ := HF6.out.box _ _ KZ.out (fun cs fr e => by simp only [Obj.cells.injEq] at e; exact absurd e.2.1 (by decide)) (by omega) (by omega)
        obtain ⟨⟨y0, y1⟩, _⟩ := box2 hKB
        obtain ⟨⟨z0, z1⟩, zf0, zf1⟩ := box2 hKZ
        have HW6 := hide HF6.out.size
        have KZ6 := hide hKZ
        clear k3 hfin b6 o6 hseg hfrom hKB hKZ
        gi_wp2
        gi_region
        all_goals
          gi_wp2
          have hset := box2Set KZ6.out (.int .i64 sH) (.int .i64 sU)
          have q2 : ((W6.setCell ⟨w.heap.size + 1 + 1, 0, none⟩ (.int .i64 sH)).setCell ⟨w.heap.size + 1 + 1, 1, none⟩ (.int .i64 sU)).drew.heap[D2]? = some (.deferred (some [])) := (Below.heap_setCell _ _ _ _ (by simp; omega)).trans ((Below.heap_setCell _ _ _ _ (by simp; omega)).trans HK26.out)
          have q1 : (((W6.setCell ⟨w.heap.size + 1 + 1, 0, none⟩ (.int .i64 sH)).setCell ⟨w.heap.size + 1 + 1, 1, none⟩ (.int .i64 sU)).drew.putObj D2 (.deferred none)).heap[D]? = some (.deferred (some [])) := (World.putObj_heap_other (by omega)).trans ((Below.heap_setCell _ _ _ _ (by simp; omega)).trans ((Below.heap_setCell _ _ _ _ (by simp; omega)).trans HK16.out))
          have hbase6 : w1.heap.size + 1 + 1 ≤ W6.heap.size := by have := HW6.out; omega
          have hO9 := ownsRow_putObj (ownsRow_putObj (owns_keep (ownsRow_setCell_below (ownsRow_setCell_below HO6.out (a := ⟨w.heap.size + 1 + 1, 0, none⟩) (by simp; omega) (.int .i64 sH)) (a := ⟨w.heap.size + 1 + 1, 1, none⟩) (by simp; omega) (.int .i64 sU)) (Below.refl _ _).drew) (.deferred none) q2 rfl) (.deferred none) q1 rfl
          have hB9 := ((((HB0.out.trans (HF6.out.below (by omega) (by omega) (by omega))).setCell (p := ⟨w.heap.size + 1 + 1, 0, none⟩) (by simp; omega) (.int .i64 sH)).setCell (p := ⟨w.heap.size + 1 + 1, 1, none⟩) (by simp; omega) (.int .i64 sU)).drew.trans (belowK_b (w := w) (Nat.le_refl _) _ D2 _ (.deferred none) (by omega) q2 rfl rfl)).trans (belowK_b (w := w) (Nat.le_refl _) _ D _ (.deferred none) (by omega) q1 rfl rfl)
          have hZ9 : ((((W6.setCell ⟨w.heap.size + 1 + 1, 0, none⟩ (.int .i64 sH)).setCell ⟨w.heap.size + 1 + 1, 1, none⟩ (.int .i64 sU)).drew.putObj D2 (.deferred none)).putObj D (.deferred none)).heap[w.heap.size + 1 + 1]? = some (.cells #[.int .i64 sH, .int .i64 sU] 41 (0, 0)) := (World.putObj_heap_other (by omega)).trans ((World.putObj_heap_other (by omega)).trans hset)
          obtain ⟨⟨u0, u1⟩, _⟩ := box2 hZ9
          refine ⟨by simp, .inl ⟨D2, _, rfl, run_takeDeferred q2, ?_⟩⟩
          refine ⟨by simp, .inl ⟨D, _, rfl, run_takeDeferred q1, ?_⟩⟩
          refine ⟨.tuple #[.agg #[.int .i64 sH, .int .i64 sU], .slice fa (commitS rh ru t).length fc, .int .i64 0], by simp [results, Tryz.results16, go_sem, u0, u1], ?_⟩
          have hcap := own_cap hO9 rfl
          obtain ⟨fa', fc', e9, hs9, hf9⟩ := SegSt.of_owns hO9
          obtain ⟨rfl, rfl⟩ : fa = fa' ∧ fc = fc' := by simpa using e9
          exact ⟨fa, fc, by rw [HSH.out, HSU.out, HE0.out], hcap, fun b off e => by have := hf9 b off e; have := HB0.out.size; omega, hs9, hB9⟩

end Go.Proofs.YtjnpndfpajjihabGreat
