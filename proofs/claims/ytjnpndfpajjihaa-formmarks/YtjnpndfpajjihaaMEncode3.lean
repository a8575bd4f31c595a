/-
  The walk of the document's own EncodeMark: descriptors; and EncodeMark, whole.
-/
import Derived.Test.YtjnpndfpajjihaaMEncode2
namespace Go.Proofs.Ytjnpndfpajjihaa
open Go.RowKit

set_option maxHeartbeats 4000000 in
set_option maxRecDepth 100000 in
theorem encode_tags (q : Int) (a : Option Addr) (c : Nat) (a' : Option Addr) (n' c' : Nat) (l : List (Int × Bool)) (w : World) (hl : SegT w a l) (h20 : l.length ≤ 10) (hbd : ∀ x ∈ l, 0 ≤ x.1 ∧ x.1 ≤ 11) (hq1 : 1 ≤ q) (hq2 : q ≤ 2147483647) (hgood : ∀ w', Below w.heap.size w w' → Calls Try.prog 38 #[.agg #[.int .i64 2, .int .i64 q, .int .i64 0, .slice a l.length c, .slice a' n' c']] w' fun e w2 => e = .returned (.int .i64 0) ∧ Below w'.heap.size w' w2) :
    Calls Try.prog 36 #[.agg #[.int .i64 2, .int .i64 q, .int .i64 0, .slice a l.length c, .slice a' n' c']] w fun e w' => e = .returned (.tuple #[.string (fitT (tagsT (headT 2 q ++ oneB l.length) l)), .int .i64 0]) ∧ Below w.heap.size w w' := by
  have HG := hide hgood
  have HL := hide hl
  have HBD := hide hbd
  clear hgood hl hbd
  go_enter Try.func36, Try.ntmps36
  go_wp2_with fail
  refine (HG.out _ (below1 _ _)).mono ?_
  rintro e w1 ⟨rfl, hb1⟩
  have x0 := cellKeep hb1 (b := w.heap.size) (o := 0) (v := .int .i64 2) (by simp) (by simp [go_sem])
  have x1 := cellKeep hb1 (b := w.heap.size) (o := 1) (v := .int .i64 q) (by simp) (by simp [go_sem])
  have x2 := cellKeep hb1 (b := w.heap.size) (o := 2) (v := .int .i64 0) (by simp) (by simp [go_sem])
  have x3 := cellKeep hb1 (b := w.heap.size) (o := 3) (v := .slice a l.length c) (by simp) (by simp [go_sem])
  have x4 := cellKeep hb1 (b := w.heap.size) (o := 4) (v := .slice a' n' c') (by simp) (by simp [go_sem])
  have hs1 : w.heap.size < w1.heap.size := by have := hb1.size; simp at this; omega
  have HALL : Hid (∀ w', Below w1.heap.size w1 w' → Hid (Below w1.heap.size w1 w') ∧ w'.cell? ⟨w.heap.size, 0, none⟩ = some (.int .i64 2) ∧ w'.cell? ⟨w.heap.size, 1, none⟩ = some (.int .i64 q) ∧ w'.cell? ⟨w.heap.size, 2, none⟩ = some (.int .i64 0) ∧ w'.cell? ⟨w.heap.size, 3, none⟩ = some (.slice a l.length c) ∧ w'.cell? ⟨w.heap.size, 4, none⟩ = some (.slice a' n' c')) := by
    intro w' hb
    exact ⟨hb, cellKeep hb hs1 x0, cellKeep hb hs1 x1, cellKeep hb hs1 x2, cellKeep hb hs1 x3, cellKeep hb hs1 x4⟩
  have HBW := hide (bthen (below1 _ _) hb1)
  have hw1 : IntKind.i64.wrap (q.tdiv 16777216) = q / 16777216 := Go.IntWalk.i64_quo q 16777216 (by omega)
  have hw2 : IntKind.i64.wrap (q.tdiv 65536) = q / 65536 := Go.IntWalk.i64_quo q 65536 (by omega)
  have hw3 : IntKind.i64.wrap (q.tdiv 256) = q / 256 := Go.IntWalk.i64_quo q 256 (by omega)
  have hm2 : (q / 65536).tmod 256 = q / 65536 % 256 := Int.tmod_eq_emod_of_nonneg (by omega)
  have hm3 : (q / 256).tmod 256 = q / 256 % 256 := Int.tmod_eq_emod_of_nonneg (by omega)
  have hm4 : q.tmod 256 = q % 256 := Int.tmod_eq_emod_of_nonneg (by omega)
  have hsz : ∀ n, (oneB n).size = 1 := fun _ => rfl
  clear hb1 x0 x1 x2 x3 x4
  go_wp2
  go_region_held (fun w' => Hid (Below w1.heap.size w1 w') ∧ w'.cell? ⟨w.heap.size, 0, none⟩ = some (.int .i64 2) ∧ w'.cell? ⟨w.heap.size, 1, none⟩ = some (.int .i64 q) ∧ w'.cell? ⟨w.heap.size, 2, none⟩ = some (.int .i64 0) ∧ w'.cell? ⟨w.heap.size, 3, none⟩ = some (.slice a l.length c) ∧ w'.cell? ⟨w.heap.size, 4, none⟩ = some (.slice a' n' c'))
    (first | exact HALL.out _ ((Below.refl _ _).drew) | (refine HALL.out _ ?_; assumption))
    (first | (go_at_call 74; (have hnow := (‹Hid (Below w1.heap.size w1 _) ∧ _›).1); have HNOW := hide hnow.out; refine (byteOf_int _ _ ?_ ?_).mono ?_; omega; omega; clear hnow; rintro e w10 ⟨rfl, hb10⟩; have hbN := bthen HNOW.out hb10; clear hb10 HNOW))
  obtain ⟨hnow, y0, y1, y2, y3, y4⟩ := ‹Hid (Below w1.heap.size w1 _) ∧ _›
  clear hw1 hw2 hw3 hm2 hm3 hm4
  go_wp2_with fail
  refine (byteOf_int _ _ (by omega) (by omega)).mono ?_
  rintro e w2 ⟨rfl, hb2⟩
  have hb3 := bthen hnow.out hb2
  have hs2 : w.heap.size < w2.heap.size := by have := hb3.size; omega
  have z4 : w2.cell? ⟨w.heap.size, 3, none⟩ = some (.slice a l.length c) := (HALL.out _ hb3).2.2.2.2.1
  have HLW := hide (HL.out.below (bthen HBW.out hb3))
  clear hb2 y0 y1 y2 y3 y4
  go_wp2
  obtain ⟨s0, hs0⟩ : ∃ s0, s0 = headT 2 q ++ oneB l.length := ⟨_, rfl⟩
  have hz0 : s0.size = 10 := by rw [hs0]; rfl
  have HS0 := hide hs0
  have HZ0 := hide hz0
  clear hz0
  go_loopw [5, 61] (fun v i wr => ∃ k : Nat, k ≤ l.length ∧ i = .int .i64 k ∧ v = .string (tagsT s0 (l.take k)) ∧ Below w2.heap.size w2 wr) (fun _ i _ => l.length - (intOf i).toNat)
  case atStart => exact ⟨0, Nat.zero_le _, rfl, by rw [hs0]; rfl, Below.refl _ _⟩
  case round =>
    obtain ⟨k, hk, rfl, rfl, hbr⟩ := hrel
    clear hs0
    obtain ⟨t, ht⟩ : ∃ t, t = tagsT s0 (l.take k) := ⟨_, rfl⟩
    have htz : t.size ≤ 30 := by rw [ht, tagsT_size, HZ0.out, List.length_take]; omega
    rw [← ht]
    have HTT := hide ht
    clear ht
    by_cases hlt : k < l.length
    · obtain ⟨b, off, ha, hb, hc⟩ := HLW.out.resolve_left (by intro e; rw [e] at hlt; simp at hlt)
      obtain ⟨x, hx⟩ : ∃ x, x = l.getD k (0, false) := ⟨_, rfl⟩
      have hck := cellKeep hbr hb (hc k hlt).1
      have hck2 := cellKeep hbr hb (hc k hlt).2
      rw [← hx] at hck hck2
      have HX : Hid (l[k]? = some x) := by rw [hx]; exact getD_at _ _ _ hlt
      have hbx := HBD.out x (List.mem_of_getElem? HX.out)
      have HN : Hid (tagsT s0 (l.take (k + 1)) = (t ++ oneB x.1.toNat) ++ (if x.2 then (⟨#[1]⟩ : ByteArray) else ⟨#[0]⟩)) := by rw [Hid, HTT.out, List.take_add_one, HX.out]; exact tagsT_snoc _ _ _
      have hlt' : (k : Int) < (l.length : Int) := by omega
      clear hx hc
      subst ha
      obtain ⟨xn, xf⟩ := x
      dsimp only at hbx hck hck2
      go_wp2_with fail
      refine (byteOf_int xn _ hbx.1 (by omega)).mono ?_
      rintro e w4 ⟨rfl, hb4⟩
      have g0 := cellKeep hb4 (b := wr.heap.size) (o := 0) (v := .int .i64 xn) (by simp) (by simp [go_sem])
      have g1 := cellKeep hb4 (b := wr.heap.size) (o := 1) (v := .bool xf) (by simp) (by simp [go_sem])
      have hb5 := bthen hbr (bthen (below1 _ _) hb4)
      clear hb4 hbr hck hck2
      cases xf with
      | true =>
        go_wp2
        go_roundw
        case rel => exact ⟨k + 1, by omega, by go_num, by rw [HN.out]; rfl, hb5⟩
        case measure => simp [intOf]; omega
      | false =>
        go_wp2
        go_roundw
        case rel => exact ⟨k + 1, by omega, by go_num, by rw [HN.out]; rfl, hb5⟩
        case measure => simp [intOf]; omega
    · have e : l.take k = l := List.take_of_length_le (by omega)
      have HF : Hid (tagsT (headT 2 q ++ oneB l.length) l = t) := by rw [Hid, HTT.out, e, HS0.out]
      clear e
      go_wp2_with fail
      refine (fitText_any _ _).mono ?_
      rintro e w5 ⟨rfl, hb6⟩
      have HB := hide (bthen HBW.out (bthen hb3 (bthen hbr hb6)))
      clear hb6 hbr hb3
      go_wp2
      go_ret2
      exact ⟨by rw [HF.out]; rfl, HB.out⟩


set_option maxHeartbeats 400000 in
/-- wastebookref.EncodeMark: a mark as a block, or what is wrong with it. -/
theorem encodeMark_any (v : Value) (m : Mk) (w : World) (h : IsMk w v m) (h8 : m.tags.length * 8 ≤ 140737488355328) :
    Calls Try.prog 36 #[v] w fun e w' => e = .returned (.tuple #[.string (encT m), .int .i64 (goodM m)]) ∧ Below w.heap.size w w' := by
  by_cases hg : goodM m = 0
  · have hgood : ∀ w', Below w.heap.size w w' → Calls Try.prog 38 #[v] w' fun e w2 => e = .returned (.int .i64 0) ∧ Below w'.heap.size w' w2 := by
      intro w' hb
      have := goodMark_any v m w' (h.below hb) h8
      rw [hg] at this
      exact this
    obtain ⟨⟨k1, k2⟩, ⟨q1, q2, p1, p2⟩, ⟨f1, f2, f3⟩, ht, hb, hr, hr'⟩ := goodM_parts hg
    have hE : encT m = fitT (bodyT m) := by rw [encT, if_pos hg]
    rw [hE, hg]
    clear hE hg
    obtain ⟨a, c, a', c', rfl, hT, hI, hn, hn'⟩ := h
    obtain ⟨kind, seq, pos, tags, blocks⟩ := m
    dsimp only at *
    have hk : kind = 1 ∨ kind = 2 ∨ kind = 3 ∨ kind = 4 := by omega
    rcases hk with rfl | rfl | rfl | rfl
    · rw [show bodyT ⟨1, seq, pos, tags, blocks⟩ = headT 1 seq ++ oneB pos.toNat from rfl]
      exact encode_super seq pos a _ c a' _ c' w q1 q2 p1 p2 hgood
    · obtain rfl := f1 (by decide)
      rw [show bodyT ⟨2, seq, 0, tags, blocks⟩ = tagsT (headT 2 seq ++ oneB tags.length) tags from rfl]
      exact encode_tags seq a c a' _ c' tags w hT (ht rfl).2 (fun x hx => rises_bd _ _ hr (by omega) x.1 (List.mem_map.2 ⟨x, hx, rfl⟩)) q1 q2 hgood
    · obtain rfl := f1 (by decide)
      rw [show bodyT ⟨3, seq, 0, tags, blocks⟩ = numsT (headT 3 seq ++ oneB blocks.length) blocks from rfl]
      exact encode_list seq a _ c a' c' blocks w hI (hb rfl).2 (rises_bd _ _ hr' (by omega)) q1 q2 hgood
    · obtain rfl := f1 (by decide)
      rw [show bodyT ⟨4, seq, 0, tags, blocks⟩ = headT 4 seq from rfl]
      exact encode_commit seq a _ c a' _ c' w q1 q2 hgood
  · exact encode_no v m w h h8 hg

end Go.Proofs.Ytjnpndfpajjihaa
