/-
  The walk of stamp.Encode.
-/
import Derived.Test.YtjnpndfpajjihabGreatSApp
import Derived.ArgAppend
import Derived.Lib.SlBytesConst
namespace Go.Proofs.YtjnpndfpajjihabGreat
open Go.RowKit

def magicB : ByteArray := ⟨#[87, 66, 75, 49]⟩

/-- append onto the four bytes of a constant: there is no room, so a new row is made. -/
theorem wpList_magic {w : World} {ops : Array Oper} {rest : List Oper} {o : Oper} {a : Act} {Q : Exit → Act → World → Prop} (hgd : o.guard = none) (s x : Operand)
    (ho : o.op = .call { callee := .builtin .append, args := #[s, x], argTypes := #[155, 155] })
    (b : Addr) (nw : ByteArray) (hs : a.eval s = .slice (some b) 4 4) (holds : ∀ j u, (cellsB magicB)[j]? = some u → w.cell? (b.add j) = some u) (ad : Addr) (hx : a.eval x = .slice (some ad) 1 1) (hm : nw.size = 1)
    (hnews : ∀ j u, (cellsB nw)[j]? = some u → w.cell? (ad.add j) = some u)
    (h : ∀ v' w', OwnB w' w.heap.size v' (magicB ++ nw) → w.grownBy w' none → wpList Tryz.prog ops Q rest (a.put o.dst v') w') : wpList Tryz.prog ops Q (o :: rest) a w := by
  obtain ⟨i0, hi, hz0, hz1, hz2⟩ := info_parts infoB
  refine wpList_append_grows w hgd s x 155 ho 5 i0 (.int .u8 0) 1 1 Tryz.underlying155 hi hz0 hz1 hz2 rfl (by decide) (some b) 4 4 (cellsB magicB) hs (fun e => by cases e) rfl (fun b' e j u hj => by cases e; exact holds j u hj) ad 1 1 (cellsB nw) hx (by rw [cellsB_length, hm]) hnews cellsB_cells (by omega) (by decide) (by omega) ?_
  intro v' w' h1 h2
  exact h v' w' (OwnB.more (by rw [hm]; rfl) h1) h2

/-- The four bytes of a number, the highest first. -/
def quadB (q : Int) : ByteArray := oneB (q / 16777216).toNat ++ oneB (q / 65536 % 256).toNat ++ oneB (q / 256 % 256).toNat ++ oneB (q % 256).toNat
theorem quad_cells (q : Int) (h0 : 0 ≤ q) (h1 : q ≤ 2147483647) : cellsB (quadB q) = [.int .u8 (q / 16777216), .int .u8 (q / 65536 % 256), .int .u8 (q / 256 % 256), .int .u8 (q % 256)] := by
  rw [quadB, cellsB_append, cellsB_append, cellsB_append, cellsB_one _ (by omega), cellsB_one _ (by omega), cellsB_one _ (by omega), cellsB_one _ (by omega)]
  rw [Int.toNat_of_nonneg (by omega), Int.toNat_of_nonneg (by omega), Int.toNat_of_nonneg (by omega), Int.toNat_of_nonneg (by omega)]
  rfl
theorem head_eq (n : Nat) (q : Int) : (magicB ++ oneB n) ++ quadB q = headT n q := by
  rw [quadB, headT, Int.toNat_natCast, magicB]
  simp only [ByteArray.append_assoc]

set_option maxHeartbeats 2000000 in
set_option maxRecDepth 100000 in
theorem stampEncode_no (v : Value) (m : Mk) (w : World) (h : IsMk w v m) (hno : ¬ goodM m = 0) :
    Calls Tryz.prog 66 #[v] w fun e w' => e = .returned (.tuple #[.string (encT m), .int .i64 (goodM m)]) ∧ Below w.heap.size w w' := by
  have HI := hide h
  obtain ⟨a, c, a', c', rfl, _, _, _, _⟩ := h
  have HE : Hid (encT m = ByteArray.empty) := by rw [Hid, encT, if_neg hno]
  have hno' : (goodM m != 0) = true := by simpa using hno
  clear hno
  go_enter Tryz.func66, Tryz.ntmps66
  go_wp2_with fail
  refine (stampGood_any _ m _ (HI.out.below (below1 _ _))).mono ?_
  rintro e w1 ⟨rfl, hb1⟩
  have HB := hide (bthen (below1 _ _) hb1)
  clear hb1
  go_wp2
  go_ret2
  exact ⟨by rw [HE.out]; rfl, HB.out⟩

set_option maxHeartbeats 4000000 in
set_option maxRecDepth 100000 in
theorem stampEncode_ok (v : Value) (m : Mk) (w : World) (h : IsMk w v m) (hg : goodM m = 0) :
    Calls Tryz.prog 66 #[v] w fun e w' => e = .returned (.tuple #[.string (fitT (bodyT m)), .int .i64 0]) ∧ Below w.heap.size w w' := by
  have HI := hide h
  have HG := hide hg
  obtain ⟨a, c, a', c', rfl, hT, hN, hn, hn'⟩ := h
  have HT := hide hT
  have HN := hide hN
  obtain ⟨⟨k1, k2⟩, ⟨q1, q2, p1, p2⟩, ⟨f1, f2, f3⟩, ht, hb, hr, hr'⟩ := goodM_parts hg
  have HP := hide (And.intro f1 (And.intro f2 (And.intro f3 (And.intro ht (And.intro hb (And.intro hr hr'))))))
  clear hT hN hg f1 f2 f3 ht hb hr hr'
  go_enter Tryz.func66, Tryz.ntmps66
  go_wp2_with fail
  refine (stampGood_any _ m _ (HI.out.below (below1 _ _))).mono ?_
  rintro e w1 ⟨rfl, hb1⟩
  rw [HG.out]
  have hs1 : w.heap.size < w1.heap.size := by have := hb1.size; simp at this; omega
  obtain ⟨⟨x0, x1, x2, x3, x4⟩, _⟩ := box5 (one1 hb1)
  have HB1 := hide (bthen (below1 _ _) hb1)
  clear hb1
  obtain ⟨kind, seq, pos, tags, blocks⟩ := m
  dsimp only at *
  obtain ⟨kn, rfl⟩ := Int.eq_ofNat_of_zero_le (show 0 ≤ kind by omega)
  have hk255 : (kn : Int) ≤ 255 := by omega
  have hk0 : (0 : Int) ≤ (kn : Int) := by omega
  have kc := fun (w : World) (C : Array Value) (n c : Nat) => Lib.run_convert_bytes_const (P := Tryz.prog) w 155 5 C n c Tryz.underlying155 Tryz.underlying5
  go_wp2_with (at_builtin; refine wpList_magic rfl _ _ rfl ⟨w1.heap.size, 0, none⟩ (oneB kn) rfl ?qc1 ⟨w1.heap.size + 1, 0, none⟩ rfl rfl ?qc2 ?_)
  case qc1 =>
    intro j u hj
    match j, hj with
    | 0, hj => cases hj; simp [go_sem]; exact World.cell?_alloc_mark w1 _ _ _ _
    | 1, hj => cases hj; simp [go_sem]; exact World.cell?_alloc_mark w1 _ _ _ _
    | 2, hj => cases hj; simp [go_sem]; exact World.cell?_alloc_mark w1 _ _ _ _
    | 3, hj => cases hj; simp [go_sem]; exact World.cell?_alloc_mark w1 _ _ _ _
  case qc2 =>
    intro j u hj
    rw [cellsB_one _ (by omega)] at hj
    match j, hj with
    | 0, hj => simp at hj; subst hj; simp [go_sem]
  intro v2 w2 hown2 hg2
  have hb2 : Below w1.heap.size w1 w2 := ((below1 _ _).alloc (by simp) _).grown hg2 (by first | omega | (simp; omega)) (fun k hk => by cases hk)
  have HO2 : Hid (OwnB w2 w1.heap.size v2 (magicB ++ oneB kn)) := owns_base hown2 (by first | omega | (simp; omega))
  clear hown2 hg2
  have hs2 : w1.heap.size ≤ w2.heap.size := hb2.size
  have hs2' : w.heap.size < w2.heap.size := by omega
  have y1 := cellKeep hb2 hs1 x1
  have HB2 := hide hb2
  clear hb2
  have hq0 : 0 ≤ seq / 16777216 := by omega
  have hq255 : seq / 16777216 ≤ 255 := by omega
  go_wp2_with (at_builtin; refine wpList_appB rfl _ _ rfl w1.heap.size _ (magicB ++ oneB kn) (quadB seq) rfl (HO2.out.alloc _) ⟨w2.heap.size, 0, none⟩ 4 rfl rfl ?qc2 ?qc4 (by decide) ?qc6 ?_)
  case qc2 =>
    intro j u hj
    rw [quad_cells seq (by omega) q2] at hj
    match j, hj with
    | 0, hj => simp at hj; subst hj; simp [go_sem]
    | 1, hj => simp at hj; subst hj; simp [go_sem]
    | 2, hj => simp at hj; subst hj; simp [go_sem]
    | 3, hj => simp at hj; subst hj; simp [go_sem]
  case qc4 => show 5 ≤ 2000; decide
  case qc6 => first | omega | (simp; omega)
  intro v3 w3 hown3 hg3
  have hb3 : Below w1.heap.size w1 w3 := (HB2.out.alloc hs2 _).grown hg3 (by first | omega | (simp; omega)) (fun k hk => (HO2.out.lt k hk).1)
  rw [head_eq] at hown3
  have HO3 := hide hown3
  clear hown3 hg3
  have hs3 : w1.heap.size ≤ w3.heap.size := hb3.size
  have hs3' : w.heap.size < w3.heap.size := by omega
  have z0 := (HB1.out.trans (hb3.mono (by omega)))
  have HB3 := hide z0
  clear z0
  have y0 := cellKeep hb3 hs1 x0
  have y2 := cellKeep hb3 hs1 x2
  have y3 := cellKeep hb3 hs1 x3
  have y4 := cellKeep hb3 hs1 x4
  clear y1 x0 x1 x2 x3 x4 HB2 HO2 hq0 hq255
  have HB13 := hide hb3
  clear hb3
  have hk4 : kn = 1 ∨ kn = 2 ∨ kn = 3 ∨ kn = 4 := by omega
  have hz3 : (headT kn seq).size = 9 := rfl
  obtain ⟨hd, hhd⟩ : ∃ hd, hd = headT kn seq := ⟨_, rfl⟩
  rw [← hhd] at HO3 hz3
  have HHD := hide hhd
  clear hhd
  rcases hk4 with rfl | rfl | rfl | rfl
  · obtain ⟨pn, rfl⟩ := Int.eq_ofNat_of_zero_le p1
    have hp255 : (pn : Int) ≤ 255 := by omega
    go_wp2_with (at_builtin; refine wpList_appB rfl _ _ rfl w1.heap.size _ hd (oneB pn) rfl (HO3.out.alloc _) ⟨w3.heap.size, 0, none⟩ 1 rfl rfl ?qc2 ?qc4 (by decide) ?qc6 ?_)
    case qc2 =>
      intro j u hj
      rw [cellsB_one _ (by omega)] at hj
      match j, hj with
      | 0, hj => simp at hj; subst hj; simp [go_sem]
    case qc4 => omega
    case qc6 => first | omega | (simp; omega)
    intro v4 w4 hown4 hg4
    have hb4 : Below w1.heap.size w1 w4 := (HB13.out.alloc hs3 _).grown hg4 (by first | omega | (simp; omega)) (fun k hk => (HO3.out.lt k hk).1)
    have hsz : (hd ++ oneB pn).size = 10 := by rw [ByteArray.size_append, hz3]; rfl
    have hcv := conv_own hown4 (by omega)
    have HB4 := hide (HB1.out.trans (hb4.mono (by omega)))
    obtain ⟨t, ht⟩ : ∃ t, t = hd ++ oneB pn := ⟨_, rfl⟩
    rw [← ht] at hcv hsz
    have HTT := hide ht
    clear hown4 hg4 hb4 ht
    go_wp2_with fail
    refine (fit_any t _ (by rw [hsz]; decide)).mono ?_
    rintro e w5 ⟨rfl, hb5⟩
    have HB5 := hide (bthen HB4.out hb5)
    clear hb5
    go_wp2
    go_ret2
    exact ⟨by rw [HTT.out, HHD.out]; rfl, HB5.out⟩
  · obtain ⟨g1, g2, g3, ht, _, hr, _⟩ := HP.out
    have HR := hide hr
    have hlen := (ht rfl).2
    obtain rfl := g1 (by decide)
    have hbd : ∀ x ∈ tags, 0 ≤ x.1 ∧ x.1 ≤ 11 := fun x hx => rises_bd _ _ HR.out (by omega) x.1 (List.mem_map.2 ⟨x, hx, rfl⟩)
    have HBD := hide hbd
    clear g1 g2 g3 ht hr hbd
    go_wp2_with fail
    refine (appTags_any w1.heap.size _ hd a c tags _ w HO3.out HT.out HB3.out (by omega) hs3 (by omega) hlen HBD.out).mono ?_
    rintro e w4 ⟨v4, rfl, hown4, hb4⟩
    have hsz : (tagsT (hd ++ oneB tags.length) tags).size ≤ 30 ∧ 0 < (tagsT (hd ++ oneB tags.length) tags).size := by
      rw [tagsT_size, ByteArray.size_append, hz3, show (oneB tags.length).size = 1 from rfl]; omega
    have hcv := conv_own hown4 hsz.2
    have HB4 := hide (HB3.out.trans (hb4.mono (by omega)))
    obtain ⟨t, ht⟩ : ∃ t, t = tagsT (hd ++ oneB tags.length) tags := ⟨_, rfl⟩
    rw [← ht] at hcv hsz
    have HTT := hide ht
    clear hown4 hb4 ht
    go_wp2_with fail
    refine (fit_any t _ (by unfold maxLen; omega)).mono ?_
    rintro e w5 ⟨rfl, hb5⟩
    have HB5 := hide (bthen HB4.out hb5)
    clear hb5
    go_wp2
    go_ret2
    exact ⟨by rw [HTT.out, HHD.out]; rfl, HB5.out⟩
  · obtain ⟨g1, g2, g3, _, hb, _, hr⟩ := HP.out
    have HR := hide hr
    have hlen := (hb rfl).2
    obtain rfl := g1 (by decide)
    have hbd : ∀ x ∈ blocks, 0 ≤ x ∧ x ≤ 11 := fun x hx => rises_bd _ _ HR.out (by omega) x hx
    have HBD := hide hbd
    clear g1 g2 g3 hb hr hbd
    go_wp2_with fail
    refine (appBlocks_any w1.heap.size _ hd a' c' blocks _ w HO3.out HN.out HB3.out (by omega) hs3 (by omega) hlen HBD.out).mono ?_
    rintro e w4 ⟨v4, rfl, hown4, hb4⟩
    have hsz : (numsT (hd ++ oneB blocks.length) blocks).size ≤ 30 ∧ 0 < (numsT (hd ++ oneB blocks.length) blocks).size := by
      rw [numsT_size, ByteArray.size_append, hz3, show (oneB blocks.length).size = 1 from rfl]; omega
    have hcv := conv_own hown4 hsz.2
    have HB4 := hide (HB3.out.trans (hb4.mono (by omega)))
    obtain ⟨t, ht⟩ : ∃ t, t = numsT (hd ++ oneB blocks.length) blocks := ⟨_, rfl⟩
    rw [← ht] at hcv hsz
    have HTT := hide ht
    clear hown4 hb4 ht
    go_wp2_with fail
    refine (fit_any t _ (by unfold maxLen; omega)).mono ?_
    rintro e w5 ⟨rfl, hb5⟩
    have HB5 := hide (bthen HB4.out hb5)
    clear hb5
    go_wp2
    go_ret2
    exact ⟨by rw [HTT.out, HHD.out]; rfl, HB5.out⟩
  · have hcv := conv_own HO3.out (by omega)
    go_wp2_with fail
    refine (fit_any hd _ (by rw [hz3]; decide)).mono ?_
    rintro e w5 ⟨rfl, hb5⟩
    have HB5 := hide (bthen HB3.out hb5)
    clear hb5
    go_wp2
    go_ret2
    exact ⟨by rw [HHD.out]; rfl, HB5.out⟩

/-- stamp.Encode: a mark as a block, or what is wrong with it. -/
theorem stampEncode_any (v : Value) (m : Mk) (w : World) (h : IsMk w v m) :
    Calls Tryz.prog 66 #[v] w fun e w' => e = .returned (.tuple #[.string (encT m), .int .i64 (goodM m)]) ∧ Below w.heap.size w w' := by
  by_cases hg : goodM m = 0
  · have hE : encT m = fitT (bodyT m) := by rw [encT, if_pos hg]
    rw [hE, hg]
    exact stampEncode_ok v m w h hg
  · exact stampEncode_no v m w h hg

end Go.Proofs.YtjnpndfpajjihabGreat
