/-
  The walks of stamp's own appendTags and appendBlocks.
-/
import Derived.Test.YtjnpndfpajjihabGreatSGood
import Derived.Test.YtjnpndfpajjihabGreatMEncPure
import Derived.Test.YtjnpndfpajjihabGreatFitOwn
namespace Go.Proofs.YtjnpndfpajjihabGreat
open Go.RowKit

/-- Bytes as the cells of a row. -/
def cellsB (s : ByteArray) : List Value := s.data.toList.map byteV
theorem cellsB_length (s : ByteArray) : (cellsB s).length = s.size * 1 := by
  have : s.data.toList.length = s.size := rfl
  simp [cellsB]
theorem cellsB_append (s t : ByteArray) : cellsB (s ++ t) = cellsB s ++ cellsB t := by simp [cellsB, ByteArray.data_append]
theorem cellsB_one (n : Nat) (h : n < 256) : cellsB (oneB n) = [.int .u8 (n : Int)] := by
  have : (UInt8.ofNat n).toNat = n := by simp; omega
  simp [cellsB, oneB, byteV]
  omega
theorem cellsB_cells {s : ByteArray} : ∀ u ∈ cellsB s, u.oneCell' = true := by
  intro u hu
  obtain ⟨b, _, rfl⟩ := List.mem_map.1 hu
  rfl
theorem infoB : (Tryz.prog.info? 5).map (fun i => (i.zero, i.size, i.bytes)) = some (some (.int .u8 0), 1, 1) := by kernel_rfl

/-- A row of bytes of the call's own. -/
def OwnB (w : World) (base : Nat) (v : Value) (s : ByteArray) : Prop := w.ownsRow base 5 1 v s.size (cellsB s)
theorem OwnB.more {w : World} {base : Nat} {v : Value} {s t : ByteArray} {n : Nat} (hn : n = s.size + t.size) (h : w.ownsRow base 5 1 v n (cellsB s ++ cellsB t)) : OwnB w base v (s ++ t) := by
  rw [OwnB, ByteArray.size_append, cellsB_append, ← hn]; exact h

theorem conv_own {w : World} {base : Nat} {v : Value} {s : ByteArray} (h : OwnB w base v s) (h0 : 0 < s.size) : (convert 155 9 v).run Tryz.prog w = .ok (.string s) w := by
  rcases h.2 with ⟨_, h1⟩ | ⟨g, cap, cur, rfl, hb, hg, rest⟩
  · omega
  · refine (run_convert_bytes_back (P := Tryz.prog) w 155 9 5 ⟨g, 0, none⟩ cap s.data.toList Tryz.underlying155 Tryz.underlying5 Tryz.underlying9 (fun j hj => ?_))
    have hj' : j < s.size := hj
    rw [Addr.add_lit, Nat.zero_add, World.ownsRow.cellAt h j (by omega), cellsB, List.getElem?_map, List.getElem?_eq_getElem hj]
    rfl

/-- append of bytes onto a row of bytes of the call's own. -/
theorem wpList_appB {w : World} {ops : Array Oper} {rest : List Oper} {o : Oper} {a : Act} {Q : Exit → Act → World → Prop} (hgd : o.guard = none) (s x : Operand)
    (ho : o.op = .call { callee := .builtin .append, args := #[s, x], argTypes := #[155, 155] })
    (base : Nat) (v : Value) (t nw : ByteArray) (hs : a.eval s = v) (hown : OwnB w base v t) (ad : Addr) (m : Nat) (hx : a.eval x = .slice (some ad) m m) (hm : nw.size = m)
    (hnews : ∀ j u, (cellsB nw)[j]? = some u → w.cell? (ad.add j) = some u) (h63 : t.size ≤ 2000) (hm' : m ≤ 100) (hbase : base ≤ w.heap.size)
    (h : ∀ v' w', OwnB w' base v' (t ++ nw) → w.grownBy w' v.ownBlock → wpList Tryz.prog ops Q rest (a.put o.dst v') w') : wpList Tryz.prog ops Q (o :: rest) a w := by
  obtain ⟨i0, hi, hz0, hz1, hz2⟩ := info_parts infoB
  refine wpList_append_own w hgd s x 155 ho base 5 i0 (.int .u8 0) 1 1 Tryz.underlying155 hi hz0 hz1 hz2 rfl (by decide) v t.size (cellsB t) hs hown ad m m (cellsB nw) hx (by rw [cellsB_length, hm]) hnews cellsB_cells (by unfold maxLen; omega) (by omega) hbase ?_
  intro v' w' h1 h2 _
  exact h v' w' (OwnB.more (by rw [hm]) h1) h2

set_option maxHeartbeats 2000000 in
set_option maxRecDepth 100000 in
theorem appBlocks_any (base : Nat) (v : Value) (s : ByteArray) (a : Option Addr) (c : Nat) (l : List Int) (w w0 : World) (hown : OwnB w base v s) (hl : SegI w0 a l) (hw0 : Below w0.heap.size w0 w) (h0 : w0.heap.size ≤ base) (hbase : base ≤ w.heap.size)
    (hs : s.size ≤ 1000) (h20 : l.length ≤ 20) (hbd : ∀ x ∈ l, 0 ≤ x ∧ x ≤ 11) :
    Calls Tryz.prog 110 #[v, .slice a l.length c] w fun e w' => ∃ v2, e = .returned v2 ∧ OwnB w' base v2 (numsT (s ++ oneB l.length) l) ∧ Below base w w' := by
  have HO := hide hown
  have HL := hide hl
  have HBD := hide hbd
  have HW0 := hide hw0
  have h255 : (l.length : Int) ≤ 255 := by omega
  have h255' : (0 : Int) ≤ (l.length : Int) := by omega
  clear hown hl hbd hw0
  go_enter Tryz.func110, Tryz.ntmps110
  go_wp2_with (at_builtin; refine wpList_appB rfl _ _ rfl base v s (oneB l.length) rfl (HO.out.alloc _) ⟨w.heap.size, 0, none⟩ 1 rfl rfl ?qc2 ?qc4 (by decide) ?qc6 ?_)
  case qc2 =>
    intro j u hj
    rw [cellsB_one _ (by omega)] at hj
    match j, hj with
    | 0, hj => simp at hj; subst hj; simp [go_sem]
  case qc4 => omega
  case qc6 => first | omega | (simp; omega)
  intro v1 w1 hown1 hg1
  have hb1 : Below base w w1 := ((Below.refl _ _).alloc hbase _).grown hg1 (by simp; omega) (fun k hk => (HO.out.lt k hk).1)
  have HO1 := hide hown1
  clear hown1 hg1
  obtain ⟨s0, hs0⟩ : ∃ s0, s0 = s ++ oneB l.length := ⟨_, rfl⟩
  have hz : s0.size ≤ 1001 := by rw [hs0, ByteArray.size_append]; show s.size + 1 ≤ 1001; omega
  have HZ := hide hz
  rw [← hs0] at HO1
  have HS0 := hide hs0
  clear hz hs0
  go_wp2
  go_loopw [0, 15] (fun v i wr => ∃ k : Nat, k ≤ l.length ∧ i = .int .i64 k ∧ Hid (OwnB wr base v (numsT s0 (l.take k))) ∧ Below base w wr) (fun _ i _ => l.length - (intOf i).toNat)
  case atStart => exact ⟨0, Nat.zero_le _, rfl, HO1, hb1⟩
  case round =>
    obtain ⟨k, hk, rfl, hown, hbr⟩ := hrel
    have hsr : base ≤ wr.heap.size := by have := hbr.size; omega
    obtain ⟨t, ht⟩ : ∃ t, t = numsT s0 (l.take k) := ⟨_, rfl⟩
    have htz : t.size ≤ 1021 := by rw [ht, numsT_size, List.length_take]; have := HZ.out; omega
    rw [← ht] at hown
    have HTT := hide ht
    clear ht
    by_cases hlt : k < l.length
    · obtain ⟨b, off, rfl, hb, hc⟩ := HL.out.resolve_left (by intro e; rw [e] at hlt; simp at hlt)
      obtain ⟨x, hx⟩ : ∃ x, x = l.getD k 0 := ⟨_, rfl⟩
      have hck := cellKeep (HW0.out.trans (hbr.mono h0)) hb (hc k hlt)
      rw [← hx] at hck
      have HX : Hid (l[k]? = some x) := by rw [hx]; exact getD_at _ _ _ hlt
      have hbx := HBD.out x (List.mem_of_getElem? HX.out)
      have HN : Hid (numsT s0 (l.take (k + 1)) = t ++ oneB x.toNat) := by rw [Hid, HTT.out, List.take_add_one, HX.out]; exact numsT_snoc _ _ _
      have hlt' : (k : Int) < (l.length : Int) := by omega
      clear hx hc
      obtain ⟨xn, rfl⟩ := Int.eq_ofNat_of_zero_le hbx.1
      have hx1 : (xn : Int) ≤ 255 := by omega
      have hx0 : (0 : Int) ≤ (xn : Int) := by omega
      go_wp2_with (at_builtin; refine wpList_appB rfl _ _ rfl base _ t (oneB xn) rfl (hown.out.alloc _) ⟨wr.heap.size, 0, none⟩ 1 rfl rfl ?qc2 ?qc4 (by decide) ?qc6 ?_)
      case qc2 =>
        intro j u hj
        rw [cellsB_one _ (by omega)] at hj
        match j, hj with
        | 0, hj => simp at hj; subst hj; simp [go_sem]
      case qc4 => omega
      case qc6 => first | omega | (simp; omega)
      intro v4 w4 hown4 hg4
      have hb4 : Below base w w4 := (hbr.alloc hsr _).grown hg4 (by simp; omega) (fun k hk => (hown.out.lt k hk).1)
      have HO4 := hide hown4
      clear hown4 hg4 hown hbr
      go_wp2
      go_roundw
      case rel => exact ⟨k + 1, by omega, by go_num, by rw [HN.out, Int.toNat_natCast]; exact HO4, hb4⟩
      case measure => simp [intOf]; omega
    · have e : l.take k = l := List.take_of_length_le (by omega)
      have HF : Hid (numsT (s ++ oneB l.length) l = t) := by rw [Hid, HTT.out, e, HS0.out]
      clear e
      go_wp2
      go_ret
      exact ⟨_, rfl, by rw [HF.out]; exact hown.out, hbr⟩

theorem cellsB_two (n : Nat) (h : n < 256) (f : Bool) : cellsB (oneB n ++ (if f then (⟨#[1]⟩ : ByteArray) else ⟨#[0]⟩)) = [.int .u8 (n : Int), .int .u8 (if f then 1 else 0)] := by
  rw [cellsB_append, cellsB_one n h]
  cases f <;> rfl

set_option maxHeartbeats 2000000 in
set_option maxRecDepth 100000 in
theorem appTags_any (base : Nat) (v : Value) (s : ByteArray) (a : Option Addr) (c : Nat) (l : List (Int × Bool)) (w w0 : World) (hown : OwnB w base v s) (hl : SegT w0 a l) (hw0 : Below w0.heap.size w0 w) (h0 : w0.heap.size ≤ base) (hbase : base ≤ w.heap.size)
    (hs : s.size ≤ 1000) (h20 : l.length ≤ 10) (hbd : ∀ x ∈ l, 0 ≤ x.1 ∧ x.1 ≤ 11) :
    Calls Tryz.prog 109 #[v, .slice a l.length c] w fun e w' => ∃ v2, e = .returned v2 ∧ OwnB w' base v2 (tagsT (s ++ oneB l.length) l) ∧ Below base w w' := by
  have HO := hide hown
  have HL := hide hl
  have HBD := hide hbd
  have HW0 := hide hw0
  have h255 : (l.length : Int) ≤ 255 := by omega
  have h255' : (0 : Int) ≤ (l.length : Int) := by omega
  clear hown hl hbd hw0
  go_enter Tryz.func109, Tryz.ntmps109
  go_wp2_with (at_builtin; refine wpList_appB rfl _ _ rfl base v s (oneB l.length) rfl (HO.out.alloc _) ⟨w.heap.size, 0, none⟩ 1 rfl rfl ?qc2 ?qc4 (by decide) ?qc6 ?_)
  case qc2 =>
    intro j u hj
    rw [cellsB_one _ (by omega)] at hj
    match j, hj with
    | 0, hj => simp at hj; subst hj; simp [go_sem]
  case qc4 => omega
  case qc6 => first | omega | (simp; omega)
  intro v1 w1 hown1 hg1
  have hb1 : Below base w w1 := ((Below.refl _ _).alloc hbase _).grown hg1 (by simp; omega) (fun k hk => (HO.out.lt k hk).1)
  have HO1 := hide hown1
  clear hown1 hg1
  obtain ⟨s0, hs0⟩ : ∃ s0, s0 = s ++ oneB l.length := ⟨_, rfl⟩
  have hz : s0.size ≤ 1001 := by rw [hs0, ByteArray.size_append]; show s.size + 1 ≤ 1001; omega
  have HZ := hide hz
  rw [← hs0] at HO1
  have HS0 := hide hs0
  clear hz hs0
  go_wp2
  go_loopw [0, 16] (fun v i wr => ∃ k : Nat, k ≤ l.length ∧ i = .int .i64 k ∧ Hid (OwnB wr base v (tagsT s0 (l.take k))) ∧ Below base w wr) (fun _ i _ => l.length - (intOf i).toNat)
  case atStart => exact ⟨0, Nat.zero_le _, rfl, HO1, hb1⟩
  case round =>
    obtain ⟨k, hk, rfl, hown, hbr⟩ := hrel
    have hsr : base ≤ wr.heap.size := by have := hbr.size; omega
    obtain ⟨t, ht⟩ : ∃ t, t = tagsT s0 (l.take k) := ⟨_, rfl⟩
    have htz : t.size ≤ 1021 := by rw [ht, tagsT_size, List.length_take]; have := HZ.out; omega
    rw [← ht] at hown
    have HTT := hide ht
    clear ht
    by_cases hlt : k < l.length
    · obtain ⟨b, off, rfl, hb, hc⟩ := HL.out.resolve_left (by intro e; rw [e] at hlt; simp at hlt)
      obtain ⟨x, hx⟩ : ∃ x, x = l.getD k (0, false) := ⟨_, rfl⟩
      have hck := cellKeep (HW0.out.trans (hbr.mono h0)) hb (hc k hlt).1
      have hck2 := cellKeep (HW0.out.trans (hbr.mono h0)) hb (hc k hlt).2
      rw [← hx] at hck hck2
      have HX : Hid (l[k]? = some x) := by rw [hx]; exact getD_at _ _ _ hlt
      have hbx := HBD.out x (List.mem_of_getElem? HX.out)
      have HN : Hid (tagsT s0 (l.take (k + 1)) = t ++ (oneB x.1.toNat ++ (if x.2 then (⟨#[1]⟩ : ByteArray) else ⟨#[0]⟩))) := by rw [Hid, HTT.out, List.take_add_one, HX.out, ← ByteArray.append_assoc]; exact tagsT_snoc _ _ _
      have hlt' : (k : Int) < (l.length : Int) := by omega
      clear hx hc
      obtain ⟨xi, f⟩ := x
      dsimp only at hbx hck hck2 HN
      obtain ⟨xn, rfl⟩ := Int.eq_ofNat_of_zero_le hbx.1
      have hx1 : (xn : Int) ≤ 255 := by omega
      have hx0 : (0 : Int) ≤ (xn : Int) := by omega
      obtain ⟨nw, hnw⟩ : ∃ nw, nw = oneB xn ++ (if f then (⟨#[1]⟩ : ByteArray) else ⟨#[0]⟩) := ⟨_, rfl⟩
      have HNC : Hid (cellsB nw = [.int .u8 (xn : Int), .int .u8 (if f then 1 else 0)]) := by rw [hnw]; exact cellsB_two xn (by omega) f
      have HNZ : Hid (nw.size = 2) := by rw [hnw]; cases f <;> rfl
      rw [Int.toNat_natCast, ← hnw] at HN
      clear hnw
      cases f
      all_goals
        go_wp2_with (at_builtin; refine wpList_appB rfl _ _ rfl base _ t nw rfl ((hown.out.alloc _).alloc _) ⟨wr.heap.size + 1, 0, none⟩ 2 rfl HNZ.out ?qc2 ?qc4 (by decide) ?qc6 ?_)
        case qc2 =>
          intro j u hj
          rw [HNC.out] at hj
          match j, hj with
          | 0, hj => simp at hj; subst hj; simp [go_sem]
          | 1, hj => simp at hj; subst hj; simp [go_sem]
        case qc4 => omega
        case qc6 => first | omega | (simp; omega)
        intro v4 w4 hown4 hg4
        have hb4 : Below base w w4 := ((hbr.alloc hsr _).alloc (by simp; omega) _).grown hg4 (by simp; omega) (fun k hk => (hown.out.lt k hk).1)
        have HO4 := hide hown4
        clear hown4 hg4 hown hbr
        go_wp2
        go_roundw
        case rel => exact ⟨k + 1, by omega, by go_num, by rw [HN.out]; exact HO4, hb4⟩
        case measure => simp [intOf]; omega
    · have e : l.take k = l := List.take_of_length_le (by omega)
      have HF : Hid (tagsT (s ++ oneB l.length) l = t) := by rw [Hid, HTT.out, e, HS0.out]
      clear e
      go_wp2
      go_ret
      exact ⟨_, rfl, by rw [HF.out]; exact hown.out, hbr⟩

end Go.Proofs.YtjnpndfpajjihabGreat
