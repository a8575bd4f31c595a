/-
  The walk of the statement TxnFits: it says true at all orders and numbers.
-/
import Derived.Test.YtjnpndfpajjihabTOwn
import Derived.Test.YtjnpndfpajjihabTFollowL
import Derived.Test.YtjnpndfpajjihabTNamesAll
import Derived.Test.YtjnpndfpajjihabRNeeds
import Derived.Test.YtjnpndfpajjihabRSkip
import Derived.Deep.CutRange
import Derived.Deep.RegionWith
import Derived.Deep.RegionHeld3
import Derived.Deep.LoopGhost
namespace Go.Proofs.Ytjnpndfpajjihab
open Go.RowKit

/-- An order as plain data; a row of orders: five cells each. -/
structure Od where
  kind : Int
  h : Int
  b : Int
  n : Int
  text : ByteArray
def od0 : Od := ⟨0, 0, 0, 0, ByteArray.empty⟩
def SegO (w : World) (a : Option Addr) (l : List Od) : Prop :=
  l = [] ∨ ∃ b off, a = some ⟨b, off, none⟩ ∧ b < w.heap.size ∧ ∀ i, i < l.length →
    w.cell? ⟨b, off + i * 5, none⟩ = some (.int .i64 (l.getD i od0).kind) ∧ w.cell? ⟨b, off + i * 5 + 1, none⟩ = some (.int .i64 (l.getD i od0).h) ∧ w.cell? ⟨b, off + i * 5 + 2, none⟩ = some (.int .i64 (l.getD i od0).b) ∧
    w.cell? ⟨b, off + i * 5 + 3, none⟩ = some (.int .i64 (l.getD i od0).n) ∧ w.cell? ⟨b, off + i * 5 + 4, none⟩ = some (.string (l.getD i od0).text)
/-- Is an order one of Go's own numbers and texts? -/
def OdOk (x : Od) : Prop := (-9223372036854775808 ≤ x.kind ∧ x.kind ≤ 9223372036854775807) ∧ (-9223372036854775808 ≤ x.h ∧ x.h ≤ 9223372036854775807) ∧ (-9223372036854775808 ≤ x.b ∧ x.b ≤ 9223372036854775807) ∧ x.text.size ≤ maxLen
theorem od_ok {l : List Od} (h : ∀ x ∈ l, OdOk x) {k : Nat} (hk : k < l.length) : OdOk (l.getD k od0) := h _ (by
  have := getD_at l k od0 hk
  exact List.mem_of_getElem? this)

/-- A transaction in a block, its rows behind another one. -/
def BoxAt (w : World) (B base : Nat) (t : Tx) (g0 : Option Addr) (g1 : Nat) (g2 : Option Addr) (g3 : Nat) (g4 : Option Addr) (g5 : Nat) : Prop :=
  w.heap[B]? = some (Obj.cells #[.int .i64 t.seq, .slice g0 t.info.length g1, .slice g2 t.data.length g3, .slice g4 t.rev.length g5, .bool t.h0.on, .int .i64 t.h0.left, .bool t.h1.on, .int .i64 t.h1.left, .bool t.h2.on, .int .i64 t.h2.left] 40 (0, 0)) ∧ IsTx w (.agg #[.int .i64 t.seq, .slice g0 t.info.length g1, .slice g2 t.data.length g3, .slice g4 t.rev.length g5, .bool t.h0.on, .int .i64 t.h0.left, .bool t.h1.on, .int .i64 t.h1.left, .bool t.h2.on, .int .i64 t.h2.left]) t ∧ RowsFrom base (.agg #[.int .i64 t.seq, .slice g0 t.info.length g1, .slice g2 t.data.length g3, .slice g4 t.rev.length g5, .bool t.h0.on, .int .i64 t.h0.left, .bool t.h1.on, .int .i64 t.h1.left, .bool t.h2.on, .int .i64 t.h2.left]) t
theorem BoxAt.lt {w : World} {B base : Nat} {t : Tx} {g0 : Option Addr} {g1 : Nat} {g2 : Option Addr} {g3 : Nat} {g4 : Option Addr} {g5 : Nat} (h : BoxAt w B base t g0 g1 g2 g3 g4 g5) : B < w.heap.size := (Array.getElem?_eq_some_iff.1 h.1).1
theorem BoxAt.below {w w' : World} {B base : Nat} {t : Tx} {g0 : Option Addr} {g1 : Nat} {g2 : Option Addr} {g3 : Nat} {g4 : Option Addr} {g5 : Nat} (h : BoxAt w B base t g0 g1 g2 g3 g4 g5) (hb : Below w.heap.size w w') : BoxAt w' B base t g0 g1 g2 g3 g4 g5 :=
  ⟨boxKeep hb h.lt h.1, h.2.1.below hb, h.2.2⟩
/-- A transaction stored into an elder block. -/
theorem BoxAt.put {w : World} {B C base : Nat} {x : Tx} {g0 : Option Addr} {g1 : Nat} {g2 : Option Addr} {g3 : Nat} {g4 : Option Addr} {g5 : Nat} (h : BoxAt w C base x g0 g1 g2 g3 g4 g5) (hB : B < base) {u0 u1 u2 u3 u4 u5 u6 u7 u8 u9 : Value} (hK : w.heap[B]? = some (.cells #[u0, u1, u2, u3, u4, u5, u6, u7, u8, u9] 40 (0, 0))) :
    BoxAt ((((((((((w.setCell ⟨B, 0, none⟩ (.int .i64 x.seq)).setCell ⟨B, 1, none⟩ (.slice g0 x.info.length g1)).setCell ⟨B, 2, none⟩ (.slice g2 x.data.length g3)).setCell ⟨B, 3, none⟩ (.slice g4 x.rev.length g5)).setCell ⟨B, 4, none⟩ (.bool x.h0.on)).setCell ⟨B, 5, none⟩ (.int .i64 x.h0.left)).setCell ⟨B, 6, none⟩ (.bool x.h1.on)).setCell ⟨B, 7, none⟩ (.int .i64 x.h1.left)).setCell ⟨B, 8, none⟩ (.bool x.h2.on)).setCell ⟨B, 9, none⟩ (.int .i64 x.h2.left)) B base x g0 g1 g2 g3 g4 g5 :=
  ⟨box10Set hK _ _ _ _ _ _ _ _ _ _, h.2.1.set10 h.2.2 hB _ _ _ _ _ _ _ _ _ _, h.2.2⟩
theorem BoxAt.made {w : World} {base : Nat} {x : Tx} {g0 : Option Addr} {g1 : Nat} {g2 : Option Addr} {g3 : Nat} {g4 : Option Addr} {g5 : Nat} (h : IsTx w (.agg #[.int .i64 x.seq, .slice g0 x.info.length g1, .slice g2 x.data.length g3, .slice g4 x.rev.length g5, .bool x.h0.on, .int .i64 x.h0.left, .bool x.h1.on, .int .i64 x.h1.left, .bool x.h2.on, .int .i64 x.h2.left]) x) (hr : RowsFrom base (.agg #[.int .i64 x.seq, .slice g0 x.info.length g1, .slice g2 x.data.length g3, .slice g4 x.rev.length g5, .bool x.h0.on, .int .i64 x.h0.left, .bool x.h1.on, .int .i64 x.h1.left, .bool x.h2.on, .int .i64 x.h2.left]) x) :
    BoxAt (w.alloc (Obj.cells #[.int .i64 x.seq, .slice g0 x.info.length g1, .slice g2 x.data.length g3, .slice g4 x.rev.length g5, .bool x.h0.on, .int .i64 x.h0.left, .bool x.h1.on, .int .i64 x.h1.left, .bool x.h2.on, .int .i64 x.h2.left] 40)) w.heap.size base x g0 g1 g2 g3 g4 g5 :=
  ⟨heap_alloc_new w _, h.below (below1 _ _), hr⟩
theorem BoxAt.make {w w1 : World} {B base b : Nat} {v : Value} {x t : Tx} {g0 : Option Addr} {g1 : Nat} {g2 : Option Addr} {g3 : Nat} {g4 : Option Addr} {g5 : Nat} (h : IsTx w (.agg #[.int .i64 x.seq, .slice g0 x.info.length g1, .slice g2 x.data.length g3, .slice g4 x.rev.length g5, .bool x.h0.on, .int .i64 x.h0.left, .bool x.h1.on, .int .i64 x.h1.left, .bool x.h2.on, .int .i64 x.h2.left]) x)
    (hd : (.agg #[.int .i64 x.seq, .slice g0 x.info.length g1, .slice g2 x.data.length g3, .slice g4 x.rev.length g5, .bool x.h0.on, .int .i64 x.h0.left, .bool x.h1.on, .int .i64 x.h1.left, .bool x.h2.on, .int .i64 x.h2.left] : Value) = v ∨ RowsFrom b (.agg #[.int .i64 x.seq, .slice g0 x.info.length g1, .slice g2 x.data.length g3, .slice g4 x.rev.length g5, .bool x.h0.on, .int .i64 x.h0.left, .bool x.h1.on, .int .i64 x.h1.left, .bool x.h2.on, .int .i64 x.h2.left]) x) (h1 : IsTx w1 v t) (hr : RowsFrom base (.agg #[.int .i64 x.seq, .slice g0 x.info.length g1, .slice g2 x.data.length g3, .slice g4 x.rev.length g5, .bool x.h0.on, .int .i64 x.h0.left, .bool x.h1.on, .int .i64 x.h1.left, .bool x.h2.on, .int .i64 x.h2.left]) x) {u0 u1 u2 u3 u4 u5 u6 u7 u8 u9 : Value} (hK : w.heap[B]? = some (.cells #[u0, u1, u2, u3, u4, u5, u6, u7, u8, u9] 40 (0, 0))) (hB1 : w1.heap.size ≤ B) (hB2 : B < b) :
    BoxAt ((((((((((w.setCell ⟨B, 0, none⟩ (.int .i64 x.seq)).setCell ⟨B, 1, none⟩ (.slice g0 x.info.length g1)).setCell ⟨B, 2, none⟩ (.slice g2 x.data.length g3)).setCell ⟨B, 3, none⟩ (.slice g4 x.rev.length g5)).setCell ⟨B, 4, none⟩ (.bool x.h0.on)).setCell ⟨B, 5, none⟩ (.int .i64 x.h0.left)).setCell ⟨B, 6, none⟩ (.bool x.h1.on)).setCell ⟨B, 7, none⟩ (.int .i64 x.h1.left)).setCell ⟨B, 8, none⟩ (.bool x.h2.on)).setCell ⟨B, 9, none⟩ (.int .i64 x.h2.left)) B base x g0 g1 g2 g3 g4 g5 :=
  ⟨box10Set hK _ _ _ _ _ _ _ _ _ _, IsTx.put10 h hd h1 hB1 hB2, hr⟩
theorem RowsFrom.same {base : Nat} {x t : Tx} {v : Value} {g0 : Option Addr} {g1 : Nat} {g2 : Option Addr} {g3 : Nat} {g4 : Option Addr} {g5 : Nat} (h : RowsFrom base v t) (e : (.agg #[.int .i64 x.seq, .slice g0 x.info.length g1, .slice g2 x.data.length g3, .slice g4 x.rev.length g5, .bool x.h0.on, .int .i64 x.h0.left, .bool x.h1.on, .int .i64 x.h1.left, .bool x.h2.on, .int .i64 x.h2.left] : Value) = v) : RowsFrom base (.agg #[.int .i64 x.seq, .slice g0 x.info.length g1, .slice g2 x.data.length g3, .slice g4 x.rev.length g5, .bool x.h0.on, .int .i64 x.h0.left, .bool x.h1.on, .int .i64 x.h1.left, .bool x.h2.on, .int .i64 x.h2.left]) x := by
  obtain ⟨a, c, a', c', r, d, e2, h1, h2, h3⟩ := h
  rw [← e] at e2
  simp only [Value.agg.injEq] at e2
  injection e2 with e2
  simp only [List.cons.injEq, Value.slice.injEq, and_true] at e2
  obtain ⟨_, ⟨rfl, _, rfl⟩, ⟨rfl, _, rfl⟩, ⟨rfl, _, rfl⟩, _⟩ := e2
  exact ⟨_, _, _, _, _, _, rfl, h1, h2, h3⟩

set_option maxHeartbeats 8000000 in
set_option maxRecDepth 100000 in
theorem fits_walk (la : Option Addr) (lc : Nat) (l : List Od) (free : Int) (w : World) (hL : SegO w la l) (hok : ∀ x ∈ l, OdOk x) (wf : -9223372036854775808 ≤ free ∧ free ≤ 9223372036854775807) :
    Calls Try.prog 5 #[.slice la l.length lc, .int .i64 free] w fun e w' => e = .returned (.bool true) ∧ Below w.heap.size w w' := by
  have HL := hide hL
  have HOK := hide hok
  clear hL hok
  go_enter Try.func5, Try.ntmps5
  go_wp2_with fail
  refine (pick_any free 25 _ (by omega) (by omega) wf.1 wf.2).mono ?_
  rintro e w1 ⟨rfl, rfl⟩
  clear wf
  generalize free % 25 = F
  go_wp2_with fail
  refine (namesK_any _).mono ?_
  rintro e w1 ⟨rfl, hb1⟩
  have HB1 := hide hb1
  clear hb1
  go_wp2_with fail
  have HW := hide (below1 w1 (Obj.cells #[.int .i64 1, .slice none 0 0, .slice none 0 0, .slice none 0 0, .bool false, .int .i64 0, .bool false, .int .i64 0, .bool false, .int .i64 0] 40))
  have BX : Hid (BoxAt (w1.alloc (Obj.cells #[.int .i64 1, .slice none 0 0, .slice none 0 0, .slice none 0 0, .bool false, .int .i64 0, .bool false, .int .i64 0, .bool false, .int .i64 0] 40)) w1.heap.size (w1.heap.size + 1) tx0 none 0 none 0 none 0) :=
    ⟨heap_alloc_new w1 _, tx0_is _, ⟨none, 0, none, 0, none, 0, rfl, fun _ _ e => (by cases e), fun _ _ e => (by cases e), fun _ _ e => (by cases e)⟩⟩
  have HB2 := hide (bthen HB1.out HW.out)
  have HL2 := hide (HL.out)
  obtain ⟨B0, hB0⟩ : ∃ B0, B0 = w1.heap.size := ⟨_, rfl⟩
  have hBw : w.heap.size ≤ B0 := by rw [hB0]; exact HB1.out.size
  rw [← hB0] at BX ⊢
  generalize w1.alloc (Obj.cells #[.int .i64 1, .slice none 0 0, .slice none 0 0, .slice none 0 0, .bool false, .int .i64 0, .bool false, .int .i64 0, .bool false, .int .i64 0] 40) = w0 at *
  clear hB0 HB1 HW HL2
  go_loopg [6, 7] 60 (fun gk bgv i wr => ∃ (k : Nat) (bg : Bool) (t : Tx) (c0 : Option Addr) (c1 : Nat) (c2 : Option Addr) (c3 : Nat) (c4 : Option Addr) (c5 : Nat), gk = 60 - k ∧ k ≤ l.length ∧ k ≤ 60 ∧ bgv = .bool bg ∧ i = .int .i64 k ∧ Hid (BoxAt wr B0 (B0 + 1) t c0 c1 c2 c3 c4 c5) ∧ Hid (goodX t = true) ∧ Hid (bg = true → mostN (askedN t) ≤ F) ∧ Hid (Below w.heap.size w wr))
  case atStart => exact ⟨0, false, tx0, none, 0, none, 0, none, 0, rfl, Nat.zero_le _, Nat.zero_le _, rfl, rfl, BX, (by decide +kernel : goodX tx0 = true), fun e => (by cases e), HB2⟩
  case round =>
    obtain ⟨k, bg, t, c0, c1, c2, c3, c4, c5, rfl, hk, hk60, rfl, rfl, BXr, HG, HM, HBr⟩ := hrel
    clear BX HB2
    by_cases hlt : k < l.length
    · by_cases h60 : k < 60
      · have hlt' : (k : Int) < (l.length : Int) := by omega
        have h60' : (k : Int) < 60 := by omega
        obtain ⟨ob, off, rfl, hob, hoc⟩ := HL.out.resolve_left (by intro e; rw [e] at hlt; simp at hlt)
        obtain ⟨ok0, ok1, ok2, ok3, ok4⟩ := hoc k hlt
        obtain ⟨wk, wh, wb, ws⟩ := od_ok HOK.out hlt
        generalize l.getD k od0 = od at *
        obtain ⟨kd, hd, bd, nd, sd⟩ := od
        replace ok0 := cellKeep HBr.out hob ok0
        replace ok1 := cellKeep HBr.out hob ok1
        replace ok2 := cellKeep HBr.out hob ok2
        replace ok3 := cellKeep HBr.out hob ok3
        replace ok4 := cellKeep HBr.out hob ok4
        have hobr : ob < wr.heap.size := Nat.lt_of_lt_of_le hob HBr.out.size
        clear hoc
        have hsm := good_small HG.out
        obtain ⟨hgY, hA, hM⟩ := follow_keeps (t := t) (k := kd % 5) (h := hd % 3) (b := bd % 12) (n := nd) (free := F) (s := fitT sd) HG.out
        have hroom := good_room hgY
        have HC : Hid (∀ W, IsTx W (.agg #[.int .i64 t.seq, .slice c0 t.info.length c1, .slice c2 t.data.length c3, .slice c4 t.rev.length c5, .bool t.h0.on, .int .i64 t.h0.left, .bool t.h1.on, .int .i64 t.h1.left, .bool t.h2.on, .int .i64 t.h2.left]) t → Calls Try.prog 30 #[.agg #[.int .i64 t.seq, .slice c0 t.info.length c1, .slice c2 t.data.length c3, .slice c4 t.rev.length c5, .bool t.h0.on, .int .i64 t.h0.left, .bool t.h1.on, .int .i64 t.h1.left, .bool t.h2.on, .int .i64 t.h2.left], .agg #[.int .i64 kd, .int .i64 hd, .int .i64 bd, .int .i64 nd, .string sd], .int .i64 F] W fun e w' => ∃ v2, e = .returned (.tuple #[v2, .int .i64 (followE t (kd % 5) (hd % 3) (bd % 12) nd F (fitT sd))]) ∧ IsTx w' v2 (followT t (kd % 5) (hd % 3) (bd % 12) nd F (fitT sd)) ∧ (v2 = .agg #[.int .i64 t.seq, .slice c0 t.info.length c1, .slice c2 t.data.length c3, .slice c4 t.rev.length c5, .bool t.h0.on, .int .i64 t.h0.left, .bool t.h1.on, .int .i64 t.h1.left, .bool t.h2.on, .int .i64 t.h2.left] ∨ RowsFrom W.heap.size v2 (followT t (kd % 5) (hd % 3) (bd % 12) nd F (fitT sd))) ∧ Below W.heap.size W w') :=
          fun W hW => follow_all _ t kd hd bd nd F sd W hW (by omega) (by omega) ws wk wh wb
        have HPK : Hid (∀ W, Calls Try.prog 11 #[.int .i64 kd, .int .i64 5] W fun e w' => e = .returned (.int .i64 (kd % 5)) ∧ W = w') := fun W => pick_any kd 5 W (by omega) (by omega) wk.1 wk.2
        have HS : Hid (¬ followE t (kd % 5) (hd % 3) (bd % 12) nd F (fitT sd) = 0 → followT t (kd % 5) (hd % 3) (bd % 12) nd F (fitT sd) = t) := fun e => follow_same e
        have HGY0 := hide hgY
        have HA := hide hA
        have HMB := hide hM
        have HR := hide hroom
        clear hgY hA hM hroom hsm wk wh wb ws
        generalize followE t (kd % 5) (hd % 3) (bd % 12) nd F (fitT sd) = ee at *
        generalize followT t (kd % 5) (hd % 3) (bd % 12) nd F (fitT sd) = Y at *
        generalize kd % 5 = K5 at *
        go_upto_region 9 with fail
        go_cut [8, 9] from 17 to 100 (fun p e wx => ∃ (B : Nat) (g0 : Option Addr) (g1 : Nat) (g2 : Option Addr) (g3 : Nat) (g4 : Option Addr) (g5 : Nat), p = .pointer (some ⟨B, 0, none⟩) ∧ e = .int .i64 ee ∧ Hid (BoxAt wx B (B0 + 1) Y g0 g1 g2 g3 g4 g5) ∧ Hid (Below wr.heap.size wr wx))
        case first =>
          obtain ⟨⟨x0, x1, x2, x3, x4, x5, x6, x7, x8, x9⟩, _⟩ := box10 BXr.out.1
          have hl0 := BXr.out.lt
          have HTX := hide BXr.out.2.1
          have HFX := hide BXr.out.2.2
          go_region_with (first
            | (go_at_call 30; refine (HC.out _ (BXr.out.2.1.below (by first | exact (Below.refl _ _).drew | exact (Below.refl _ _).drew.alloc (Nat.le_refl _) _))).mono ?_; rintro e w4 ⟨v2, rfl, h2, hf2, hb4⟩; have hB4 : Below wr.heap.size wr w4 := (by first | exact ((Below.refl _ _).drew).trans hb4 | exact ((Below.refl _ _).drew.alloc (Nat.le_refl _) _).trans (hb4.mono (by simp))); have hz4 := hb4.size; have HI4 := hide h2; have HR4 := hide hf2; clear hf2; obtain ⟨g0, g1, g2, g3, g4, g5, rfl, _, _, _, _, _, _⟩ := h2; (first | (have KZ4 : Hid (w4.heap[wr.heap.size]? = some (.cells #[.int .i64 0, .slice none 0 0, .slice none 0 0, .slice none 0 0, .bool false, .int .i64 0, .bool false, .int .i64 0, .bool false, .int .i64 0] 40 (0, 0))) := one1 (w := wr.drew) (o := Obj.cells #[.int .i64 0, .slice none 0 0, .slice none 0 0, .slice none 0 0, .bool false, .int .i64 0, .bool false, .int .i64 0, .bool false, .int .i64 0] 40) hb4; obtain ⟨⟨z0, z1, z2, z3, z4, z5, z6, z7, z8, z9⟩, zf⟩ := box10 KZ4.out) | skip)))
          all_goals
            go_wp2_with fail
            go_meet
            have hRF : RowsFrom (B0 + 1) (.agg #[.int .i64 Y.seq, .slice g0 Y.info.length g1, .slice g2 Y.data.length g3, .slice g4 Y.rev.length g5, .bool Y.h0.on, .int .i64 Y.h0.left, .bool Y.h1.on, .int .i64 Y.h1.left, .bool Y.h2.on, .int .i64 Y.h2.left]) Y := by
              rcases HR4.out with e | e
              · exact HFX.out.same e
              · exact e.mono (by first | omega | (simp; omega))
            refine ⟨_, g0, g1, g2, g3, g4, g5, rfl, rfl, hide ?_, hide ?_⟩
            · first
                | (with_reducible refine BoxAt.made ?_ hRF; exact HI4.out)
                | (with_reducible refine BoxAt.make HI4.out HR4.out HTX.out hRF KZ4.out ?_ ?_; exact Nat.le_refl _; simp)
            · first
                | (with_reducible refine Below.alloc ?_ ?_ _; exact hB4; exact hB4.size)
                | (with_reducible refine Below.set10 ?_ ?_ _ _ _ _ _ _ _ _ _ _; exact hB4; omega)
        case rest =>
          obtain ⟨BY, g0, g1, g2, g3, g4, g5, rfl, rfl, BY1, hbc⟩ := hcut
          obtain ⟨w2, rfl⟩ : ∃ w2, w2 = wc := ⟨_, rfl⟩
          have BX2 := hide (BXr.out.below hbc.out)
          have HB3 := hide (bthen HBr.out hbc.out)
          replace ok0 := cellKeep hbc.out hobr ok0
          have hob2 := Nat.lt_of_lt_of_le hobr hbc.out.size
          have hl0 := BX2.out.lt
          have hlY := BY1.out.lt
          clear ok1 ok2 ok3 ok4 BXr HBr hbc HC hobr
          have HGY : Hid (∀ W v, IsTx W v Y → Calls Try.prog 22 #[v] W fun e w' => e = .returned (.bool true) ∧ Below W.heap.size W w') := fun W v hW => by
            have hs := good_small HGY0.out
            have := tGood_any v Y W hW (by omega) (by omega)
            rw [HGY0.out] at this
            exact this
          have HAY : Hid (∀ W v, IsTx W v Y → Calls Try.prog 24 #[v] W fun e w' => e = .returned (.int .i64 (askedN Y)) ∧ Below W.heap.size W w') := fun W v hW => tAsked_any v Y W hW
          have HAT : Hid (∀ W v, IsTx W v t → Calls Try.prog 24 #[v] W fun e w' => e = .returned (.int .i64 (askedN t)) ∧ Below W.heap.size W w') := fun W v hW => tAsked_any v t W hW
          go_upto_region 10 with fail
          go_cut [47] from 17 to 100 (fun c wx => c = .bool (ee == 0 && K5 == 0) ∧ wx = w2)
          case first =>
            cases he : ee == 0 with
            | false =>
              go_wp2_with fail
              go_meet
              exact ⟨by rw [he]; rfl, rfl⟩
            | true =>
              go_wp2_with (go_at_call 11; refine (HPK.out _).mono ?_; rintro e w10 ⟨rfl, rfl⟩)
              go_meet
              exact ⟨by rw [he]; rfl, rfl⟩
          case rest =>
            obtain ⟨rfl, hw2⟩ := hcut
            have hw2' := hw2.symm
            subst hw2'
            go_upto_if 47 with fail
            go_cut [6] from 17 to 100 (fun c wx => c = .bool (bg || (ee == 0 && K5 == 0)) ∧ wx = w2)
            case first =>
              cases hc : (ee == 0 && K5 == 0) with
              | false =>
                go_wp2_with fail
                go_meet
                exact ⟨by rw [hc, Bool.or_false], rfl⟩
              | true =>
                go_wp2_with fail
                go_meet
                exact ⟨by rw [hc, Bool.or_true], rfl⟩
            case rest =>
              obtain ⟨rfl, hw2⟩ := hcut
              have hw2' := hw2.symm
              subst hw2'
              have HM2 : Hid ((bg || (ee == 0 && K5 == 0)) = true → mostN (askedN Y) ≤ F) := by
                intro hc
                by_cases hb0 : ee = 0 ∧ K5 = 0
                · exact HMB.out hb0.1 hb0.2
                · have hbg : bg = true := by
                    rcases Bool.or_eq_true_iff.1 hc with h | h
                    · exact h
                    · exact absurd (by simpa using h) hb0
                  by_cases he : ee = 0
                  · exact Int.le_trans (most_mono (HA.out (fun e => hb0 ⟨he, e⟩))) (HM.out hbg)
                  · rw [HS.out he]; exact HM.out hbg
              generalize (bg || (ee == 0 && K5 == 0)) = bg2 at *
              go_upto_region 12 with fail
              go_cut [70] from 17 to 100 (fun c wx => c = .bool false ∧ Hid (Below w2.heap.size w2 wx))
              case first =>
                have HALL : Hid (∀ w', Below w2.heap.size w2 w' → Hid (Below w2.heap.size w2 w') ∧ w'.cell? ⟨BY, 0, none⟩ = some (.int .i64 Y.seq) ∧ w'.cell? ⟨BY, 1, none⟩ = some (.slice g0 Y.info.length g1) ∧ w'.cell? ⟨BY, 2, none⟩ = some (.slice g2 Y.data.length g3) ∧ w'.cell? ⟨BY, 3, none⟩ = some (.slice g4 Y.rev.length g5) ∧ w'.cell? ⟨BY, 4, none⟩ = some (.bool Y.h0.on) ∧ w'.cell? ⟨BY, 5, none⟩ = some (.int .i64 Y.h0.left) ∧ w'.cell? ⟨BY, 6, none⟩ = some (.bool Y.h1.on) ∧ w'.cell? ⟨BY, 7, none⟩ = some (.int .i64 Y.h1.left) ∧ w'.cell? ⟨BY, 8, none⟩ = some (.bool Y.h2.on) ∧ w'.cell? ⟨BY, 9, none⟩ = some (.int .i64 Y.h2.left) ∧ w'.cell? ⟨B0, 0, none⟩ = some (.int .i64 t.seq) ∧ w'.cell? ⟨B0, 1, none⟩ = some (.slice c0 t.info.length c1) ∧ w'.cell? ⟨B0, 2, none⟩ = some (.slice c2 t.data.length c3) ∧ w'.cell? ⟨B0, 3, none⟩ = some (.slice c4 t.rev.length c5) ∧ w'.cell? ⟨B0, 4, none⟩ = some (.bool t.h0.on) ∧ w'.cell? ⟨B0, 5, none⟩ = some (.int .i64 t.h0.left) ∧ w'.cell? ⟨B0, 6, none⟩ = some (.bool t.h1.on) ∧ w'.cell? ⟨B0, 7, none⟩ = some (.int .i64 t.h1.left) ∧ w'.cell? ⟨B0, 8, none⟩ = some (.bool t.h2.on) ∧ w'.cell? ⟨B0, 9, none⟩ = some (.int .i64 t.h2.left) ∧ w'.cell? ⟨ob, off + k * 5, none⟩ = some (.int .i64 kd)) := by
                  intro w' hb
                  obtain ⟨⟨y0, y1, y2, y3, y4, y5, y6, y7, y8, y9⟩, _⟩ := box10 (boxKeep hb hlY BY1.out.1)
                  obtain ⟨⟨x0, x1, x2, x3, x4, x5, x6, x7, x8, x9⟩, _⟩ := box10 (boxKeep hb hl0 BX2.out.1)
                  exact ⟨hb, y0, y1, y2, y3, y4, y5, y6, y7, y8, y9, x0, x1, x2, x3, x4, x5, x6, x7, x8, x9, cellKeep hb hob2 ok0⟩
                by_cases he : ee = 0
                · subst he
                  by_cases hK : K5 = 0
                  · subst hK
                    clear HA HM HMB HS HR HM2 HAT HAY
                    refine wp_region_held_drew (S := (fun w' => Hid (Below w2.heap.size w2 w') ∧ w'.cell? ⟨BY, 0, none⟩ = some (.int .i64 Y.seq) ∧ w'.cell? ⟨BY, 1, none⟩ = some (.slice g0 Y.info.length g1) ∧ w'.cell? ⟨BY, 2, none⟩ = some (.slice g2 Y.data.length g3) ∧ w'.cell? ⟨BY, 3, none⟩ = some (.slice g4 Y.rev.length g5) ∧ w'.cell? ⟨BY, 4, none⟩ = some (.bool Y.h0.on) ∧ w'.cell? ⟨BY, 5, none⟩ = some (.int .i64 Y.h0.left) ∧ w'.cell? ⟨BY, 6, none⟩ = some (.bool Y.h1.on) ∧ w'.cell? ⟨BY, 7, none⟩ = some (.int .i64 Y.h1.left) ∧ w'.cell? ⟨BY, 8, none⟩ = some (.bool Y.h2.on) ∧ w'.cell? ⟨BY, 9, none⟩ = some (.int .i64 Y.h2.left) ∧ w'.cell? ⟨B0, 0, none⟩ = some (.int .i64 t.seq) ∧ w'.cell? ⟨B0, 1, none⟩ = some (.slice c0 t.info.length c1) ∧ w'.cell? ⟨B0, 2, none⟩ = some (.slice c2 t.data.length c3) ∧ w'.cell? ⟨B0, 3, none⟩ = some (.slice c4 t.rev.length c5) ∧ w'.cell? ⟨B0, 4, none⟩ = some (.bool t.h0.on) ∧ w'.cell? ⟨B0, 5, none⟩ = some (.int .i64 t.h0.left) ∧ w'.cell? ⟨B0, 6, none⟩ = some (.bool t.h1.on) ∧ w'.cell? ⟨B0, 7, none⟩ = some (.int .i64 t.h1.left) ∧ w'.cell? ⟨B0, 8, none⟩ = some (.bool t.h2.on) ∧ w'.cell? ⟨B0, 9, none⟩ = some (.int .i64 t.h2.left) ∧ w'.cell? ⟨ob, off + k * 5, none⟩ = some (.int .i64 kd))) (by kernel_rfl) (HALL.out _ ((Below.refl _ _).drew)) (fun hHeld => ?_)
                    have HN : Hid (Below w2.heap.size w2 w2.drew) := (Below.refl _ _).drew
                    refine held_take 0 _ 48 (.int .i64 0) (by kernel_rfl) (by kernel_rfl) (by kernel_rfl) rfl rfl rfl ?_ (fun _ _ _ h => h) (by assumption) ?_
                    · intro w hSw
                      go_simp
                    simp only [Act.put, List.setIfInBounds_toArray, List.set_cons_zero, List.set_cons_succ]
                    refine held_take 1 _ 49 (.bool true) (by kernel_rfl) (by kernel_rfl) (by kernel_rfl) rfl rfl rfl ?_ (fun _ _ _ h => h) (by assumption) ?_
                    · intro w hSw
                      go_simp
                    simp only [Act.put, List.setIfInBounds_toArray, List.set_cons_zero, List.set_cons_succ]
                    refine held_take 2 _ 50 (.bool true) (by kernel_rfl) (by kernel_rfl) (by kernel_rfl) rfl rfl rfl ?_ (fun _ _ _ h => h) (by assumption) ?_
                    · intro w hSw
                      go_simp
                    simp only [Act.put, List.setIfInBounds_toArray, List.set_cons_zero, List.set_cons_succ]
                    refine held_take 3 _ 51 (.slice (some ⟨ob, off, none⟩) l.length lc) (by kernel_rfl) (by kernel_rfl) (by kernel_rfl) rfl rfl rfl ?_ (fun _ _ _ h => h) (by assumption) ?_
                    · intro w hSw
                      go_simp
                    simp only [Act.put, List.setIfInBounds_toArray, List.set_cons_zero, List.set_cons_succ]
                    refine held_take 4 _ 52 (.int .i64 k) (by kernel_rfl) (by kernel_rfl) (by kernel_rfl) rfl rfl rfl ?_ (fun _ _ _ h => h) (by assumption) ?_
                    · intro w hSw
                      go_simp
                    simp only [Act.put, List.setIfInBounds_toArray, List.set_cons_zero, List.set_cons_succ]
                    refine held_take 5 _ 53 (.pointer (some ⟨ob, off + k * 5, none⟩)) (by kernel_rfl) (by kernel_rfl) (by kernel_rfl) rfl rfl rfl ?_ (fun _ _ _ h => h) (by assumption) ?_
                    · intro w hSw
                      go_simp
                    simp only [Act.put, List.setIfInBounds_toArray, List.set_cons_zero, List.set_cons_succ]
                    refine held_take 6 _ 54 (.pointer (some ⟨ob, off + k * 5, none⟩)) (by kernel_rfl) (by kernel_rfl) (by kernel_rfl) rfl rfl rfl ?_ (fun _ _ _ h => h) (by assumption) ?_
                    · intro w hSw
                      go_simp
                    simp only [Act.put, List.setIfInBounds_toArray, List.set_cons_zero, List.set_cons_succ]
                    refine held_take 7 _ 55 (.int .i64 kd) (by kernel_rfl) (by kernel_rfl) (by kernel_rfl) rfl rfl rfl ?_ (fun _ _ _ h => h) (by assumption) ?_
                    · intro w hSw
                      go_simp
                    simp only [Act.put, List.setIfInBounds_toArray, List.set_cons_zero, List.set_cons_succ]
                    refine wpAnyH_ready (rs := [8]) (by kernel_rfl) (by simp) ?_
                    refine AllReadyH.cons rfl (fun K hK => ?_) AllReadyH.nil
                    go_simp
                    refine (HPK.out _).mono ?_
                    rintro e w11 ⟨rfl, rfl⟩
                    go_wp2_with fail
                    refine hK.out _ _ (HALL.out _ HN.out) (fun hHeld1 => ?_)
                    clear hK K hHeld
                    have hHeld := hHeld1
                    refine held_take 9 _ 57 (.bool false) (by kernel_rfl) (by kernel_rfl) (by kernel_rfl) rfl rfl rfl ?_ (fun _ _ _ h => h) (by assumption) ?_
                    · intro w hSw
                      go_simp
                    simp only [Act.put, List.setIfInBounds_toArray, List.set_cons_zero, List.set_cons_succ]
                    refine held_take 10 _ 58 (.bool false) (by kernel_rfl) (by kernel_rfl) (by kernel_rfl) rfl rfl rfl ?_ (fun _ _ _ h => h) (by assumption) ?_
                    · intro w hSw
                      go_simp
                    simp only [Act.put, List.setIfInBounds_toArray, List.set_cons_zero, List.set_cons_succ]
                    refine held_take 11 _ 59 (.bool false) (by kernel_rfl) (by kernel_rfl) (by kernel_rfl) rfl rfl rfl ?_ (fun _ _ _ h => h) (by assumption) ?_
                    · intro w hSw
                      go_simp
                    simp only [Act.put, List.setIfInBounds_toArray, List.set_cons_zero, List.set_cons_succ]
                    refine held_skip 12 60 (by kernel_rfl) (by kernel_rfl) (by kernel_rfl) rfl (fun _ _ _ h => h) (by assumption) ?_
                    simp only [Act.put, List.setIfInBounds_toArray, List.set_cons_zero, List.set_cons_succ]
                    refine held_skip 13 61 (by kernel_rfl) (by kernel_rfl) (by kernel_rfl) rfl (fun _ _ _ h => h) (by assumption) ?_
                    simp only [Act.put, List.setIfInBounds_toArray, List.set_cons_zero, List.set_cons_succ]
                    refine held_skip 14 62 (by kernel_rfl) (by kernel_rfl) (by kernel_rfl) rfl (fun _ _ _ h => h) (by assumption) ?_
                    simp only [Act.put, List.setIfInBounds_toArray, List.set_cons_zero, List.set_cons_succ]
                    refine held_skip 15 63 (by kernel_rfl) (by kernel_rfl) (by kernel_rfl) rfl (fun _ _ _ h => h) (by assumption) ?_
                    simp only [Act.put, List.setIfInBounds_toArray, List.set_cons_zero, List.set_cons_succ]
                    refine held_skip 16 64 (by kernel_rfl) (by kernel_rfl) (by kernel_rfl) rfl (fun _ _ _ h => h) (by assumption) ?_
                    simp only [Act.put, List.setIfInBounds_toArray, List.set_cons_zero, List.set_cons_succ]
                    refine held_take 17 _ 65 (.bool false) (by kernel_rfl) (by kernel_rfl) (by kernel_rfl) rfl rfl rfl ?_ (fun _ _ _ h => h) (by assumption) ?_
                    · intro w hSw
                      go_simp
                    simp only [Act.put, List.setIfInBounds_toArray, List.set_cons_zero, List.set_cons_succ]
                    refine held_take 18 _ 66 (.bool false) (by kernel_rfl) (by kernel_rfl) (by kernel_rfl) rfl rfl rfl ?_ (fun _ _ _ h => h) (by assumption) ?_
                    · intro w hSw
                      go_simp
                    simp only [Act.put, List.setIfInBounds_toArray, List.set_cons_zero, List.set_cons_succ]
                    refine held_take 19 _ 67 (.agg #[.int .i64 Y.seq, .slice g0 Y.info.length g1, .slice g2 Y.data.length g3, .slice g4 Y.rev.length g5, .bool Y.h0.on, .int .i64 Y.h0.left, .bool Y.h1.on, .int .i64 Y.h1.left, .bool Y.h2.on, .int .i64 Y.h2.left]) (by kernel_rfl) (by kernel_rfl) (by kernel_rfl) rfl rfl rfl ?_ (fun _ _ _ h => h) (by assumption) ?_
                    · intro w hSw
                      go_simp
                    simp only [Act.put, List.setIfInBounds_toArray, List.set_cons_zero, List.set_cons_succ]
                    refine wpAnyH_ready (rs := [20]) (by kernel_rfl) (by simp) ?_
                    refine AllReadyH.cons rfl (fun K hK => ?_) AllReadyH.nil
                    go_simp
                    refine (HGY.out _ _ (BY1.out.2.1.below HN.out)).mono ?_
                    rintro e w12 ⟨rfl, hb12⟩
                    go_wp2_with fail
                    have HN2 := hide (bthen HN.out hb12)
                    refine hK.out _ _ (HALL.out _ HN2.out) (fun hHeld2 => ?_)
                    clear hK K hHeld hb12
                    refine held_take 21 _ 69 (.bool false) (by kernel_rfl) (by kernel_rfl) (by kernel_rfl) rfl rfl rfl ?_ (fun _ _ _ h => h) (by assumption) ?_
                    · intro w hSw
                      go_simp
                    simp only [Act.put, List.setIfInBounds_toArray, List.set_cons_zero, List.set_cons_succ]
                    refine held_take 22 _ 70 (.bool false) (by kernel_rfl) (by kernel_rfl) (by kernel_rfl) rfl rfl rfl ?_ (fun _ _ _ h => h) (by assumption) ?_
                    · intro w hSw
                      go_simp
                    simp only [Act.put, List.setIfInBounds_toArray, List.set_cons_zero, List.set_cons_succ]
                    refine wpAnyH_done (by kernel_rfl) ?_ _
                    go_wp2_with fail
                    go_meet
                    exact ⟨rfl, HN2⟩
                  · have hK' : (K5 == 0) = false := by simpa using hK
                    have hK'' : (K5 != 0) = true := by simpa using hK
                    have hle : ¬ (askedN t < askedN Y) := by have := HA.out hK; omega
                    have HLE := hide hle
                    generalize askedN t = qt at *
                    generalize askedN Y = qY at *
                    have hleb : decide (qt < qY) = false := by simpa using hle
                    clear HA HM HMB HS HR HM2 hle
                    go_region_held3 (fun w' => Hid (Below w2.heap.size w2 w') ∧ w'.cell? ⟨BY, 0, none⟩ = some (.int .i64 Y.seq) ∧ w'.cell? ⟨BY, 1, none⟩ = some (.slice g0 Y.info.length g1) ∧ w'.cell? ⟨BY, 2, none⟩ = some (.slice g2 Y.data.length g3) ∧ w'.cell? ⟨BY, 3, none⟩ = some (.slice g4 Y.rev.length g5) ∧ w'.cell? ⟨BY, 4, none⟩ = some (.bool Y.h0.on) ∧ w'.cell? ⟨BY, 5, none⟩ = some (.int .i64 Y.h0.left) ∧ w'.cell? ⟨BY, 6, none⟩ = some (.bool Y.h1.on) ∧ w'.cell? ⟨BY, 7, none⟩ = some (.int .i64 Y.h1.left) ∧ w'.cell? ⟨BY, 8, none⟩ = some (.bool Y.h2.on) ∧ w'.cell? ⟨BY, 9, none⟩ = some (.int .i64 Y.h2.left) ∧ w'.cell? ⟨B0, 0, none⟩ = some (.int .i64 t.seq) ∧ w'.cell? ⟨B0, 1, none⟩ = some (.slice c0 t.info.length c1) ∧ w'.cell? ⟨B0, 2, none⟩ = some (.slice c2 t.data.length c3) ∧ w'.cell? ⟨B0, 3, none⟩ = some (.slice c4 t.rev.length c5) ∧ w'.cell? ⟨B0, 4, none⟩ = some (.bool t.h0.on) ∧ w'.cell? ⟨B0, 5, none⟩ = some (.int .i64 t.h0.left) ∧ w'.cell? ⟨B0, 6, none⟩ = some (.bool t.h1.on) ∧ w'.cell? ⟨B0, 7, none⟩ = some (.int .i64 t.h1.left) ∧ w'.cell? ⟨B0, 8, none⟩ = some (.bool t.h2.on) ∧ w'.cell? ⟨B0, 9, none⟩ = some (.int .i64 t.h2.left) ∧ w'.cell? ⟨ob, off + k * 5, none⟩ = some (.int .i64 kd))
                      (first | exact HALL.out _ ((Below.refl _ _).drew) | (refine HALL.out _ ?_; assumption))
                      (first
                        | (go_at_call 11; (have hnow := (‹Hid (Below w2.heap.size w2 _) ∧ _›).1); have HNOW := hide hnow.out; refine (HPK.out _).mono ?_; clear hnow; rintro e w10 ⟨rfl, rfl⟩; have hbN := HNOW.out; clear HNOW)
                        | (go_at_call_of 24 (Y); (have hnow := (‹Hid (Below w2.heap.size w2 _) ∧ _›).1); have HNOW := hide hnow.out; refine (HAY.out _ _ (BY1.out.2.1.below hnow.out)).mono ?_; clear hnow; rintro e w10 ⟨rfl, hb10⟩; have hbN := bthen HNOW.out hb10; clear hb10 HNOW)
                        | (go_at_call_of 24 (t); (have hnow := (‹Hid (Below w2.heap.size w2 _) ∧ _›).1); have HNOW := hide hnow.out; refine (HAT.out _ _ (BX2.out.2.1.below hnow.out)).mono ?_; clear hnow; rintro e w10 ⟨rfl, hb10⟩; have hbN := bthen HNOW.out hb10; clear hb10 HNOW)
                        | (go_at_call 22; (have hnow := (‹Hid (Below w2.heap.size w2 _) ∧ _›).1); have HNOW := hide hnow.out; refine (HGY.out _ _ (BY1.out.2.1.below hnow.out)).mono ?_; clear hnow; rintro e w10 ⟨rfl, hb10⟩; have hbN := bthen HNOW.out hb10; clear hb10 HNOW))
                    all_goals
                      go_wp2_with fail
                      go_meet
                      exact ⟨rfl, hide (by assumption)⟩
                · have he' : (ee == 0) = false := by simpa using he
                  clear HA HM HMB HS HR HM2 HAT HAY
                  refine wp_region_held_drew (S := (fun w' => Hid (Below w2.heap.size w2 w') ∧ w'.cell? ⟨BY, 0, none⟩ = some (.int .i64 Y.seq) ∧ w'.cell? ⟨BY, 1, none⟩ = some (.slice g0 Y.info.length g1) ∧ w'.cell? ⟨BY, 2, none⟩ = some (.slice g2 Y.data.length g3) ∧ w'.cell? ⟨BY, 3, none⟩ = some (.slice g4 Y.rev.length g5) ∧ w'.cell? ⟨BY, 4, none⟩ = some (.bool Y.h0.on) ∧ w'.cell? ⟨BY, 5, none⟩ = some (.int .i64 Y.h0.left) ∧ w'.cell? ⟨BY, 6, none⟩ = some (.bool Y.h1.on) ∧ w'.cell? ⟨BY, 7, none⟩ = some (.int .i64 Y.h1.left) ∧ w'.cell? ⟨BY, 8, none⟩ = some (.bool Y.h2.on) ∧ w'.cell? ⟨BY, 9, none⟩ = some (.int .i64 Y.h2.left) ∧ w'.cell? ⟨B0, 0, none⟩ = some (.int .i64 t.seq) ∧ w'.cell? ⟨B0, 1, none⟩ = some (.slice c0 t.info.length c1) ∧ w'.cell? ⟨B0, 2, none⟩ = some (.slice c2 t.data.length c3) ∧ w'.cell? ⟨B0, 3, none⟩ = some (.slice c4 t.rev.length c5) ∧ w'.cell? ⟨B0, 4, none⟩ = some (.bool t.h0.on) ∧ w'.cell? ⟨B0, 5, none⟩ = some (.int .i64 t.h0.left) ∧ w'.cell? ⟨B0, 6, none⟩ = some (.bool t.h1.on) ∧ w'.cell? ⟨B0, 7, none⟩ = some (.int .i64 t.h1.left) ∧ w'.cell? ⟨B0, 8, none⟩ = some (.bool t.h2.on) ∧ w'.cell? ⟨B0, 9, none⟩ = some (.int .i64 t.h2.left) ∧ w'.cell? ⟨ob, off + k * 5, none⟩ = some (.int .i64 kd))) (by kernel_rfl) (HALL.out _ ((Below.refl _ _).drew)) (fun hHeld => ?_)
                  have HN : Hid (Below w2.heap.size w2 w2.drew) := (Below.refl _ _).drew
                  refine held_take 0 _ 48 (.int .i64 ee) (by kernel_rfl) (by kernel_rfl) (by kernel_rfl) rfl rfl rfl ?_ (fun _ _ _ h => h) (by assumption) ?_
                  · intro w hSw
                    go_simp
                  simp only [Act.put, List.setIfInBounds_toArray, List.set_cons_zero, List.set_cons_succ]
                  refine held_take 1 _ 49 (.bool false) (by kernel_rfl) (by kernel_rfl) (by kernel_rfl) rfl rfl rfl ?_ (fun _ _ _ h => h) (by assumption) ?_
                  · intro w hSw
                    go_simp
                  simp only [Act.put, List.setIfInBounds_toArray, List.set_cons_zero, List.set_cons_succ]
                  refine held_take 2 _ 50 (.bool false) (by kernel_rfl) (by kernel_rfl) (by kernel_rfl) rfl rfl rfl ?_ (fun _ _ _ h => h) (by assumption) ?_
                  · intro w hSw
                    go_simp
                  simp only [Act.put, List.setIfInBounds_toArray, List.set_cons_zero, List.set_cons_succ]
                  refine held_skip 3 51 (by kernel_rfl) (by kernel_rfl) (by kernel_rfl) rfl (fun _ _ _ h => h) (by assumption) ?_
                  simp only [Act.put, List.setIfInBounds_toArray, List.set_cons_zero, List.set_cons_succ]
                  refine held_skip 4 52 (by kernel_rfl) (by kernel_rfl) (by kernel_rfl) rfl (fun _ _ _ h => h) (by assumption) ?_
                  simp only [Act.put, List.setIfInBounds_toArray, List.set_cons_zero, List.set_cons_succ]
                  refine held_skip 5 53 (by kernel_rfl) (by kernel_rfl) (by kernel_rfl) rfl (fun _ _ _ h => h) (by assumption) ?_
                  simp only [Act.put, List.setIfInBounds_toArray, List.set_cons_zero, List.set_cons_succ]
                  refine held_skip 6 54 (by kernel_rfl) (by kernel_rfl) (by kernel_rfl) rfl (fun _ _ _ h => h) (by assumption) ?_
                  simp only [Act.put, List.setIfInBounds_toArray, List.set_cons_zero, List.set_cons_succ]
                  refine held_skip 7 55 (by kernel_rfl) (by kernel_rfl) (by kernel_rfl) rfl (fun _ _ _ h => h) (by assumption) ?_
                  simp only [Act.put, List.setIfInBounds_toArray, List.set_cons_zero, List.set_cons_succ]
                  refine held_skip 8 56 (by kernel_rfl) (by kernel_rfl) (by kernel_rfl) rfl (fun _ _ _ h => h) (by assumption) ?_
                  simp only [Act.put, List.setIfInBounds_toArray, List.set_cons_zero, List.set_cons_succ]
                  refine held_skip 9 57 (by kernel_rfl) (by kernel_rfl) (by kernel_rfl) rfl (fun _ _ _ h => h) (by assumption) ?_
                  simp only [Act.put, List.setIfInBounds_toArray, List.set_cons_zero, List.set_cons_succ]
                  refine held_take 10 _ 58 (.bool false) (by kernel_rfl) (by kernel_rfl) (by kernel_rfl) rfl rfl rfl ?_ (fun _ _ _ h => h) (by assumption) ?_
                  · intro w hSw
                    go_simp
                  simp only [Act.put, List.setIfInBounds_toArray, List.set_cons_zero, List.set_cons_succ]
                  refine held_take 11 _ 59 (.bool false) (by kernel_rfl) (by kernel_rfl) (by kernel_rfl) rfl rfl rfl ?_ (fun _ _ _ h => h) (by assumption) ?_
                  · intro w hSw
                    go_simp
                  simp only [Act.put, List.setIfInBounds_toArray, List.set_cons_zero, List.set_cons_succ]
                  refine held_skip 12 60 (by kernel_rfl) (by kernel_rfl) (by kernel_rfl) rfl (fun _ _ _ h => h) (by assumption) ?_
                  simp only [Act.put, List.setIfInBounds_toArray, List.set_cons_zero, List.set_cons_succ]
                  refine held_skip 13 61 (by kernel_rfl) (by kernel_rfl) (by kernel_rfl) rfl (fun _ _ _ h => h) (by assumption) ?_
                  simp only [Act.put, List.setIfInBounds_toArray, List.set_cons_zero, List.set_cons_succ]
                  refine held_skip 14 62 (by kernel_rfl) (by kernel_rfl) (by kernel_rfl) rfl (fun _ _ _ h => h) (by assumption) ?_
                  simp only [Act.put, List.setIfInBounds_toArray, List.set_cons_zero, List.set_cons_succ]
                  refine held_skip 15 63 (by kernel_rfl) (by kernel_rfl) (by kernel_rfl) rfl (fun _ _ _ h => h) (by assumption) ?_
                  simp only [Act.put, List.setIfInBounds_toArray, List.set_cons_zero, List.set_cons_succ]
                  refine held_skip 16 64 (by kernel_rfl) (by kernel_rfl) (by kernel_rfl) rfl (fun _ _ _ h => h) (by assumption) ?_
                  simp only [Act.put, List.setIfInBounds_toArray, List.set_cons_zero, List.set_cons_succ]
                  refine held_take 17 _ 65 (.bool false) (by kernel_rfl) (by kernel_rfl) (by kernel_rfl) rfl rfl rfl ?_ (fun _ _ _ h => h) (by assumption) ?_
                  · intro w hSw
                    go_simp
                  simp only [Act.put, List.setIfInBounds_toArray, List.set_cons_zero, List.set_cons_succ]
                  refine held_take 18 _ 66 (.bool false) (by kernel_rfl) (by kernel_rfl) (by kernel_rfl) rfl rfl rfl ?_ (fun _ _ _ h => h) (by assumption) ?_
                  · intro w hSw
                    go_simp
                  simp only [Act.put, List.setIfInBounds_toArray, List.set_cons_zero, List.set_cons_succ]
                  refine held_take 19 _ 67 (.agg #[.int .i64 Y.seq, .slice g0 Y.info.length g1, .slice g2 Y.data.length g3, .slice g4 Y.rev.length g5, .bool Y.h0.on, .int .i64 Y.h0.left, .bool Y.h1.on, .int .i64 Y.h1.left, .bool Y.h2.on, .int .i64 Y.h2.left]) (by kernel_rfl) (by kernel_rfl) (by kernel_rfl) rfl rfl rfl ?_ (fun _ _ _ h => h) (by assumption) ?_
                  · intro w hSw
                    go_simp
                  simp only [Act.put, List.setIfInBounds_toArray, List.set_cons_zero, List.set_cons_succ]
                  refine wpAnyH_ready (rs := [20]) (by kernel_rfl) (by simp) ?_
                  refine AllReadyH.cons rfl (fun K hK => ?_) AllReadyH.nil
                  go_simp
                  refine (HGY.out _ _ (BY1.out.2.1.below HN.out)).mono ?_
                  rintro e w12 ⟨rfl, hb12⟩
                  go_wp2_with fail
                  have HN2 := hide (bthen HN.out hb12)
                  refine hK.out _ _ (HALL.out _ HN2.out) (fun hHeld2 => ?_)
                  clear hK K hHeld hb12
                  refine held_take 21 _ 69 (.bool false) (by kernel_rfl) (by kernel_rfl) (by kernel_rfl) rfl rfl rfl ?_ (fun _ _ _ h => h) (by assumption) ?_
                  · intro w hSw
                    go_simp
                  simp only [Act.put, List.setIfInBounds_toArray, List.set_cons_zero, List.set_cons_succ]
                  refine held_take 22 _ 70 (.bool false) (by kernel_rfl) (by kernel_rfl) (by kernel_rfl) rfl rfl rfl ?_ (fun _ _ _ h => h) (by assumption) ?_
                  · intro w hSw
                    go_simp
                  simp only [Act.put, List.setIfInBounds_toArray, List.set_cons_zero, List.set_cons_succ]
                  refine wpAnyH_done (by kernel_rfl) ?_ _
                  go_wp2_with fail
                  go_meet
                  exact ⟨rfl, HN2⟩
              case rest =>
                obtain ⟨rfl, hb3⟩ := hcut
                obtain ⟨w3, rfl⟩ : ∃ w3, w3 = wc := ⟨_, rfl⟩
                have hl03 := Nat.lt_of_lt_of_le hl0 hb3.out.size
                have BY3 := hide (BY1.out.below hb3.out)
                have BX3 := hide (BX2.out.below hb3.out)
                replace HB3 := hide (bthen HB3.out hb3.out)
                clear BY1 BX2 hb3 HA HMB HS HM HAT HGY HPK ok0
                obtain ⟨hE0, hNM⟩ := HR.out
                have HE0 := hide hE0
                have HNM := hide hNM
                clear hE0 hNM HR
                obtain ⟨⟨y0, y1, y2, y3, y4, y5, y6, y7, y8, y9⟩, _⟩ := box10 BY3.out.1
                obtain ⟨⟨x0, x1, x2, x3, x4, x5, x6, x7, x8, x9⟩, xf⟩ := box10 BX3.out.1
                have BZ := hide (BoxAt.put BY3.out (Nat.lt_succ_self B0) BX3.out.1)
                have HB4 := hide (Below.set10 HB3.out hBw (.int .i64 Y.seq) (.slice g0 Y.info.length g1) (.slice g2 Y.data.length g3) (.slice g4 Y.rev.length g5) (.bool Y.h0.on) (.int .i64 Y.h0.left) (.bool Y.h1.on) (.int .i64 Y.h1.left) (.bool Y.h2.on) (.int .i64 Y.h2.left))
                go_upto_region 15 with fail
                clear y0 y1 y2 y3 y4 y5 y6 y7 y8 y9 x0 x1 x2 x3 x4 x5 x6 x7 x8 x9 xf BY3 BX3 HB3
                generalize ((((((((((w3.setCell ⟨B0, 0, none⟩ (.int .i64 Y.seq)).setCell ⟨B0, 1, none⟩ (.slice g0 Y.info.length g1)).setCell ⟨B0, 2, none⟩ (.slice g2 Y.data.length g3)).setCell ⟨B0, 3, none⟩ (.slice g4 Y.rev.length g5)).setCell ⟨B0, 4, none⟩ (.bool Y.h0.on)).setCell ⟨B0, 5, none⟩ (.int .i64 Y.h0.left)).setCell ⟨B0, 6, none⟩ (.bool Y.h1.on)).setCell ⟨B0, 7, none⟩ (.int .i64 Y.h1.left)).setCell ⟨B0, 8, none⟩ (.bool Y.h2.on)).setCell ⟨B0, 9, none⟩ (.int .i64 Y.h2.left)) = w4 at *
                have hl4 := BZ.out.lt
                obtain ⟨⟨x0, x1, x2, x3, x4, x5, x6, x7, x8, x9⟩, _⟩ := box10 BZ.out.1
                go_wp2_with fail
                refine (ringNeed_any (Y.info.length : Int) (Y.rev.length : Int) _).mono ?_
                rintro e w5 ⟨rfl, rfl⟩
                rw [HE0.out]
                generalize needN (Y.info.length : Int) (Y.rev.length : Int) = nn at *
                go_wp2_with fail
                refine (HAY.out _ _ BZ.out.2.1).mono ?_
                rintro e w5 ⟨rfl, hb5⟩
                have BZ5 := hide (BZ.out.below hb5)
                have HB5 := hide (bthen HB4.out hb5)
                clear hb5 x0 x1 x2 x3 x4 x5 x6 x7 x8 x9
                obtain ⟨⟨x0, x1, x2, x3, x4, x5, x6, x7, x8, x9⟩, _⟩ := box10 BZ5.out.1
                go_wp2_with fail
                refine (ringMost_any (askedN Y) _).mono ?_
                rintro e w6 ⟨rfl, rfl⟩
                have hnn : ¬ (mostN (askedN Y) < nn) := by have := HNM.out; omega
                cases bg2 with
                | false =>
                  generalize mostN (askedN Y) = mm at *
                  go_wp2_with fail
                  go_roundg (60 - (k + 1))
                  case measure => omega
                  case rel => exact ⟨k + 1, false, Y, g0, g1, g2, g3, g4, g5, rfl, by omega, by omega, rfl, by go_num, BZ5, HGY0, hide (fun e => Bool.noConfusion e), HB5⟩
                | true =>
                  have hmf : ¬ (F < mostN (askedN Y)) := by have := HM2.out rfl; omega
                  have HQ : Hid (∃ q, q = askedN Y) := ⟨_, rfl⟩
                  go_wp2_with fail
                  refine (HAY.out _ _ BZ5.out.2.1).mono ?_
                  rintro e w7 ⟨rfl, hb7⟩
                  have BZ7 := hide (BZ5.out.below hb7)
                  have HB7 := hide (bthen HB5.out hb7)
                  clear hb7 x0 x1 x2 x3 x4 x5 x6 x7 x8 x9
                  go_wp2_with fail
                  refine (ringMost_any (askedN Y) _).mono ?_
                  rintro e w8 ⟨rfl, rfl⟩
                  go_wp2_with fail
                  go_roundg (60 - (k + 1))
                  case measure => omega
                  case rel => exact ⟨k + 1, true, Y, g0, g1, g2, g3, g4, g5, rfl, by omega, by omega, rfl, by go_num, BZ7, HGY0, hide (fun _ => HM2.out trivial), HB7⟩
      · have h60' : ¬ ((k : Int) < 60) := by omega
        have hlt' : (k : Int) < (l.length : Int) := by omega
        go_wp2
        go_ret
        exact ⟨rfl, HBr.out⟩
    · have hlt' : ¬ ((k : Int) < (l.length : Int)) := by omega
      go_wp2
      go_ret
      exact ⟨rfl, HBr.out⟩

end Go.Proofs.Ytjnpndfpajjihab
