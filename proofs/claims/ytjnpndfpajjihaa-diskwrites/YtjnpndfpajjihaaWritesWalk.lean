/-
  The walk of the statement DiskWrites: it says true at every disk, two places and a text.
-/
import Derived.Test.YtjnpndfpajjihaaTurns
import Derived.Test.YtjnpndfpajjihaaKPure
namespace Go.Proofs.Ytjnpndfpajjihaa
open Go.RowKit

set_option maxHeartbeats 2000000 in
set_option maxRecDepth 100000 in
theorem writes_no (v : Value) (d : Dk) (n m : Int) (s : ByteArray) (w : World) (h : IsDk w v d) (hE : putE d n s ≠ 0) :
    Calls Try.prog 6 #[v, .int .i64 n, .int .i64 m, .string s] w fun e w' => e = .returned (.bool true) ∧ Below w.heap.size w w' := by
  have HI : Hid (IsDk w v d) := h
  obtain ⟨a, c, a', c', rfl, _, _, _, _⟩ := h
  go_enter Try.func6, Try.ntmps6
  go_wp2_with fail
  refine (put_any _ d n s _ (HI.out.below (below1 _ _))).mono ?_
  rintro e w1 ⟨v1, rfl, _, hv1, hb1⟩
  have hv := hv1 hE
  clear hv1
  subst hv
  have hE' : (putE d n s != 0) = true := by simpa using hE
  generalize putE d n s = k at *
  have hs1 : w.heap.size < w1.heap.size := by have := hb1.size; simp at this; omega
  have x0 := cellKeep hb1 (b := w.heap.size) (o := 0) (v := .slice a d.safe.length c) (by simp) (by simp [go_sem])
  have x1 := cellKeep hb1 (b := w.heap.size) (o := 1) (v := .slice a' d.wr.length c') (by simp) (by simp [go_sem])
  have hb2 := bthen (below1 _ _) hb1
  clear hb1 hE
  go_wp2_with fail
  refine (same_any _ _ d _ (HI.out.below (bthen hb2 (below1 _ _))) (HI.out.below (bthen hb2 (below1 _ _)))).mono ?_
  rintro e w3 ⟨rfl, hb3⟩
  have hb4 := bthen (bthen hb2 (below1 _ _)) hb3
  clear hb2 hb3 x0 x1
  go_wp2_with fail
  refine (turns_any _).mono ?_
  rintro e w5 ⟨rfl, hb5⟩
  have HB : Hid (Below w.heap.size w w5) := bthen hb4 hb5
  clear hb4 hb5
  go_wp2
  go_ret
  exact ⟨rfl, HB.out⟩

set_option maxHeartbeats 2000000 in
set_option maxRecDepth 100000 in
theorem writes_ok (v : Value) (d : Dk) (n m : Int) (s : ByteArray) (w : World) (h : IsDk w v d) (hE : putE d n s = 0) :
    Calls Try.prog 6 #[v, .int .i64 n, .int .i64 m, .string s] w fun e w' => e = .returned (.bool true) ∧ Below w.heap.size w w' := by
  have HI : Hid (IsDk w v d) := h
  obtain ⟨a, c, a', c', rfl, _, _, _, _⟩ := h
  have R1 := read_put hE
  have R2 := read_other hE m
  have R3 := good_put hE
  go_enter Try.func6, Try.ntmps6
  go_wp2_with fail
  refine (put_any _ d n s _ (HI.out.below (below1 _ _))).mono ?_
  rintro e w1 ⟨v1, rfl, hd1, _, hb1⟩
  rw [hE]
  generalize putK d n s = d1 at *
  have H1 : Hid (readT d1 n = s ∧ readE d1 n = 0) := R1
  have H2 : Hid (readE d1 m = readE d m ∧ (m ≠ n → readT d1 m = readT d m)) := R2
  have H3 : Hid (goodB d1 = true) := R3
  have HD1 : Hid (IsDk w1 v1 d1) := hd1
  obtain ⟨a1, c1, a1', c1', rfl, _, _, _, _⟩ := hd1
  have hs1 : w.heap.size < w1.heap.size := by have := hb1.size; simp at this; omega
  have x0 := cellKeep hb1 (b := w.heap.size) (o := 0) (v := .slice a d.safe.length c) (by simp) (by simp [go_sem])
  have x1 := cellKeep hb1 (b := w.heap.size) (o := 1) (v := .slice a' d.wr.length c') (by simp) (by simp [go_sem])
  have hb2 := bthen (below1 _ _) hb1
  clear hb1 hE R1 R2 R3
  go_wp2_with fail
  refine (turns_any _).mono ?_
  rintro e w3 ⟨rfl, hb3⟩
  have hs3 : w1.heap.size < w3.heap.size := by have := hb3.size; simp at this; omega
  have y0 := cellKeep hb3 (b := w1.heap.size) (o := 0) (v := .slice a1 d1.safe.length c1) (by simp) (by simp [go_sem])
  have y1 := cellKeep hb3 (b := w1.heap.size) (o := 1) (v := .slice a1' d1.wr.length c1') (by simp) (by simp [go_sem])
  have hb4 : Below w1.heap.size w1 w3 := bthen (below1 _ _) hb3
  have x2 := cellKeep hb4 hs1 x0
  have x3 := cellKeep hb4 hs1 x1
  clear x0 x1 hb3
  go_wp2_with fail
  refine (read_any _ d1 n _ (HD1.out.below hb4)).mono ?_
  rintro e w5 ⟨rfl, hb5⟩
  rw [H1.out.1, H1.out.2]
  have hs5 := hb5.size
  have y2 := cellKeep hb5 hs3 y0
  have y3 := cellKeep hb5 hs3 y1
  have x4 := cellKeep hb5 (by omega) x2
  have x5 := cellKeep hb5 (by omega) x3
  clear x2 x3 y0 y1
  go_wp2_with fail
  refine (read_any _ d1 m _ (HD1.out.below (bthen hb4 hb5))).mono ?_
  rintro e w6 ⟨rfl, hb6⟩
  rw [H2.out.1]
  have hs6 := hb6.size
  have y4 := cellKeep hb6 (by omega) y2
  have y5 := cellKeep hb6 (by omega) y3
  have x6 := cellKeep hb6 (by omega) x4
  have x7 := cellKeep hb6 (by omega) x5
  clear x4 x5 y2 y3
  have hb7 := bthen (bthen hb4 hb5) hb6
  go_wp2_with fail
  refine (read_any _ d m _ (HI.out.below (bthen hb2 hb7))).mono ?_
  rintro e w8 ⟨rfl, hb8⟩
  have hs8 := hb8.size
  have z0 := cellKeep hb8 (by omega) y4
  have z1 := cellKeep hb8 (by omega) y5
  clear x6 x7 y4 y5
  have HD8 : Hid (IsDk w8 _ d1) := HD1.out.below (bthen hb7 hb8)
  have hb9 : Below w.heap.size w w8 := bthen hb2 (bthen hb7 hb8)
  clear hb2 hb4 hb5 hb6 hb7 hb8
  by_cases hmn : m = n
  · have hmn' : (m == n) = true := by simp [hmn]
    clear hmn
    go_wp2_with fail
    refine (good_any _ d1 _ HD8.out).mono ?_
    rintro e w10 ⟨rfl, hb10⟩
    rw [H3.out]
    have HB : Hid (Below w.heap.size w w10) := bthen hb9 hb10
    clear hb9 hb10
    go_wp2
    go_ret
    exact ⟨rfl, HB.out⟩
  · have hmn' : (m == n) = false := by simpa using hmn
    rw [H2.out.2 hmn]
    clear hmn
    go_wp2_with fail
    refine (good_any _ d1 _ HD8.out).mono ?_
    rintro e w10 ⟨rfl, hb10⟩
    rw [H3.out]
    have HB : Hid (Below w.heap.size w w10) := bthen hb9 hb10
    clear hb9 hb10
    go_wp2
    go_ret
    exact ⟨rfl, HB.out⟩

end Go.Proofs.Ytjnpndfpajjihaa
