/-
  The walks of package seal's write, flush and home.
-/
import Derived.Test.YtjnpndfpajjihabERows
import Derived.Test.YtjnpndfpajjihabTDefs
namespace Go.Proofs.Ytjnpndfpajjihab
open Go.RowKit

set_option maxHeartbeats 400000 in
theorem write_any (p : Int) (s : ByteArray) (w : World) :
    Calls Try.prog 113 #[.int .i64 p, .string s] w fun e w' => e = .returned (.agg #[.int .i64 1, .int .i64 p, .string s]) ∧ Below w.heap.size w w' := by
  go_enter Try.func113, Try.ntmps113
  go_wp2
  exact bodyPost_ret (v := .agg #[.int .i64 1, .int .i64 p, .string s]) (by simp [results, Try.results113, go_sem]) rfl ⟨rfl, below1 _ _⟩
set_option maxHeartbeats 400000 in
theorem flush1_any (w : World) :
    Calls Try.prog 114 #[] w fun e w' => e = .returned (.agg #[.int .i64 2, .int .i64 0, .string ⟨#[]⟩]) ∧ Below w.heap.size w w' := by
  go_enter Try.func114, Try.ntmps114
  go_wp2
  exact bodyPost_ret (v := .agg #[.int .i64 2, .int .i64 0, .string ⟨#[]⟩]) (by simp [results, Try.results114, go_sem]) rfl ⟨rfl, below1 _ _⟩

/-- The steps by which copies go home. -/
def homeM (l : List (Int × ByteArray)) : List St := l.map fun c => writeS (25 + c.1) c.2
def homeS (l : List (Int × ByteArray)) : List St := homeM l ++ (if l.length = 0 then [] else [flushS])
theorem homeM_length (l : List (Int × ByteArray)) : (homeM l).length = l.length := by simp [homeM]
theorem homeM_snoc {l : List (Int × ByteArray)} {k : Nat} {x : Int × ByteArray} (h : l[k]? = some x) : homeM (l.take (k + 1)) = homeM (l.take k) ++ [writeS (25 + x.1) x.2] := by
  rw [List.take_add_one, h, homeM, homeM, List.map_append]; rfl

set_option maxHeartbeats 2000000 in
set_option maxRecDepth 100000 in
theorem home_any (a : Option Addr) (c : Nat) (l : List (Int × ByteArray)) (w : World) (h : SegW w a l) (hn : l.length * 24 ≤ 140737488355328) (hb : ∀ x ∈ l, 0 ≤ x.1 ∧ x.1 ≤ 11) :
    Calls Try.prog 112 #[.slice a l.length c] w fun e w' => ∃ v', e = .returned v' ∧ w'.ownsRow w.heap.size 126 3 v' (homeS l).length (cellsSt (homeS l)) ∧ Below w.heap.size w w' := by
  have HS := hide h
  have HBD := hide hb
  clear h hb
  go_enter Try.func112, Try.ntmps112
  go_wp2
  go_loopw [3, 8] (fun s i wr => ∃ k : Nat, k ≤ l.length ∧ i = .int .i64 k ∧ Hid (wr.ownsRow w.heap.size 126 3 s (homeM (l.take k)).length (cellsSt (homeM (l.take k)))) ∧ Hid (Below w.heap.size w wr)) (fun _ i _ => l.length - (intOf i).toNat)
  case atStart => exact ⟨0, Nat.zero_le _, rfl, World.ownsRow_nil _ _ _ _, Below.refl _ _⟩
  case round =>
    obtain ⟨k, hk, rfl, hown, hbr⟩ := hrel
    by_cases hlt : k < l.length
    · obtain ⟨b2, off, rfl, hb, hc⟩ := HS.out.resolve_left (by intro e; rw [e] at hlt; simp at hlt)
      obtain ⟨x, hx⟩ : ∃ x, x = l.getD k (0, ByteArray.empty) := ⟨_, rfl⟩
      obtain ⟨hc1, hc2⟩ := hc k hlt
      rw [← hx] at hc1 hc2
      have HX : l[k]? = some x := by rw [hx]; exact getD_at _ _ _ hlt
      have hbd := HBD.out x (List.mem_of_getElem? HX)
      have g1 := cellKeep hbr.out hb hc1
      have g2 := cellKeep hbr.out hb hc2
      have HT := hide (homeM_snoc HX)
      have hq : (homeM (l.take k)).length ≤ k := by rw [homeM_length, List.length_take]; omega
      have hlt' : (k : Int) < (l.length : Int) := by omega
      clear hx hc hc1 hc2 HX
      obtain ⟨n, s⟩ := x
      obtain ⟨hb0, hb1⟩ : 0 ≤ n ∧ n ≤ 11 := hbd
      generalize homeM (l.take k) = q at *
      go_wp2_with fail
      refine (write_any (25 + n) s _).mono ?_
      rintro e w3 ⟨rfl, hb3⟩
      have HB3 := hide (bthen (bthen hbr.out (below1 _ _)) hb3)
      have HO3 := hide (owns_keep (owns_keep hown.out (below1 _ _)) hb3)
      clear hb3 hown hbr g1 g2
      go_wp2_with (at_builtin; refine wpList_appSt rfl _ _ rfl w.heap.size _ q rfl (owns_keep HO3.out (below1 _ _)) w3.heap.size (writeS (25 + n) s) rfl (by simp [go_sem, writeS]) (by simp [go_sem, writeS]) (by simp [go_sem, writeS]) (by omega) (Nat.le_trans HB3.out.size (by simp)) ?_)
      intro v' w' hown' hg'
      have hB' : Below w.heap.size w w' := (HB3.out.alloc HB3.out.size _).grown hg' (Nat.le_trans HB3.out.size (by simp)) (fun j hj => (HO3.out.lt j hj).1)
      go_wp2
      go_roundw
      case rel => exact ⟨k + 1, by omega, by go_num, by rw [HT.out]; exact hown', hB'⟩
      case measure => simp [intOf]; omega
    · have e : k = l.length := by omega
      subst e
      rw [List.take_length] at hown
      by_cases h0 : l.length = 0
      · have HE : Hid (homeS l = homeM l) := by rw [Hid, homeS, if_pos h0, List.append_nil]
        have h0' : ¬ ((0 : Int) < (l.length : Int)) := by omega
        go_wp2
        go_ret
        exact ⟨_, rfl, by rw [HE.out]; exact hown.out, hbr.out⟩
      · have HE : Hid (homeS l = homeM l ++ [flushS]) := by rw [Hid, homeS, if_neg h0]
        have h0' : (0 : Int) < (l.length : Int) := by omega
        have hq : (homeM l).length ≤ l.length := by rw [homeM_length]; omega
        generalize homeM l = q at *
        go_wp2_with fail
        refine (flush1_any _).mono ?_
        rintro e w3 ⟨rfl, hb3⟩
        have HB3 := hide (bthen hbr.out hb3)
        have HO3 := hide (owns_keep hown.out hb3)
        clear hb3 hown hbr
        go_wp2_with (at_builtin; refine wpList_appSt rfl _ _ rfl w.heap.size _ q rfl (owns_keep HO3.out (below1 _ _)) w3.heap.size flushS rfl (by simp [go_sem, flushS]) (by simp [go_sem, flushS]) (by simp [go_sem, flushS]) (by omega) (Nat.le_trans HB3.out.size (by simp)) ?_)
        intro v' w' hown' hg'
        have hB' : Below w.heap.size w w' := (HB3.out.alloc HB3.out.size _).grown hg' (Nat.le_trans HB3.out.size (by simp)) (fun j hj => (HO3.out.lt j hj).1)
        go_wp2
        go_ret
        exact ⟨_, rfl, by rw [HE.out]; exact hown', hB'⟩

end Go.Proofs.Ytjnpndfpajjihab
