/-
  slices.Chunk: the walk of the call, and the word of the iterator that it hands back.
-/
import Derived.Test.YtjnpndfpajjihabGreatEChunk
namespace Go.Proofs.YtjnpndfpajjihabGreat
open Go.RowKit Go.Shelf

attribute [local go_sem] Oper.semAt_some

set_option maxHeartbeats 400000 in
theorem chunkC_in (F : Fence) (n : Nat) (hF : F.fn 68) (hro : F.round = none) (a : Option Addr) (len cap : Nat) (w : World) :
    CallsIn F n Tryz.prog 68 #[.slice a len cap, .int .i64 10] w fun e w' => e = .returned (.func (.func 112) #[] #[.pointer (some ⟨w.heap.size, 0, none⟩), .pointer (some ⟨w.heap.size + 1, 0, none⟩)]) ∧ w' = (w.alloc (.cells #[.slice a len cap] 22)).alloc (.cells #[.int .i64 10] 3) := by
  refine callsIn_of_wp Tryz.func68 rfl hF ?_ hro
  simp only [Tryz.ntmps68, List.size_toArray, List.length_cons, List.length_nil, Nat.reduceAdd, Nat.reduceSub, Array.replicate_succ, Array.replicate_zero, List.push_toArray, List.append_toArray, List.nil_append, List.cons_append]
  gi_wp2
  go_ret
  exact ⟨rfl, rfl⟩

set_option maxHeartbeats 4000000 in
set_option maxRecDepth 100000 in
theorem chunkC_walk (F : Fence) (n : Nat) (hF : F.fn 112) (hro : F.round = none) (hn : 1 ≤ n) (l Bs Bn b off len cap : Nat) (hlen : len ≤ 1000) (hcap : len ≤ cap) (J : Nat → World → Prop) (hd : ∀ k V, J k V → J k V.drew)
    (hY : ∀ k V, k < partN len 10 → J k V → YieldAt F (n - 1) Tryz.prog l #[.slice (some ⟨b, off + 10 * k * 2, none⟩) (partL len 10 k) (partL len 10 k)] V fun e V' => e = .returned (.bool true) ∧ J (k + 1) V' ∧ KeepsB Bs Bn V V')
    (W : World) (hBs : Boxed W Bs 22 (.slice (some ⟨b, off, none⟩) len cap)) (hBn : Boxed W Bn 3 (.int .i64 10)) (h0 : J 0 W) :
    CallsIn F n Tryz.prog 112 #[.func (.yield l) #[] #[], .pointer (some ⟨Bs, 0, none⟩), .pointer (some ⟨Bn, 0, none⟩)] W fun e W' => (∃ v, e = .returned v) ∧ J (partN len 10) W' := by
  have hN : partN len 10 = (len + 9) / 10 := rfl
  have hcap' : (len : Int) ≤ (cap : Int) := by omega
  refine callsIn_of_wp Tryz.func112 rfl hF ?_ hro
  simp only [Tryz.ntmps112, List.size_toArray, List.length_cons, List.length_nil, Nat.reduceAdd, Nat.reduceSub, Array.replicate_succ, Array.replicate_zero, List.push_toArray, List.append_toArray, List.nil_append, List.cons_append]
  gi_wp2
  gi_loopw [4] (fun i wr => ∃ k : Nat, k ≤ partN len 10 ∧ i = .int .i64 ((10 * k : Nat) : Int) ∧ J k wr ∧ KeepsB Bs Bn W wr) (fun i _ => len + 10 - (intOf i).toNat)
  case atStart => exact ⟨0, Nat.zero_le _, rfl, h0, KeepsB.refl _ _ _⟩
  case round =>
    obtain ⟨k, hk, rfl, hJs, hKr⟩ := hrel
    have c1 := (hKr.boxed (.inl rfl) hBs).cell
    have c2 := (hKr.boxed (.inr rfl) hBn).cell
    by_cases hlt : 10 * k < len
    · have hlt' : ((10 * k : Nat) : Int) < (len : Int) := by omega
      have hk0 : (0 : Int) ≤ ((10 * k : Nat) : Int) := by omega
      obtain ⟨fn, tmps, assign, body, hy, hR⟩ := hY k wr.drew (by omega) (hd _ _ hJs)
      have hk1 : k + 1 ≤ partN len 10 := by omega
      obtain ⟨pl, hpl⟩ : ∃ pl, pl = partL len 10 k := ⟨_, rfl⟩
      rw [← hpl] at hy
      have hpl2 : pl = if 10 ≤ len - 10 * k then 10 else len - 10 * k := by rw [hpl, partL, Nat.mul_comm]
      obtain ⟨j, hj⟩ : ∃ j, j = 10 * k := ⟨_, rfl⟩
      rw [← hj] at hlt hlt' hk0 hy hpl2 ⊢
      have HJ := hide hj
      have hjc : ¬ cap = j := by omega
      have hjc' : (j : Int) ≤ (cap : Int) := by omega
      clear hj hpl
      by_cases hm : 10 ≤ len - j
      · have hp : pl = 10 := by rw [hpl2]; split <;> omega
        have hm' : ¬ (((len - j : Nat) : Int) < 10) := by omega
        subst hp
        clear hpl2
        have hsum : (j : Int) + ((len - j : Nat) : Int) = (len : Int) := by omega
        gi_wp2
        gi_region
        all_goals
          gi_wp2
          refine hR.mono ?_
          rintro e W3 ⟨rfl, hJ3, hk3⟩
          have c1' := KeepsB.trans _ _ _ hKr.drew hk3
          have d2 := (KeepsB.boxed c1' (.inr rfl) hBn).cell
          gi_wp2
          go_roundw
          case rel => exact ⟨k + 1, hk1, by rw [HJ.out]; go_num, hJ3, c1'⟩
          case measure => simp [intOf]; omega
      · have hp : pl = len - j := by rw [hpl2]; split <;> omega
        have hm' : ((len - j : Nat) : Int) < 10 := by omega
        subst hp
        clear hpl2
        have hsum : (j : Int) + ((len - j : Nat) : Int) = (len : Int) := by omega
        gi_wp2
        gi_region
        all_goals
          gi_wp2
          refine hR.mono ?_
          rintro e W3 ⟨rfl, hJ3, hk3⟩
          have c1' := KeepsB.trans _ _ _ hKr.drew hk3
          have d2 := (KeepsB.boxed c1' (.inr rfl) hBn).cell
          gi_wp2
          go_roundw
          case rel => exact ⟨k + 1, hk1, by rw [HJ.out]; go_num, hJ3, c1'⟩
          case measure => simp [intOf]; omega
    · have hlt' : ¬ (((10 * k : Nat) : Int) < (len : Int)) := by omega
      have e : k = partN len 10 := by omega
      subst e
      gi_wp2
      go_end0
      exact ⟨⟨_, rfl⟩, hJs⟩

end Go.Proofs.YtjnpndfpajjihabGreat
