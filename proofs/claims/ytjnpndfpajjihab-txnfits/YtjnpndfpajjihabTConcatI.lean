/-
  The walks of slices.Grow onto nil and of slices.Concat, at []int.
-/
import Derived.Test.YtjnpndfpajjihabIntRows2
import Derived.Lib.AppendZerosOnto
namespace Go.Proofs.Ytjnpndfpajjihab
open Go.RowKit

set_option maxHeartbeats 2000000 in
set_option maxRecDepth 100000 in
theorem growI_any (n : Nat) (w : World) (hn : n ≤ 1000) :
    Calls Try.prog 163 #[.slice none 0 0, .int .i64 n] w fun e w' => ∃ v', e = .returned v' ∧ w'.ownsRow w.heap.size 3 1 v' 0 [] ∧ Below w.heap.size w w' := by
  obtain ⟨i0, hi, hz0, hz1, hz2⟩ := info_parts infoI
  rcases Nat.eq_zero_or_pos n with rfl | hpos
  · go_enter Try.func163, Try.ntmps163
    go_wp2
    go_ret
    exact ⟨_, rfl, World.ownsRow_nil _ _ _ _, Below.refl _ _⟩
  · obtain ⟨G, hG⟩ : ∃ G, G = grownCap w n 0 3 := ⟨_, rfl⟩
    have hGn : n ≤ G := by rw [hG]; exact grownCap_ge w _ _ _
    have hGm : G ≤ maxLen := by rw [hG]; exact grownCap_le_maxLen w n 0 _ (by unfold maxLen; omega)
    obtain ⟨cur, hcur⟩ : ∃ cur, cur = #[] ++ Builtin.zeroCells (.int .i64 0 : Value).cells n ++ Builtin.zeroCells (.int .i64 0 : Value).cells (G - n) := ⟨_, rfl⟩
    have hsz : cur.size = G * 1 := by
      rw [hcur, Array.size_append, Array.size_append, size_zeroCells, size_zeroCells]
      show 0 + n * 1 + (G - n) * 1 = G * 1
      omega
    have hrz : ∀ ty, (Builtin.append_ #[25, 3] ty #[.slice none 0 0, .int .i64 (n : Int)]).run Try.prog w = .ok (.slice (some ⟨w.heap.size, 0, none⟩) n G) (w.drew.alloc (.cells cur 3)) := fun ty => by
      have h := Lib.run_append_grow_zeros (P := Try.prog) w 25 3 ty 3 i0 (.int .i64 0) .i64 .i64 Try.underlying25 Try.underlying3 hi hz0 none 0 0 [] (run_firstCells_none w.drew i0.size 0 0 0) n hpos (by rw [hz1]; decide) (by omega) (by omega) (by rw [hz2]; omega) (by rw [Nat.zero_add, hz2]; exact growslice_fits (by omega) (by omega))
      rw [Nat.zero_add, ← hG] at h
      rw [h, hcur]
    have HO : Hid ((w.drew.alloc (.cells cur 3)).ownsRow w.heap.size 3 1 (.slice (some ⟨w.heap.size, 0, none⟩) 0 G) 0 []) := World.ownsRow_made w.drew cur G (Nat.le_refl _) hGm hsz
    clear hG hcur hsz
    unfold maxLen at hGm
    have h1 : ¬ ((n : Int) < 0) := by omega
    have h2 : (n : Int) > 0 := by omega
    go_enter Try.func163, Try.ntmps163
    go_wp2_with (at_builtin; refine Lib.wpList_append_run _ rfl _ _ _ _ rfl _ _ rfl rfl _ _ (hrz _) ?_)
    go_ret
    exact ⟨_, rfl, HO.out, (Below.refl _ _).drew.alloc (by simp) _⟩

/-- append of nothing onto a row of the call's own. -/
theorem run_append_nilI (w : World) (base : Nat) (ty : TypeId) (v : Value) (n c : Nat) (xs : List Value) (h : w.ownsRow base 3 1 v n xs) :
    (Builtin.append_ #[25, 25] ty #[v, .slice none 0 c]).run Try.prog w = .ok v w := by
  obtain ⟨i0, hi, hz0, hz1, hz2⟩ := info_parts infoI
  rcases h.2 with ⟨rfl, rfl⟩ | ⟨g, cap, cur, rfl, hb, hg, hnc, hcm, hrest⟩
  · exact run_append_none w _ _ _ i0 c Try.underlying25 hi
  · simp [Builtin.append_, run_underlying Try.underlying25, sizeOf, typeInfo, hi, Builtin.lenOf, Builtin.firstCells, hnc, storeCells]

/-- append of a row onto one of the call's own, as a step of a walk. -/
theorem wpList_appI (w W : World) (base : Nat) {ops : Array Oper} {rest : List Oper} {o : Oper} {a : Act} {Q : Exit → Act → World → Prop} (hgd : o.guard = none) (s x : Operand)
    (ho : o.op = .call { callee := .builtin .append, args := #[s, x], argTypes := #[25, 25] })
    (v : Value) (n : Nat) (xs : List Value) (hs : a.eval s = v) (hown : w.ownsRow base 3 1 v n xs) (ao : Option Addr) (c : Nat) (l : List Int) (hx : a.eval x = .slice ao l.length c) (hS : SegI w ao l)
    (hn : n + l.length ≤ 1000) (hbase : base ≤ w.heap.size) (hB : Below base W w)
    (h : ∀ v' w', Hid (w'.ownsRow base 3 1 v' (n + l.length) (xs ++ cellsI l)) → Hid (Below base W w') → wpList Try.prog ops Q rest (a.put o.dst v') w') : wpList Try.prog ops Q (o :: rest) a w := by
  obtain ⟨i0, hi, hz0, hz1, hz2⟩ := info_parts infoI
  cases ao with
  | none =>
    have h0 : l = [] := by rcases hS with h | ⟨b, off, he, _⟩; exact h; cases he
    subst h0
    refine Lib.wpList_append_run w hgd s x _ _ ho _ _ hs hx v w (run_append_nilI w base o.type v n c xs hown) (h v w ?_ hB)
    show w.ownsRow base 3 1 v (n + 0) (xs ++ [])
    rw [List.append_nil]
    exact hown
  | some ad =>
    refine wpList_append_own w hgd s x 25 ho base 3 i0 (.int .i64 0) 1 8 Try.underlying25 hi hz0 hz1 hz2 rfl (by decide) v n xs hs hown ad l.length c (cellsI l) hx (cellsI_length l) ?_ cellsI_one (by unfold maxLen; omega) (by omega) hbase ?_
    · intro j u hj
      rcases hS with h | ⟨b, off, he, hlt, hc⟩
      · rw [h] at hj; simp [cellsI] at hj
      · cases he
        rw [Addr.add_lit]
        exact SegI.news hc j u hj
    · intro v' w' hown' hgrow _
      exact h v' w' hown' (hB.grown hgrow hbase (fun k hk => (hown.lt k hk).1))

/-- Rows that lie behind one another in a list of lists. -/
def flatI (L : List (Option Addr × Nat × List Int)) : List Int := (L.map (·.2.2)).flatten
theorem flatI_take {L : List (Option Addr × Nat × List Int)} {k : Nat} {x : Option Addr × Nat × List Int} (h : L[k]? = some x) : flatI (L.take (k + 1)) = flatI (L.take k) ++ x.2.2 := by
  rw [List.take_add_one, h]; simp [flatI]
theorem flatI_le (L : List (Option Addr × Nat × List Int)) (k : Nat) : (flatI (L.take k)).length ≤ (flatI L).length := by
  have : flatI L = flatI (L.take k) ++ flatI (L.drop k) := by rw [flatI, flatI, flatI, ← List.flatten_append, ← List.map_append, List.take_append_drop]
  rw [this, List.length_append]; omega
def SegLI (w : World) (B : Nat) (L : List (Option Addr × Nat × List Int)) : Prop :=
  B < w.heap.size ∧ ∀ i x, L[i]? = some x → w.cell? ⟨B, i, none⟩ = some (.slice x.1 x.2.2.length x.2.1) ∧ SegI w x.1 x.2.2

set_option maxHeartbeats 2000000 in
set_option maxRecDepth 100000 in
theorem concatI_any (B m c : Nat) (L : List (Option Addr × Nat × List Int)) (w : World) (hm : L.length = m) (hm2 : m ≤ 1000) (h : SegLI w B L) (hn : (flatI L).length ≤ 1000) :
    Calls Try.prog 121 #[.slice (some ⟨B, 0, none⟩) m c] w fun e w' => ∃ v', e = .returned v' ∧ w'.ownsRow w.heap.size 3 1 v' (flatI L).length (cellsI (flatI L)) ∧ Below w.heap.size w w' := by
  subst hm
  have HS := hide h
  clear h
  go_enter Try.func121, Try.ntmps121
  go_wp2
  go_loop [3, 11] (fun s i => ∃ k : Nat, k ≤ L.length ∧ i = .int .i64 k ∧ s = .int .i64 ((flatI (L.take k)).length : Int)) (fun _ i => L.length - (intOf i).toNat)
  case atStart => exact ⟨0, Nat.zero_le _, rfl, rfl⟩
  case round =>
    obtain ⟨k, hk, rfl, rfl⟩ := hrel
    have hle := flatI_le L k
    by_cases hlt : k < L.length
    · obtain ⟨x, hx⟩ : ∃ x, L[k]? = some x := ⟨_, List.getElem?_eq_getElem hlt⟩
      have hc := (HS.out.2 k x hx).1
      have HF : Hid ((flatI (L.take (k + 1))).length = (flatI (L.take k)).length + x.2.2.length) := by rw [Hid, flatI_take hx, List.length_append]
      have hle2 := flatI_le L (k + 1)
      rw [HF.out] at hle2
      have hlt' : (k : Int) < (L.length : Int) := by omega
      clear hx
      generalize (flatI (L.take k)).length = q at *
      obtain ⟨xa, xc, xl⟩ := x
      dsimp only at hle2 hc HF
      go_wp2
      go_round
      case rel => exact ⟨k + 1, by omega, by go_num, by rw [HF.out]; go_num⟩
      case measure => simp [intOf]; omega
    · have e : k = L.length := by omega
      subst e
      rw [List.take_length]
      clear hle
      obtain ⟨N, hN⟩ : ∃ N, N = (flatI L).length := ⟨_, rfl⟩
      rw [← hN] at hn
      rw [← hN]
      have HN := hide hN
      clear hN
      go_wp2_with fail
      refine (growI_any N w hn).mono ?_
      rintro e w1 ⟨v1, rfl, hown1, hb1⟩
      have HO1 := hide hown1
      have HB1 := hide hb1
      clear hown1 hb1
      go_wp2
      go_loopw [6, 27] (fun s i wr => ∃ (k : Nat), k ≤ L.length ∧ i = .int .i64 k ∧ Hid (wr.ownsRow w.heap.size 3 1 s (flatI (L.take k)).length (cellsI (flatI (L.take k)))) ∧ Hid (Below w.heap.size w wr)) (fun _ i _ => L.length - (intOf i).toNat)
      case atStart => exact ⟨0, Nat.zero_le _, rfl, HO1, HB1⟩
      case round =>
        obtain ⟨k, hk, rfl, hown, hbr⟩ := hrel
        have hle := flatI_le L k
        rw [← HN.out] at hle
        by_cases hlt : k < L.length
        · obtain ⟨x, hx⟩ : ∃ x, L[k]? = some x := ⟨_, List.getElem?_eq_getElem hlt⟩
          have hc := cellKeep hbr.out HS.out.1 (HS.out.2 k x hx).1
          have HX : Hid (SegI wr x.1 x.2.2) := (HS.out.2 k x hx).2.below hbr.out
          have HF : Hid (flatI (L.take (k + 1)) = flatI (L.take k) ++ x.2.2) := flatI_take hx
          have hle2 := flatI_le L (k + 1)
          rw [HF.out, List.length_append, ← HN.out] at hle2
          have hlt' : (k : Int) < (L.length : Int) := by omega
          clear hx
          generalize flatI (L.take k) = q at *
          obtain ⟨xa, xc, xl⟩ := x
          dsimp only at hle2 hc HF HX
          go_wp2_with (at_builtin; refine wpList_appI _ w w.heap.size rfl _ _ rfl _ q.length (cellsI q) rfl hown.out xa xc xl rfl HX.out (by omega) hbr.out.size hbr.out ?_)
          intro v' w' hown' hB'
          clear hown hbr HX hc
          go_wp2
          go_roundw
          case rel => exact ⟨k + 1, by omega, by go_num, by rw [HF.out, List.length_append, cellsI_append]; exact hown', hB'⟩
          case measure => simp [intOf]; omega
        · have e : k = L.length := by omega
          subst e
          rw [List.take_length] at hown
          clear hle
          go_wp2
          go_ret
          exact ⟨_, rfl, hown.out, hbr.out⟩

end Go.Proofs.Ytjnpndfpajjihab
