/-
  The walk of disk.choices: the texts that a place may have behind a crash.
-/
import Derived.Test.YtjnpndfpajjihaaFlush
import Derived.Test.YtjnpndfpajjihaaChoicesP
namespace Go.Proofs.Ytjnpndfpajjihaa
open Go.RowKit

set_option maxHeartbeats 2000000 in
set_option maxRecDepth 100000 in
theorem choices_walk (b off c : Nat) (a' : Option Addr) (c' : Nat) (d : Dk) (n : Nat) (w : World) (hn : d.safe.length = 37) (hp : n < 37) (hm : d.wr.length ≤ 200) (hb : b < w.heap.size)
    (hc : ∀ i, i < d.safe.length → w.cell? ⟨b, off + i, none⟩ = some (.string (d.safe.getD i ByteArray.empty))) (hw : SegW w a' d.wr) :
    Calls Try.prog 71 #[.agg #[.slice (some ⟨b, off, none⟩) 37 c, .slice a' d.wr.length c'], .int .i64 n] w fun e w' => ∃ v', e = .returned v' ∧ w'.ownsRow w.heap.size 9 1 v' (ways d n).length (cellsS (ways d n)) ∧ Below w.heap.size w w' := by
  have HW := hide hw
  obtain ⟨z, hz⟩ : ∃ z, z = d.safe.getD n ByteArray.empty := ⟨_, rfl⟩
  have hcn := hc n (by omega)
  rw [← hz] at hcn
  have hp' : (n : Int) < 37 := by omega
  have H0 : Hid (waysTo d n 0 = [z]) := by rw [hz]; rfl
  clear hn hw hc hz
  obtain ⟨i0, hi, hz0, hz1, hz2⟩ := info_parts infoS
  go_enter Try.func71, Try.ntmps71
  go_wp2
  go_loopw [5, 17] (fun v i wr => ∃ k : Nat, k ≤ d.wr.length ∧ i = .int .i64 k ∧ Hid (wr.ownsRow w.heap.size 9 1 v (waysTo d n k).length (cellsS (waysTo d n k))) ∧ Below w.heap.size w wr) (fun _ i _ => d.wr.length - (intOf i).toNat)
  case atStart =>
    refine ⟨0, Nat.zero_le _, rfl, ?_, bthen (below1 _ _) (below1 _ _)⟩
    rw [H0.out]
    have h := World.ownsRow_lit (e := 9) (size := 1) (w.alloc (Obj.cells #[.slice (some ⟨b, off, none⟩) 37 c, .slice a' d.wr.length c'] 25)) #[.string z] 1 (below1 w _).size (by decide) rfl
    unfold Hid
    simpa [cellsS] using h
  case round =>
    obtain ⟨k, hk, rfl, hown, hbr⟩ := hrel
    have hsr := hbr.size
    by_cases hlt : k < d.wr.length
    · obtain ⟨b', off', rfl, hb', hcw⟩ := HW.out.resolve_left (by intro e; rw [e] at hlt; simp at hlt)
      obtain ⟨x, hx⟩ : ∃ x, x = d.wr.getD k (0, ByteArray.empty) := ⟨_, rfl⟩
      obtain ⟨hc1, hc2⟩ := hcw k hlt
      rw [← hx] at hc1 hc2
      have HX : Hid (d.wr[k]? = some x) := by rw [hx]; exact getD_some _ _ _ hlt
      clear hx hcw
      have g1 := cellKeep hbr hb' hc1
      have g2 := cellKeep hbr hb' hc2
      clear hc1 hc2
      have hl := waysTo_length d n k hm
      obtain ⟨m, s⟩ := x
      by_cases he : m = n
      · have he' : (m == (n : Int)) = true := by rw [he]; simp
        have HE : Hid (waysTo d n (k + 1) = waysTo d n k ++ [s]) := waysTo_hit d n k (m, s) HX.out he
        clear he
        go_wp2_with (at_builtin; refine wpList_append_own _ rfl _ _ 22 rfl w.heap.size 9 i0 (.string ⟨#[]⟩) 1 16 Try.underlying22 hi hz0 hz1 hz2 rfl (by decide) _ _ _ rfl ((hown.out.alloc _).alloc _) ⟨wr.heap.size + 1, 0, none⟩ 1 1 (cellsS [s]) rfl ?qc1 ?qc2 ?qc3 ?qc4 ?qc5 ?qc6 ?_)
        case qc1 => rfl
        case qc2 =>
          intro j u hj
          match j, hj with
          | 0, hj => simp [cellsS] at hj; subst hj; simp [go_sem]
        case qc3 => exact cellsS_one
        case qc4 => unfold maxLen; omega
        case qc5 => omega
        case qc6 => omega
        intro v4 w4 hown4 hgrow4 _
        have hb4 : Below w.heap.size w w4 := ((hbr.alloc hsr _).alloc (by simp; omega) _).grown hgrow4 (by simp; omega) (fun k hk => (hown.out.lt k hk).1)
        rw [← cellsS_append, ← HE.out] at hown4
        have hlen : (waysTo d n k).length + 1 = (waysTo d n (k + 1)).length := by rw [HE.out]; simp
        rw [hlen] at hown4
        have HO := hide hown4
        clear hown4 hgrow4 hown hbr
        go_wp2
        go_roundw
        case rel => exact ⟨k + 1, by omega, by go_num, HO, hb4⟩
        case measure => simp [intOf]; omega
      · have he' : (m == (n : Int)) = false := by simpa using he
        have HE : Hid (waysTo d n (k + 1) = waysTo d n k) := waysTo_miss d n k (m, s) HX.out he
        have HO := hide (hown.out.alloc (Obj.cells #[Value.int IntKind.i64 m, Value.string s] 42))
        clear he hown
        go_wp2
        go_roundw
        case rel => exact ⟨k + 1, by omega, by go_num, by rw [HE.out]; exact HO, hbr.alloc hsr _⟩
        case measure => simp [intOf]; omega
    · have e : k = d.wr.length := by omega
      have hw' : waysTo d n k = ways d n := by rw [e, waysTo, List.take_length]; rfl
      rw [hw'] at hown
      clear hw' e
      go_wp2
      go_ret
      exact ⟨_, rfl, hown.out, hbr⟩

/-- disk.choices: the texts that a place may have. -/
theorem choices_any (v : Value) (d : Dk) (n : Nat) (w : World) (h : IsDk w v d) (hn : d.safe.length = 37) (hp : n < 37) (hm : d.wr.length ≤ 200) :
    Calls Try.prog 71 #[v, .int .i64 n] w fun e w' => ∃ v', e = .returned v' ∧ w'.ownsRow w.heap.size 9 1 v' (ways d n).length (cellsS (ways d n)) ∧ Below w.heap.size w w' := by
  obtain ⟨a, c, a', c', rfl, hs, hw, h1, h2⟩ := h
  obtain ⟨b, off, rfl, hb, hc⟩ := hs.resolve_left (by intro e; rw [e] at hn; simp at hn)
  have := choices_walk b off c a' c' d n w hn hp hm hb hc hw
  rw [← hn] at this
  exact this

end Go.Proofs.Ytjnpndfpajjihaa
