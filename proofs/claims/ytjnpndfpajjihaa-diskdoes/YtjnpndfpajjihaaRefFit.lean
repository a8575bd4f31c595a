/-
  The walk of the document's own NewDisk.
-/
import Derived.Test.YtjnpndfpajjihaaRefCrash
import Derived.Test.YtjnpndfpajjihaaFitRef
namespace Go.Proofs.Ytjnpndfpajjihaa
open Go.RowKit

set_option maxHeartbeats 2000000 in
set_option maxRecDepth 100000 in
theorem newDisk_own (w : World) :
    Calls Try.prog 26 #[] w fun e w' => ∃ g c, e = .returned (.agg #[.slice (some ⟨g, 0, none⟩) 37 c, .slice none 0 0]) ∧ w'.ownsRow w.heap.size 9 1 (.slice (some ⟨g, 0, none⟩) 37 c) 37 (cellsS (List.replicate 37 (fitT ⟨#[]⟩))) ∧ Below w.heap.size w w' := by
  have hmk := made37
  obtain ⟨z, hz⟩ : ∃ z, z = fitT ⟨#[]⟩ := ⟨_, rfl⟩
  have HZ := hide hz
  clear hz
  go_enter Try.func26, Try.ntmps26
  go_wp2
  clear hmk
  go_loopw [8] (fun i wr => ∃ k : Nat, k ≤ 37 ∧ i = .int .i64 k ∧ Hid (wr.ownsRow (w.heap.size + 1) 9 1 (.slice (some ⟨w.heap.size + 1, 0, none⟩) 37 37) 37 (fill (List.replicate k z) (37 - k))) ∧
      wr.cell? ⟨w.heap.size + 2, 0, none⟩ = some (.slice (some ⟨w.heap.size + 1, 0, none⟩) 37 37) ∧ wr.cell? ⟨w.heap.size + 2, 1, none⟩ = some (.slice none 0 0) ∧
      wr.cell? ⟨w.heap.size, 0, none⟩ = some (.slice none 0 0) ∧ wr.cell? ⟨w.heap.size, 1, none⟩ = some (.slice none 0 0) ∧ wr.frozen? ⟨w.heap.size, 0, none⟩ = false ∧ wr.frozen? ⟨w.heap.size, 1, none⟩ = false ∧
      w.heap.size + 2 < wr.heap.size ∧ Below w.heap.size w wr) (fun i _ => 37 - (intOf i).toNat)
  case atStart =>
    refine ⟨0, Nat.zero_le _, rfl, ?_, by simp [go_sem], by simp [go_sem], by simp [go_sem], by simp [go_sem], by simp [go_sem], by simp [go_sem], by simp, ?_⟩
    · have h := (made_owns (w.alloc (.cells #[.slice none 0 0, .slice none 0 0] 25)) (w.heap.size + 1) (by simp)).alloc (.cells #[.slice (some ⟨w.heap.size + 1, 0, none⟩) 37 37, .slice none 0 0] 25)
      unfold Hid
      simpa using h
    · exact bthen (bthen (below1 _ _) (below1 _ _)) (below1 _ _)
  case round =>
    obtain ⟨k, hk, rfl, hown, x0, x1, y0, y1, f0, f1, hsz, hbr⟩ := hrel
    by_cases hlt : k < 37
    · have hlt' : (k : Int) < 37 := by omega
      go_wp2
      go_region_with (go_at_call 24; refine (fitText_any _ _).mono ?_; rintro e w3 ⟨rfl, hb3⟩; rw [← HZ.out]; have hb4 : Below wr.heap.size wr w3 := (((Below.refl wr.heap.size wr).drew).trans hb3); have hs4 := hb4.size; have x2 := cellKeep hb4 hsz x0; have x3 := cellKeep hb4 hsz x1; have hown4 := owns_keep hown.out hb4; rw [show 37 - k = (36 - k) + 1 from by omega] at hown4; have hcc := fill_cell hown4; have hst := fill_step hown4 z; rw [List.length_replicate] at hcc hst; obtain ⟨⟨u, hu⟩, hfz, _, _, _⟩ := hcc; have HST := hide hst; clear hst hown4)
      all_goals
        go_wp2
        go_roundw
        case rel =>
          refine ⟨k + 1, by omega, by go_num, ?_, cellSet x2 (by simp), cellSet x3 (by simp), cellSet (cellKeep hb4 (by omega) y0) (by simp), cellSet (cellKeep hb4 (by omega) y1) (by simp), frozSet (frozKeep hb4 (by omega) f0) (by simp), frozSet (frozKeep hb4 (by omega) f1) (by simp), by simp [World.setCell]; omega, ((hbr.trans (hb4.mono hbr.size))).setCell (by simp) _⟩
          have e : List.replicate (k + 1) z = List.replicate k z ++ [z] := List.replicate_succ'
          rw [show 37 - (k + 1) = 36 - k from by omega, e]
          exact HST
        case measure => simp [intOf]; omega
    · have e : k = 37 := by omega
      have hown' := hown.out
      rw [e, show 37 - 37 = 0 from rfl, fill_full] at hown'
      have HO := hide hown'
      clear hown hown' e
      go_wp2
      refine bodyPost_ret (v := .agg #[.slice (some ⟨w.heap.size + 1, 0, none⟩) 37 37, .slice none 0 0]) (by simp [results, Try.results26, go_sem, y0, y1]) rfl ⟨_, _, rfl, ?_, ?_⟩
      · rw [← HZ.out]
        exact owns_base (ownsRow_setCell_below (ownsRow_setCell_below HO.out (by simp) _) (by simp) _) (by omega)
      · exact (hbr.setCell (by simp) _).setCell (by simp) _
theorem newDisk_any (w : World) :
    Calls Try.prog 26 #[] w fun e w' => ∃ v, e = .returned v ∧ IsDk w' v newK ∧ Below w.heap.size w w' := (newDisk_own w).mono fun e w' ⟨g, c, he, ho, hb⟩ => by
  obtain ⟨a2, c2, hv, hS, _⟩ := SegS.of_owns ho
  rw [List.length_replicate] at hv
  simp only [Value.slice.injEq] at hv
  obtain ⟨rfl, _, rfl⟩ := hv
  exact ⟨_, he, ⟨_, c, none, 0, rfl, hS, .inl rfl, by simp [newK, maxLen], by simp [newK, maxLen]⟩, hb⟩

end Go.Proofs.Ytjnpndfpajjihaa
