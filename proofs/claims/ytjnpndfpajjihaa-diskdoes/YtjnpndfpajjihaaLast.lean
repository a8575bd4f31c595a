/-
  The walk of disk.last: the text of the last write to a place; if there is none, the safe one.
-/
import Derived.Test.YtjnpndfpajjihaaGood
namespace Go.Proofs.Ytjnpndfpajjihaa
open Go.RowKit

theorem lastIn_snoc (n : Int) (z : ByteArray) (l : List (Int × ByteArray)) (x : Int × ByteArray) : lastIn n z (l ++ [x]) = if x.1 = n then x.2 else lastIn n z l := by
  induction l generalizing z with
  | nil => rfl
  | cons y r ih => exact ih _

theorem lastIn_hit (n : Int) (z : ByteArray) (l : List (Int × ByteArray)) (j : Nat) (x : Int × ByteArray) (h : l[j]? = some x) (hx : x.1 = n) : lastIn n z (l.take (j + 1)) = x.2 := by
  rw [List.take_add_one, h]
  simp only [Option.toList_some]
  rw [lastIn_snoc, if_pos hx]

theorem lastIn_miss (n : Int) (z : ByteArray) (l : List (Int × ByteArray)) (j : Nat) (x : Int × ByteArray) (h : l[j]? = some x) (hx : ¬ x.1 = n) : lastIn n z (l.take (j + 1)) = lastIn n z (l.take j) := by
  rw [List.take_add_one, h]
  simp only [Option.toList_some]
  rw [lastIn_snoc, if_neg hx]

set_option maxHeartbeats 1000000 in
theorem dlast_walk (b off c : Nat) (a' : Option Addr) (c' : Nat) (d : Dk) (n : Nat) (w : World) (hn : d.safe.length = 37) (hp : n < 37) (hm : d.wr.length ≤ 200) (hb : b < w.heap.size)
    (hc : ∀ i, i < d.safe.length → w.cell? ⟨b, off + i, none⟩ = some (.string (d.safe.getD i ByteArray.empty))) (hw : SegW w a' d.wr) :
    Calls Try.prog 63 #[.agg #[.slice (some ⟨b, off, none⟩) 37 c, .slice a' d.wr.length c'], .int .i64 n] w fun e w' => e = .returned (.string (lastOf d n)) ∧ Below w.heap.size w w' := by
  have HW : Hid (SegW w a' d.wr) := hw
  obtain ⟨z, hz⟩ : ∃ z, z = d.safe.getD n ByteArray.empty := ⟨_, rfl⟩
  have hcn := hc n (by omega)
  rw [← hz] at hcn
  have HL : Hid (lastOf d n = lastIn n z d.wr) := by rw [hz]; rfl
  clear hn hw hc hz
  go_enter Try.func63, Try.ntmps63
  go_wp2
  go_loop [5] (fun i => ∃ k : Nat, k ≤ d.wr.length ∧ ((k = 0 ∧ i = .int .i64 (-1)) ∨ ∃ j : Nat, k = j + 1 ∧ i = .int .i64 j) ∧ Hid (lastIn n z d.wr = lastIn n z (d.wr.take k))) (fun i => (intOf i + 1).toNat)
  case atStart =>
    refine ⟨d.wr.length, Nat.le_refl _, ?_, by simp [Hid]⟩
    by_cases h0 : d.wr.length = 0
    · left; rw [h0]; exact ⟨rfl, rfl⟩
    · right; exact ⟨d.wr.length - 1, by omega, by congr 1; omega⟩
  case round =>
    obtain ⟨k, hk, hi, hl⟩ := hrel
    rcases hi with ⟨rfl, rfl⟩ | ⟨j, rfl, rfl⟩
    · clear hk
      have HF : Hid (lastOf d n = z) := by rw [Hid, HL.out, hl.out]; rfl
      clear hl HL
      go_wp2
      go_ret
      exact ⟨by rw [HF.out]; rfl, (Below.refl _ _).alloc (Nat.le_refl _) _⟩
    · obtain ⟨b', off', rfl, hb', hcw⟩ := HW.out.resolve_left (by intro e; rw [e] at hk; simp at hk)
      obtain ⟨x, hx⟩ : ∃ x, x = d.wr.getD j (0, ByteArray.empty) := ⟨_, rfl⟩
      obtain ⟨hc1, hc2⟩ := hcw j (by omega)
      rw [← hx] at hc1 hc2
      have HX : Hid (d.wr[j]? = some x) := by rw [hx]; exact getD_some _ _ _ (by omega)
      clear hx hcw
      have hj : (j : Int) < (d.wr.length : Int) := by omega
      by_cases he : x.1 = n
      · have he' : (x.1 == (n : Int)) = true := by rw [he]; simp
        have HF : Hid (lastOf d n = x.2) := by rw [Hid, HL.out, hl.out]; exact lastIn_hit _ _ _ _ _ HX.out he
        clear he
        go_wp2
        go_ret
        exact ⟨by rw [HF.out]; rfl, (Below.refl _ _).alloc (Nat.le_refl _) _⟩
      · have he' : (x.1 == (n : Int)) = false := by simpa using he
        have HE : Hid (¬ x.1 = n) := he
        clear he
        go_wp2
        go_round
        case rel =>
          refine ⟨j, by omega, ?_, by rw [Hid, hl.out]; exact lastIn_miss _ _ _ _ _ HX.out HE.out⟩
          by_cases h0 : j = 0
          · left; subst h0; exact ⟨rfl, rfl⟩
          · right; exact ⟨j - 1, by omega, by congr 1; omega⟩
        case measure => simp [intOf]

/-- disk.last: the text of the last write to a place; if there is none, the safe one. -/
theorem last_any (v : Value) (d : Dk) (n : Nat) (w : World) (h : IsDk w v d) (hn : d.safe.length = 37) (hp : n < 37) (hm : d.wr.length ≤ 200) :
    Calls Try.prog 63 #[v, .int .i64 n] w fun e w' => e = .returned (.string (lastOf d n)) ∧ Below w.heap.size w w' := by
  obtain ⟨a, c, a', c', rfl, hs, hw, h1, h2⟩ := h
  obtain ⟨b, off, rfl, hb, hc⟩ := hs.resolve_left (by intro e; rw [e] at hn; simp at hn)
  have := dlast_walk b off c a' c' d n w hn hp hm hb hc hw
  rw [← hn] at this
  exact this

end Go.Proofs.Ytjnpndfpajjihaa
