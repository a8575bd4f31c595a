/-
  The walk of disk.Read.
-/
import Derived.Test.YtjnpndfpajjihaaLast
namespace Go.Proofs.Ytjnpndfpajjihaa
open Go.RowKit

/-- What Read answers. -/
def readT (d : Dk) (n : Int) : ByteArray := if (goodB d && placeB n) = true then lastOf d n else ByteArray.empty
def readE (d : Dk) (n : Int) : Int := if (goodB d && placeB n) = true then 0 else 2

theorem good_len37 {d : Dk} (h : goodB d = true) : d.safe.length = 37 ∧ d.wr.length ≤ 200 := by
  simp only [goodB, Bool.and_eq_true, decide_eq_true_eq] at h
  exact ⟨h.1.1.1, h.1.1.2⟩

theorem place_nat {n : Int} (h : placeB n = true) : ∃ k : Nat, n = k ∧ k < 37 := by
  simp only [placeB, Bool.and_eq_true, decide_eq_true_eq] at h
  obtain ⟨k, rfl⟩ := Int.eq_ofNat_of_zero_le h.1
  exact ⟨k, rfl, by omega⟩

set_option maxHeartbeats 1000000 in
theorem read_any (v : Value) (d : Dk) (n : Int) (w : World) (h : IsDk w v d) :
    Calls Try.prog 16 #[v, .int .i64 n] w fun e w' => e = .returned (.tuple #[.string (readT d n), .int .i64 (readE d n)]) ∧ Below w.heap.size w w' := by
  have HI : Hid (IsDk w v d) := h
  obtain ⟨a, c, a', c', rfl, _, _, _, _⟩ := h
  by_cases hg : goodB d = true
  · by_cases hp : placeB n = true
    · have HT : Hid (readT d n = lastOf d n ∧ readE d n = 0) := by simp [Hid, readT, readE, hg, hp]
      obtain ⟨k, rfl, hk⟩ := place_nat hp
      go_enter Try.func16, Try.ntmps16
      go_wp2_with fail
      refine (good_any _ d _ (HI.out.below (below1 _ _))).mono ?_
      rintro e w1 ⟨rfl, hb1⟩
      obtain ⟨hc1, hf1⟩ := bcell hb1
      have hs1 : w.heap.size < w1.heap.size := by have := hb1.size; simp at this; omega
      go_wp2_with fail
      refine (isPlace_any _ _).mono ?_
      rintro e w2 ⟨rfl, rfl⟩
      go_wp2_with fail
      have hb2 := bthen (below1 _ _) hb1
      refine (last_any _ d k _ (HI.out.below hb2) (good_len37 hg).1 hk (good_len37 hg).2).mono ?_
      rintro e w3 ⟨rfl, hb3⟩
      have HB : Hid (Below w.heap.size w w3) := bthen hb2 hb3
      clear hb1 hb2 hb3 hc1 hf1
      go_wp2
      go_ret2
      exact ⟨by rw [HT.out.1, HT.out.2]; rfl, HB.out⟩
    · have HT : Hid (readT d n = ByteArray.empty ∧ readE d n = 2) := by simp [Hid, readT, readE, hp]
      have hp' : placeB n = false := by simpa using hp
      clear hp
      go_enter Try.func16, Try.ntmps16
      go_wp2_with fail
      refine (good_any _ d _ (HI.out.below (below1 _ _))).mono ?_
      rintro e w1 ⟨rfl, hb1⟩
      go_wp2_with fail
      refine (isPlace_any _ _).mono ?_
      rintro e w2 ⟨rfl, rfl⟩
      have HB : Hid (Below w.heap.size w w1) := bthen (below1 _ _) hb1
      clear hb1
      go_wp2
      go_ret2
      exact ⟨by rw [HT.out.1, HT.out.2]; rfl, HB.out⟩
  · have HT : Hid (readT d n = ByteArray.empty ∧ readE d n = 2) := by simp [Hid, readT, readE, hg]
    have hg' : goodB d = false := by simpa using hg
    clear hg
    go_enter Try.func16, Try.ntmps16
    go_wp2_with fail
    refine (good_any _ d _ (HI.out.below (below1 _ _))).mono ?_
    rintro e w1 ⟨rfl, hb1⟩
    have HB : Hid (Below w.heap.size w w1) := bthen (below1 _ _) hb1
    clear hb1
    go_wp2
    go_ret2
    exact ⟨by rw [HT.out.1, HT.out.2]; rfl, HB.out⟩

end Go.Proofs.Ytjnpndfpajjihaa
