/-
  The walk of the document's own ReadDisk.
-/
import Derived.Test.YtjnpndfpajjihaaRefSmall
namespace Go.Proofs.Ytjnpndfpajjihaa
open Go.RowKit

theorem lastIn_ways (n : Int) (z : ByteArray) (l : List (Int × ByteArray)) : (z :: atPlace n l).getD (atPlace n l).length ByteArray.empty = lastIn n z l := by
  induction l generalizing z with
  | nil => rfl
  | cons x r ih =>
    by_cases h : x.1 = n
    · simp only [atPlace, lastIn, if_pos h, List.length_cons]
      exact ih x.2
    · simp only [atPlace, lastIn, if_neg h]
      exact ih z

/-- The last of the texts that a place may have is the one that it has. -/
theorem ways_last (d : Dk) (n : Nat) : (ways d n).getD ((ways d n).length - 1) ByteArray.empty = lastOf d n := by
  have := lastIn_ways n (d.safe.getD n ByteArray.empty) d.wr
  rw [ways, List.length_cons, Nat.add_sub_cancel, this, lastOf, Int.toNat_natCast]

set_option maxHeartbeats 1000000 in
theorem readDisk_any (v : Value) (d : Dk) (n : Int) (w : World) (h : IsDk w v d) :
    Calls Try.prog 17 #[v, .int .i64 n] w fun e w' => e = .returned (.tuple #[.string (readT d n), .int .i64 (readE d n)]) ∧ Below w.heap.size w w' := by
  have HI : Hid (IsDk w v d) := h
  obtain ⟨a, c, a', c', rfl, _, _, _, _⟩ := h
  by_cases hg : goodB d = true
  · by_cases hp : placeB n = true
    · have HT : Hid (readT d n = lastOf d n ∧ readE d n = 0) := by simp [Hid, readT, readE, hg, hp]
      obtain ⟨k, rfl, hk⟩ := place_nat hp
      go_enter Try.func17, Try.ntmps17
      go_wp2_with fail
      refine (goodDisk_any _ d _ (HI.out.below (below1 _ _))).mono ?_
      rintro e w1 ⟨rfl, hb1⟩
      obtain ⟨hc1, hf1⟩ := bcell hb1
      have hs1 : w.heap.size < w1.heap.size := by have := hb1.size; simp at this; omega
      go_wp2_with fail
      refine (isAt_any _ _).mono ?_
      rintro e w2 ⟨rfl, rfl⟩
      go_wp2_with fail
      have hb2 := bthen (below1 _ _) hb1
      refine (after_any _ d k _ (HI.out.below hb2) (good_len37 hg).1 hk (good_len37 hg).2).mono ?_
      rintro e w3 ⟨v3, rfl, hown, hb3⟩
      have HB : Hid (Below w.heap.size w w3) := bthen hb2 hb3
      obtain ⟨a3, c3, hv3, hS3, _⟩ := SegS.of_owns hown
      have hL : 1 ≤ (ways d k).length ∧ (ways d k).length ≤ 201 := by
        have := waysTo_length d k d.wr.length (good_len37 hg).2
        rw [waysTo, List.take_length] at this
        exact this
      obtain ⟨b3, o3, ha3, _, hc3⟩ := hS3.resolve_left (by intro e; rw [e] at hL; simp at hL)
      have hct := hc3 ((ways d k).length - 1) (by omega)
      rw [ways_last] at hct
      obtain ⟨L, hLe⟩ : ∃ L, (ways d k).length = L + 1 := ⟨(ways d k).length - 1, by omega⟩
      rw [hLe] at hv3 hL hct
      rw [Nat.add_sub_cancel] at hct
      rw [hv3, ha3]
      clear hb1 hb2 hb3 hc1 hf1 hown hS3 hc3 hv3 ha3 hLe
      go_wp2
      go_ret2
      exact ⟨by rw [HT.out.1, HT.out.2]; rfl, HB.out⟩
    · have HT : Hid (readT d n = ByteArray.empty ∧ readE d n = 2) := by simp [Hid, readT, readE, hp]
      have hp' : placeB n = false := by simpa using hp
      clear hp
      go_enter Try.func17, Try.ntmps17
      go_wp2_with fail
      refine (goodDisk_any _ d _ (HI.out.below (below1 _ _))).mono ?_
      rintro e w1 ⟨rfl, hb1⟩
      go_wp2_with fail
      refine (isAt_any _ _).mono ?_
      rintro e w2 ⟨rfl, rfl⟩
      have HB : Hid (Below w.heap.size w w1) := bthen (below1 _ _) hb1
      clear hb1
      go_wp2
      go_ret2
      exact ⟨by rw [HT.out.1, HT.out.2]; rfl, HB.out⟩
  · have HT : Hid (readT d n = ByteArray.empty ∧ readE d n = 2) := by simp [Hid, readT, readE, hg]
    have hg' : goodB d = false := by simpa using hg
    clear hg
    go_enter Try.func17, Try.ntmps17
    go_wp2_with fail
    refine (goodDisk_any _ d _ (HI.out.below (below1 _ _))).mono ?_
    rintro e w1 ⟨rfl, hb1⟩
    have HB : Hid (Below w.heap.size w w1) := bthen (below1 _ _) hb1
    clear hb1
    go_wp2
    go_ret2
    exact ⟨by rw [HT.out.1, HT.out.2]; rfl, HB.out⟩

end Go.Proofs.Ytjnpndfpajjihaa
