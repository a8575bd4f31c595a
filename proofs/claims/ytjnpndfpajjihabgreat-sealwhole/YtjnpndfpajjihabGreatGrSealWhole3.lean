/-
  Does a number lie from one to another? Nothing of the program is proved here.
  A mark whose rows lie in memory from a block on. Nothing of the program is proved here.
  What the bytes of a mark are. Nothing of the program is proved here.
  The walk of disk.last: the text of the last write to a place; if there is none, the safe one.
  The walk of disk.Read.
  The walk of package ring's Most, and of what it calls.
  The walks of package ring's small functions, of Good, Free and Tail.
  The walk of package ring's Most, and of what it calls.
  The walk of package ring's Need.
-/
import Derived.Test.YtjnpndfpajjihabGreatGrSealWhole0
import Derived.Test.YtjnpndfpajjihabGreatGrSealWhole2
namespace Go.Proofs.YtjnpndfpajjihabGreat
open Go.RowKit

/-- Does a number lie from one to another? -/
def withinB (n l m : Int) : Bool := decide (l ≤ n) && decide (n ≤ m)
theorem withinB_iff {n l m : Int} : withinB n l m = true ↔ l ≤ n ∧ n ≤ m := by simp [withinB]

end Go.Proofs.YtjnpndfpajjihabGreat

namespace Go.Proofs.YtjnpndfpajjihabGreat
open Go.RowKit

/-- A mark whose rows lie in memory from a block on. -/
def IsMkN (w : World) (base : Nat) (v : Value) (m : Mk) : Prop :=
  ∃ a c a' c', v = .agg #[.int .i64 m.kind, .int .i64 m.seq, .int .i64 m.pos, .slice a m.tags.length c, .slice a' m.blocks.length c'] ∧ SegT w a m.tags ∧ SegI w a' m.blocks ∧ m.tags.length ≤ maxLen ∧ m.blocks.length ≤ maxLen ∧
    (∀ b off, a = some ⟨b, off, none⟩ → base ≤ b) ∧ ∀ b off, a' = some ⟨b, off, none⟩ → base ≤ b
theorem IsMkN.is {w : World} {base : Nat} {v : Value} {m : Mk} (h : IsMkN w base v m) : IsMk w v m := by
  obtain ⟨a, c, a', c', rfl, h1, h2, h3, h4, _⟩ := h
  exact ⟨a, c, a', c', rfl, h1, h2, h3, h4⟩

end Go.Proofs.YtjnpndfpajjihabGreat

namespace Go.Proofs.YtjnpndfpajjihabGreat
open Go.RowKit

/-- What stands ahead in every mark's block. -/
def headT (k q : Int) : ByteArray := (⟨#[87, 66, 75, 49]⟩ : ByteArray) ++ oneB k.toNat ++ oneB (q / 16777216).toNat ++ oneB (q / 65536 % 256).toNat ++ oneB (q / 256 % 256).toNat ++ oneB (q % 256).toNat
theorem head_size (k q : Int) : (headT k q).size = 9 := rfl

/-- The tags, the blocks of a mark behind what stands ahead. -/
def tagsT (s : ByteArray) : List (Int × Bool) → ByteArray
  | [] => s
  | x :: r => tagsT ((s ++ oneB x.1.toNat) ++ (if x.2 then (⟨#[1]⟩ : ByteArray) else ⟨#[0]⟩)) r
def numsT (s : ByteArray) : List Int → ByteArray
  | [] => s
  | x :: r => numsT (s ++ oneB x.toNat) r
theorem tagsT_snoc (s : ByteArray) (l : List (Int × Bool)) (x : Int × Bool) : tagsT s (l ++ [x]) = (tagsT s l ++ oneB x.1.toNat) ++ (if x.2 then (⟨#[1]⟩ : ByteArray) else ⟨#[0]⟩) := by
  induction l generalizing s with
  | nil => rfl
  | cons y r ih => exact ih _
theorem numsT_snoc (s : ByteArray) (l : List Int) (x : Int) : numsT s (l ++ [x]) = numsT s l ++ oneB x.toNat := by
  induction l generalizing s with
  | nil => rfl
  | cons y r ih => exact ih _
theorem tagsT_size (s : ByteArray) (l : List (Int × Bool)) : (tagsT s l).size = s.size + 2 * l.length := by
  induction l generalizing s with
  | nil => rfl
  | cons y r ih =>
    rw [tagsT, ih, ByteArray.size_append, ByteArray.size_append]
    have h1 : (oneB y.1.toNat).size = 1 := rfl
    have h2 : (if y.2 = true then (⟨#[1]⟩ : ByteArray) else ⟨#[0]⟩).size = 1 := by cases y.2 <;> rfl
    rw [h1, h2, List.length_cons]
    omega
theorem numsT_size (s : ByteArray) (l : List Int) : (numsT s l).size = s.size + l.length := by
  induction l generalizing s with
  | nil => rfl
  | cons y r ih =>
    rw [numsT, ih, ByteArray.size_append]
    have h1 : (oneB y.toNat).size = 1 := rfl
    rw [h1, List.length_cons]
    omega

/-- The bytes of a mark, ahead of the noughts that fill it up. -/
def bodyT (m : Mk) : ByteArray :=
  if m.kind = 1 then headT m.kind m.seq ++ oneB m.pos.toNat
  else if m.kind = 2 then tagsT (headT m.kind m.seq ++ oneB m.tags.length) m.tags
  else if m.kind = 3 then numsT (headT m.kind m.seq ++ oneB m.blocks.length) m.blocks
  else headT m.kind m.seq
def encT (m : Mk) : ByteArray := if goodM m = 0 then fitT (bodyT m) else ByteArray.empty

theorem rises_bd (q : Int) (l : List Int) (h : risesFrom q l = true) (hq : -1 ≤ q) : ∀ x ∈ l, 0 ≤ x ∧ x ≤ 11 := by
  induction l generalizing q with
  | nil => intro x hx; cases hx
  | cons y r ih =>
    by_cases e : y ≤ q ∨ 11 < y
    · simp [risesFrom, e] at h
    · simp only [risesFrom, if_neg e] at h
      intro x hx
      rcases List.mem_cons.1 hx with rfl | hx
      · omega
      · exact ih y h (by omega) x hx

/-- What it takes for a mark to be good. -/
theorem goodM_parts {m : Mk} (h : goodM m = 0) : (1 ≤ m.kind ∧ m.kind ≤ 4) ∧ (1 ≤ m.seq ∧ m.seq ≤ 2147483647 ∧ 0 ≤ m.pos ∧ m.pos ≤ 23) ∧ ((m.kind ≠ 1 → m.pos = 0) ∧ (m.kind ≠ 2 → m.tags = []) ∧ (m.kind ≠ 3 → m.blocks = [])) ∧
    (m.kind = 2 → 1 ≤ m.tags.length ∧ m.tags.length ≤ 10) ∧ (m.kind = 3 → 1 ≤ m.blocks.length ∧ m.blocks.length ≤ 20) ∧ rises (m.tags.map (·.1)) = true ∧ rises m.blocks = true := by
  unfold goodM at h
  by_cases h1 : m.kind < 1 ∨ 4 < m.kind
  · rw [if_pos h1] at h; cases h
  · rw [if_neg h1] at h
    by_cases h2 : m.seq < 1 ∨ 2147483647 < m.seq ∨ m.pos < 0 ∨ 23 < m.pos
    · rw [if_pos h2] at h; cases h
    · rw [if_neg h2] at h
      by_cases h3 : (m.kind ≠ 1 ∧ m.pos ≠ 0) ∨ (m.kind ≠ 2 ∧ m.tags ≠ []) ∨ (m.kind ≠ 3 ∧ m.blocks ≠ [])
      · rw [if_pos h3] at h; cases h
      · rw [if_neg h3] at h
        by_cases h4 : (m.kind = 2 ∧ (m.tags.length < 1 ∨ 10 < m.tags.length)) ∨ (m.kind = 3 ∧ (m.blocks.length < 1 ∨ 20 < m.blocks.length)) ∨ rises (m.tags.map (·.1)) = false ∨ rises m.blocks = false
        · rw [if_pos h4] at h; cases h
        · refine ⟨by omega, by omega, ⟨?_, ?_, ?_⟩, ?_, ?_, ?_, ?_⟩
          · intro e; by_cases x : m.pos = 0
            · exact x
            · exact absurd (.inl ⟨e, x⟩) h3
          · intro e; by_cases x : m.tags = []
            · exact x
            · exact absurd (.inr (.inl ⟨e, x⟩)) h3
          · intro e; by_cases x : m.blocks = []
            · exact x
            · exact absurd (.inr (.inr ⟨e, x⟩)) h3
          · intro e
            have : ¬ (m.tags.length < 1 ∨ 10 < m.tags.length) := fun x => h4 (.inl ⟨e, x⟩)
            omega
          · intro e
            have : ¬ (m.blocks.length < 1 ∨ 20 < m.blocks.length) := fun x => h4 (.inr (.inl ⟨e, x⟩))
            omega
          · cases hr : rises (m.tags.map (·.1)) with
            | true => rfl
            | false => exact absurd (.inr (.inr (.inl hr))) h4
          · cases hr : rises m.blocks with
            | true => rfl
            | false => exact absurd (.inr (.inr (.inr hr))) h4

end Go.Proofs.YtjnpndfpajjihabGreat

namespace Go.Proofs.YtjnpndfpajjihabGreat
open Go.RowKit

theorem lastIn_snoc (n : Int) (z : ByteArray) (l : List (Int × ByteArray)) (x : Int × ByteArray) : lastIn n z (l ++ [x]) = if x.1 = n then x.2 else lastIn n z l := by
  induction l generalizing z with
  | nil => rfl
  | cons y r ih => exact ih _

theorem lastIn_hit (n : Int) (z : ByteArray) (l : List (Int × ByteArray)) (j : Nat) (x : Int × ByteArray) (h : l[j]? = some x) (hx : x.1 = n) : lastIn n z (l.take (j + 1)) = x.2 := by
  rw [List.take_add_one, h]
  simp only [Option.toList_some]
  rw [lastIn_snoc, if_pos hx]

theorem lastIn_miss (n : Int) (z : ByteArray) (l : List (Int × ByteArray)) (j : Nat) (x : Int × ByteArray) (h : l[j]? = some x) (hx : ¬ x.1 = n) : lastIn n z (l.take (j + 1)) = lastIn n z (l.take j) := by
  rw [List.take_add_one, h]
  simp only [Option.toList_some]
  rw [lastIn_snoc, if_neg hx]

set_option maxHeartbeats 1000000 in
theorem dlast_walk (b off c : Nat) (a' : Option Addr) (c' : Nat) (d : Dk) (n : Nat) (w : World) (hn : d.safe.length = 37) (hp : n < 37) (hm : d.wr.length ≤ 200) (hb : b < w.heap.size)
    (hc : ∀ i, i < d.safe.length → w.cell? ⟨b, off + i, none⟩ = some (.string (d.safe.getD i ByteArray.empty))) (hw : SegW w a' d.wr) :
    Calls Tryz.prog 79 #[.agg #[.slice (some ⟨b, off, none⟩) 37 c, .slice a' d.wr.length c'], .int .i64 n] w fun e w' => e = .returned (.string (lastOf d n)) ∧ Below w.heap.size w w' := by
  have HW : Hid (SegW w a' d.wr) := hw
  obtain ⟨z, hz⟩ : ∃ z, z = d.safe.getD n ByteArray.empty := ⟨_, rfl⟩
  have hcn := hc n (by omega)
  rw [← hz] at hcn
  have HL : Hid (lastOf d n = lastIn n z d.wr) := by rw [hz]; rfl
  clear hn hw hc hz
  go_enter Tryz.func79, Tryz.ntmps79
  go_wp2
  go_loop [5] (fun i => ∃ k : Nat, k ≤ d.wr.length ∧ ((k = 0 ∧ i = .int .i64 (-1)) ∨ ∃ j : Nat, k = j + 1 ∧ i = .int .i64 j) ∧ Hid (lastIn n z d.wr = lastIn n z (d.wr.take k))) (fun i => (intOf i + 1).toNat)
  case atStart =>
    refine ⟨d.wr.length, Nat.le_refl _, ?_, by simp [Hid]⟩
    by_cases h0 : d.wr.length = 0
    · left; rw [h0]; exact ⟨rfl, rfl⟩
    · right; exact ⟨d.wr.length - 1, by omega, by congr 1; omega⟩
  case round =>
    obtain ⟨k, hk, hi, hl⟩ := hrel
    rcases hi with ⟨rfl, rfl⟩ | ⟨j, rfl, rfl⟩
    · clear hk
      have HF : Hid (lastOf d n = z) := by rw [Hid, HL.out, hl.out]; rfl
      clear hl HL
      go_wp2
      go_ret
      exact ⟨by rw [HF.out]; rfl, (Below.refl _ _).alloc (Nat.le_refl _) _⟩
    · obtain ⟨b', off', rfl, hb', hcw⟩ := HW.out.resolve_left (by intro e; rw [e] at hk; simp at hk)
      obtain ⟨x, hx⟩ : ∃ x, x = d.wr.getD j (0, ByteArray.empty) := ⟨_, rfl⟩
      obtain ⟨hc1, hc2⟩ := hcw j (by omega)
      rw [← hx] at hc1 hc2
      have HX : Hid (d.wr[j]? = some x) := by rw [hx]; exact getD_some _ _ _ (by omega)
      clear hx hcw
      have hj : (j : Int) < (d.wr.length : Int) := by omega
      by_cases he : x.1 = n
      · have he' : (x.1 == (n : Int)) = true := by rw [he]; simp
        have HF : Hid (lastOf d n = x.2) := by rw [Hid, HL.out, hl.out]; exact lastIn_hit _ _ _ _ _ HX.out he
        clear he
        go_wp2
        go_ret
        exact ⟨by rw [HF.out]; rfl, (Below.refl _ _).alloc (Nat.le_refl _) _⟩
      · have he' : (x.1 == (n : Int)) = false := by simpa using he
        have HE : Hid (¬ x.1 = n) := he
        clear he
        go_wp2
        go_round
        case rel =>
          refine ⟨j, by omega, ?_, by rw [Hid, hl.out]; exact lastIn_miss _ _ _ _ _ HX.out HE.out⟩
          by_cases h0 : j = 0
          · left; subst h0; exact ⟨rfl, rfl⟩
          · right; exact ⟨j - 1, by omega, by congr 1; omega⟩
        case measure => simp [intOf]

/-- disk.last: the text of the last write to a place; if there is none, the safe one. -/
theorem last_any (v : Value) (d : Dk) (n : Nat) (w : World) (h : IsDk w v d) (hn : d.safe.length = 37) (hp : n < 37) (hm : d.wr.length ≤ 200) :
    Calls Tryz.prog 79 #[v, .int .i64 n] w fun e w' => e = .returned (.string (lastOf d n)) ∧ Below w.heap.size w w' := by
  obtain ⟨a, c, a', c', rfl, hs, hw, h1, h2⟩ := h
  obtain ⟨b, off, rfl, hb, hc⟩ := hs.resolve_left (by intro e; rw [e] at hn; simp at hn)
  have := dlast_walk b off c a' c' d n w hn hp hm hb hc hw
  rw [← hn] at this
  exact this

end Go.Proofs.YtjnpndfpajjihabGreat

namespace Go.Proofs.YtjnpndfpajjihabGreat
open Go.RowKit

/-- What Read answers. -/
def readT (d : Dk) (n : Int) : ByteArray := if (goodB d && placeB n) = true then lastOf d n else ByteArray.empty
def readE (d : Dk) (n : Int) : Int := if (goodB d && placeB n) = true then 0 else 2

theorem good_len37 {d : Dk} (h : goodB d = true) : d.safe.length = 37 ∧ d.wr.length ≤ 200 := by
  simp only [goodB, Bool.and_eq_true, decide_eq_true_eq] at h
  exact ⟨h.1.1.1, h.1.1.2⟩

theorem place_nat {n : Int} (h : placeB n = true) : ∃ k : Nat, n = k ∧ k < 37 := by
  simp only [placeB, Bool.and_eq_true, decide_eq_true_eq] at h
  obtain ⟨k, rfl⟩ := Int.eq_ofNat_of_zero_le h.1
  exact ⟨k, rfl, by omega⟩

set_option maxHeartbeats 1000000 in
theorem read_any (v : Value) (d : Dk) (n : Int) (w : World) (h : IsDk w v d) :
    Calls Tryz.prog 82 #[v, .int .i64 n] w fun e w' => e = .returned (.tuple #[.string (readT d n), .int .i64 (readE d n)]) ∧ Below w.heap.size w w' := by
  have HI : Hid (IsDk w v d) := h
  obtain ⟨a, c, a', c', rfl, _, _, _, _⟩ := h
  by_cases hg : goodB d = true
  · by_cases hp : placeB n = true
    · have HT : Hid (readT d n = lastOf d n ∧ readE d n = 0) := by simp [Hid, readT, readE, hg, hp]
      obtain ⟨k, rfl, hk⟩ := place_nat hp
      go_enter Tryz.func82, Tryz.ntmps82
      go_wp2_with fail
      refine (good_any _ d _ (HI.out.below (below1 _ _))).mono ?_
      rintro e w1 ⟨rfl, hb1⟩
      obtain ⟨hc1, hf1⟩ := bcell hb1
      have hs1 : w.heap.size < w1.heap.size := by have := hb1.size; simp at this; omega
      go_wp2_with fail
      refine (isPlace_any _ _).mono ?_
      rintro e w2 ⟨rfl, rfl⟩
      go_wp2_with fail
      have hb2 := bthen (below1 _ _) hb1
      refine (last_any _ d k _ (HI.out.below hb2) (good_len37 hg).1 hk (good_len37 hg).2).mono ?_
      rintro e w3 ⟨rfl, hb3⟩
      have HB : Hid (Below w.heap.size w w3) := bthen hb2 hb3
      clear hb1 hb2 hb3 hc1 hf1
      go_wp2
      go_ret2
      exact ⟨by rw [HT.out.1, HT.out.2]; rfl, HB.out⟩
    · have HT : Hid (readT d n = ByteArray.empty ∧ readE d n = 2) := by simp [Hid, readT, readE, hp]
      have hp' : placeB n = false := by simpa using hp
      clear hp
      go_enter Tryz.func82, Tryz.ntmps82
      go_wp2_with fail
      refine (good_any _ d _ (HI.out.below (below1 _ _))).mono ?_
      rintro e w1 ⟨rfl, hb1⟩
      go_wp2_with fail
      refine (isPlace_any _ _).mono ?_
      rintro e w2 ⟨rfl, rfl⟩
      have HB : Hid (Below w.heap.size w w1) := bthen (below1 _ _) hb1
      clear hb1
      go_wp2
      go_ret2
      exact ⟨by rw [HT.out.1, HT.out.2]; rfl, HB.out⟩
  · have HT : Hid (readT d n = ByteArray.empty ∧ readE d n = 2) := by simp [Hid, readT, readE, hg]
    have hg' : goodB d = false := by simpa using hg
    clear hg
    go_enter Tryz.func82, Tryz.ntmps82
    go_wp2_with fail
    refine (good_any _ d _ (HI.out.below (below1 _ _))).mono ?_
    rintro e w1 ⟨rfl, hb1⟩
    have HB : Hid (Below w.heap.size w w1) := bthen (below1 _ _) hb1
    clear hb1
    go_wp2
    go_ret2
    exact ⟨by rw [HT.out.1, HT.out.2]; rfl, HB.out⟩

end Go.Proofs.YtjnpndfpajjihabGreat

namespace Go.Proofs.YtjnpndfpajjihabGreat
open Go.RowKit

theorem mostN_eq (n : Int) : mostN n = clampN n + (clampN n + 9) / 10 + (clampN n + 19) / 20 + 1 := by
  have : 0 ≤ clampN n ∧ clampN n ≤ 24 := by unfold clampN; split <;> (try split) <;> omega
  unfold mostN
  split <;> split <;> split <;> omega
end Go.Proofs.YtjnpndfpajjihabGreat

namespace Go.Proofs.YtjnpndfpajjihabGreat
open Go.RowKit

set_option maxHeartbeats 400000 in
theorem within_any (n l m : Int) (w : World) :
    Calls Tryz.prog 142 #[.int .i64 n, .int .i64 l, .int .i64 m] w fun e w' => e = .returned (.bool (withinB n l m)) ∧ w = w' := by
  by_cases h0 : l ≤ n <;> by_cases h1 : n ≤ m
  all_goals
    go_enter Tryz.func142, Tryz.ntmps142
    go_wp2
    go_ret
    exact ⟨by simp [withinB, h0, h1], rfl⟩

set_option maxHeartbeats 400000 in
theorem place_any (n : Int) (w : World) (h : -24 ≤ n) (h2 : n ≤ 1000) :
    Calls Tryz.prog 146 #[.int .i64 n] w fun e w' => e = .returned (.int .i64 (n % 24)) ∧ w = w' := by
  have r : (n + 24).tmod 24 = n % 24 := by rw [Int.tmod_eq_emod_of_nonneg (by omega)]; omega
  go_enter Tryz.func146, Tryz.ntmps146
  go_wp2
  go_ret
  exact ⟨by first | rfl | rw [r], rfl⟩

theorem goodR_within (h u : Int) : goodR h u = (withinB h 0 23 && withinB u 0 24) := by simp [goodR, withinB, Bool.and_assoc]

set_option maxHeartbeats 1000000 in
theorem ringGood_any (h u : Int) (w : World) :
    Calls Tryz.prog 105 #[.agg #[.int .i64 h, .int .i64 u]] w fun e w' => e = .returned (.bool (goodR h u)) ∧ Below w.heap.size w w' := by
  rw [goodR_within]
  cases h1 : withinB h 0 23 with
  | false =>
    go_enter Tryz.func105, Tryz.ntmps105
    go_wp2_with (go_at_call 142; refine (within_any _ _ _ _).mono ?_; rintro e w' ⟨rfl, rfl⟩)
    go_ret
    exact ⟨rfl, below1 _ _⟩
  | true =>
    go_enter Tryz.func105, Tryz.ntmps105
    go_wp2_with (go_at_call 142; refine (within_any _ _ _ _).mono ?_; rintro e w' ⟨rfl, rfl⟩)
    go_ret
    exact ⟨by simp, below1 _ _⟩

set_option maxHeartbeats 400000 in
theorem ringFree_any (h u : Int) (w : World) (h0 : 0 ≤ u) (h1 : u ≤ 24) :
    Calls Tryz.prog 145 #[.agg #[.int .i64 h, .int .i64 u]] w fun e w' => e = .returned (.int .i64 (24 - u)) ∧ Below w.heap.size w w' := by
  go_enter Tryz.func145, Tryz.ntmps145
  go_wp2
  go_ret
  exact ⟨rfl, below1 _ _⟩

end Go.Proofs.YtjnpndfpajjihabGreat

namespace Go.Proofs.YtjnpndfpajjihabGreat
open Go.RowKit

set_option maxHeartbeats 400000 in
theorem parts_any (n s : Int) (w : World) (h : 0 ≤ n) (h2 : n ≤ 1000) (hs : 1 ≤ s) (hs2 : s ≤ 1000) :
    Calls Tryz.prog 162 #[.int .i64 n, .int .i64 s] w fun e w' => e = .returned (.int .i64 ((n + s - 1) / s)) ∧ w = w' := by
  have r : (n + s - 1).tdiv s = (n + s - 1) / s := Int.tdiv_eq_ediv_of_nonneg (by omega)
  have hlo : 0 ≤ (n + s - 1) / s := Int.ediv_nonneg (by omega) (by omega)
  have hhi : (n + s - 1) / s ≤ n + s - 1 := Int.ediv_le_self _ (by omega)
  have hs0 : ¬ s = 0 := by omega
  have hsm : ¬ s = -1 := by omega
  go_enter Tryz.func162, Tryz.ntmps162
  go_wp2
  go_ret
  exact ⟨by first | rfl | rw [r], rfl⟩

set_option maxHeartbeats 400000 in
theorem descriptors_any (n : Int) (w : World) (h : 0 ≤ n) (h2 : n ≤ 1000) :
    Calls Tryz.prog 144 #[.int .i64 n] w fun e w' => e = .returned (.int .i64 ((n + 9) / 10)) ∧ w = w' := by
  go_enter Tryz.func144, Tryz.ntmps144
  go_wp2_with fail
  refine (parts_any n 10 _ h h2 (by omega) (by omega)).mono ?_
  rintro e w1 ⟨rfl, rfl⟩
  go_wp2
  go_ret
  exact ⟨by first | rfl | (rw [show n + 10 - 1 = n + 9 from by omega]; rfl), rfl⟩

set_option maxHeartbeats 400000 in
theorem lists_any (n : Int) (w : World) (h : 0 ≤ n) (h2 : n ≤ 1000) :
    Calls Tryz.prog 143 #[.int .i64 n] w fun e w' => e = .returned (.int .i64 ((n + 19) / 20)) ∧ w = w' := by
  go_enter Tryz.func143, Tryz.ntmps143
  go_wp2_with fail
  refine (parts_any n 20 _ h h2 (by omega) (by omega)).mono ?_
  rintro e w1 ⟨rfl, rfl⟩
  go_wp2
  go_ret
  exact ⟨by first | rfl | (rw [show n + 20 - 1 = n + 19 from by omega]; rfl), rfl⟩

set_option maxHeartbeats 2000000 in
theorem ringMost_any (n : Int) (w : World) :
    Calls Tryz.prog 134 #[.int .i64 n] w fun e w' => e = .returned (.int .i64 (mostN n)) ∧ w = w' := by
  have HM : Hid (mostN n = clampN n + (clampN n + 9) / 10 + (clampN n + 19) / 20 + 1) := mostN_eq n
  by_cases h0 : n < 0
  · have e0 : clampN n = 0 := by unfold clampN; rw [if_pos h0]
    rw [e0] at HM
    have h1 : ¬ 0 ≤ n := by omega
    have h2 : n ≤ 24 := by omega
    go_enter Tryz.func134, Tryz.ntmps134
    go_wp2_with (first
        | (go_at_call 143; refine (lists_any 0 _ (by omega) (by omega)).mono ?_; rintro e w' ⟨rfl, rfl⟩)
        | (go_at_call 144; refine (descriptors_any 0 _ (by omega) (by omega)).mono ?_; rintro e w' ⟨rfl, rfl⟩))
    go_ret
    exact ⟨by rw [HM.out]; rfl, rfl⟩
  · by_cases h24 : 24 < n
    · have e0 : clampN n = 24 := by unfold clampN; rw [if_neg h0, if_pos h24]
      rw [e0] at HM
      have h1 : 0 ≤ n := by omega
      have h2 : ¬ n ≤ 24 := by omega
      have h3 : ¬ n < 24 := by omega
      have h4 : 0 < n := by omega
      go_enter Tryz.func134, Tryz.ntmps134
      go_wp2_with (first
          | (go_at_call 143; refine (lists_any 24 _ (by omega) (by omega)).mono ?_; rintro e w' ⟨rfl, rfl⟩)
          | (go_at_call 144; refine (descriptors_any 24 _ (by omega) (by omega)).mono ?_; rintro e w' ⟨rfl, rfl⟩))
      go_ret
      exact ⟨by rw [HM.out]; rfl, rfl⟩
    · have e0 : clampN n = n := by unfold clampN; rw [if_neg h0, if_neg h24]
      rw [e0] at HM
      have h1 : 0 ≤ n := by omega
      have h2 : n ≤ 24 := by omega
      have b1 : 0 ≤ (n + 19) / 20 ∧ (n + 19) / 20 ≤ 10 := by omega
      have b2 : 0 ≤ (n + 9) / 10 ∧ (n + 9) / 10 ≤ 10 := by omega
      go_enter Tryz.func134, Tryz.ntmps134
      go_wp2_with (first
          | (go_at_call 143; refine (lists_any n _ (by omega) (by omega)).mono ?_; rintro e w' ⟨rfl, rfl⟩)
          | (go_at_call 144; refine (descriptors_any n _ (by omega) (by omega)).mono ?_; rintro e w' ⟨rfl, rfl⟩))
      go_ret
      exact ⟨by rw [HM.out]; rfl, rfl⟩

end Go.Proofs.YtjnpndfpajjihabGreat

namespace Go.Proofs.YtjnpndfpajjihabGreat
open Go.RowKit

set_option maxHeartbeats 2000000 in
theorem ringNeed_any (m r : Int) (w : World) :
    Calls Tryz.prog 106 #[.int .i64 m, .int .i64 r] w fun e w' => e = .returned (.tuple #[.int .i64 (needN m r), .int .i64 (needE m r)]) ∧ w = w' := by
  cases h1 : withinB m 0 12 with
  | false =>
    have HE : Hid (needE m r = 2) := by rw [Hid, needE, if_pos]; simp [withinB] at h1; omega
    have HN : Hid (needN m r = 0) := by simp [Hid, needN, HE.out]
    go_enter Tryz.func106, Tryz.ntmps106
    go_wp2_with (go_at_call 142; refine (within_any _ _ _ _).mono ?_; rintro e w' ⟨rfl, rfl⟩)
    go_ret2
    exact ⟨by rw [HE.out, HN.out]; rfl, rfl⟩
  | true =>
    cases h2 : withinB r 0 12 with
    | false =>
      have HE : Hid (needE m r = 2) := by rw [Hid, needE, if_pos]; simp [withinB] at h2; omega
      have HN : Hid (needN m r = 0) := by simp [Hid, needN, HE.out]
      go_enter Tryz.func106, Tryz.ntmps106
      go_wp2_with (go_at_call 142; refine (within_any _ _ _ _).mono ?_; rintro e w' ⟨rfl, rfl⟩)
      go_ret2
      exact ⟨by rw [HE.out, HN.out]; rfl, rfl⟩
    | true =>
      have hm : 0 ≤ m ∧ m ≤ 12 := by simpa [withinB] using h1
      have hr : 0 ≤ r ∧ r ≤ 12 := by simpa [withinB] using h2
      have HE : Hid (needE m r = 0) := by rw [Hid, needE, if_neg]; omega
      have HN : Hid (needN m r = (r + 19) / 20 + (m + 9) / 10 + m + 1) := by
        rw [Hid, needN, if_pos HE.out]
        split <;> split <;> split <;> omega
      have b1 : 0 ≤ (r + 19) / 20 ∧ (r + 19) / 20 ≤ 10 := by omega
      have b2 : 0 ≤ (m + 9) / 10 ∧ (m + 9) / 10 ≤ 10 := by omega
      go_enter Tryz.func106, Tryz.ntmps106
      go_wp2_with (first
        | (go_at_call 142; refine (within_any _ _ _ _).mono ?_; rintro e w' ⟨rfl, rfl⟩)
        | (go_at_call 143; refine (lists_any r _ (by omega) (by omega)).mono ?_; rintro e w' ⟨rfl, rfl⟩)
        | (go_at_call 144; refine (descriptors_any m _ (by omega) (by omega)).mono ?_; rintro e w' ⟨rfl, rfl⟩))
      go_ret2
      exact ⟨by rw [HE.out, HN.out]; rfl, rfl⟩

end Go.Proofs.YtjnpndfpajjihabGreat
