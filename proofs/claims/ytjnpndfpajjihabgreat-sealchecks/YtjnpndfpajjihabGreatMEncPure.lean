/-
  What the bytes of a mark are. Nothing of the program is proved here.
-/
import Derived.Test.YtjnpndfpajjihabGreatMCore
import Derived.Test.YtjnpndfpajjihabGreatByteOne
import Derived.Test.YtjnpndfpajjihabGreatFitPure
namespace Go.Proofs.YtjnpndfpajjihabGreat
open Go.RowKit

/-- What stands ahead in every mark's block. -/
def headT (k q : Int) : ByteArray := (⟨#[87, 66, 75, 49]⟩ : ByteArray) ++ oneB k.toNat ++ oneB (q / 16777216).toNat ++ oneB (q / 65536 % 256).toNat ++ oneB (q / 256 % 256).toNat ++ oneB (q % 256).toNat
theorem head_size (k q : Int) : (headT k q).size = 9 := rfl

/-- The tags, the blocks of a mark behind what stands ahead. -/
def tagsT (s : ByteArray) : List (Int × Bool) → ByteArray
  | [] => s
  | x :: r => tagsT ((s ++ oneB x.1.toNat) ++ (if x.2 then (⟨#[1]⟩ : ByteArray) else ⟨#[0]⟩)) r
def numsT (s : ByteArray) : List Int → ByteArray
  | [] => s
  | x :: r => numsT (s ++ oneB x.toNat) r
theorem tagsT_snoc (s : ByteArray) (l : List (Int × Bool)) (x : Int × Bool) : tagsT s (l ++ [x]) = (tagsT s l ++ oneB x.1.toNat) ++ (if x.2 then (⟨#[1]⟩ : ByteArray) else ⟨#[0]⟩) := by
  induction l generalizing s with
  | nil => rfl
  | cons y r ih => exact ih _
theorem numsT_snoc (s : ByteArray) (l : List Int) (x : Int) : numsT s (l ++ [x]) = numsT s l ++ oneB x.toNat := by
  induction l generalizing s with
  | nil => rfl
  | cons y r ih => exact ih _
theorem tagsT_size (s : ByteArray) (l : List (Int × Bool)) : (tagsT s l).size = s.size + 2 * l.length := by
  induction l generalizing s with
  | nil => rfl
  | cons y r ih =>
    rw [tagsT, ih, ByteArray.size_append, ByteArray.size_append]
    have h1 : (oneB y.1.toNat).size = 1 := rfl
    have h2 : (if y.2 = true then (⟨#[1]⟩ : ByteArray) else ⟨#[0]⟩).size = 1 := by cases y.2 <;> rfl
    rw [h1, h2, List.length_cons]
    omega
theorem numsT_size (s : ByteArray) (l : List Int) : (numsT s l).size = s.size + l.length := by
  induction l generalizing s with
  | nil => rfl
  | cons y r ih =>
    rw [numsT, ih, ByteArray.size_append]
    have h1 : (oneB y.toNat).size = 1 := rfl
    rw [h1, List.length_cons]
    omega

/-- The bytes of a mark, ahead of the noughts that fill it up. -/
def bodyT (m : Mk) : ByteArray :=
  if m.kind = 1 then headT m.kind m.seq ++ oneB m.pos.toNat
  else if m.kind = 2 then tagsT (headT m.kind m.seq ++ oneB m.tags.length) m.tags
  else if m.kind = 3 then numsT (headT m.kind m.seq ++ oneB m.blocks.length) m.blocks
  else headT m.kind m.seq
def encT (m : Mk) : ByteArray := if goodM m = 0 then fitT (bodyT m) else ByteArray.empty

theorem rises_bd (q : Int) (l : List Int) (h : risesFrom q l = true) (hq : -1 ≤ q) : ∀ x ∈ l, 0 ≤ x ∧ x ≤ 11 := by
  induction l generalizing q with
  | nil => intro x hx; cases hx
  | cons y r ih =>
    by_cases e : y ≤ q ∨ 11 < y
    · simp [risesFrom, e] at h
    · simp only [risesFrom, if_neg e] at h
      intro x hx
      rcases List.mem_cons.1 hx with rfl | hx
      · omega
      · exact ih y h (by omega) x hx

/-- What it takes for a mark to be good. -/
theorem goodM_parts {m : Mk} (h : goodM m = 0) : (1 ≤ m.kind ∧ m.kind ≤ 4) ∧ (1 ≤ m.seq ∧ m.seq ≤ 2147483647 ∧ 0 ≤ m.pos ∧ m.pos ≤ 23) ∧ ((m.kind ≠ 1 → m.pos = 0) ∧ (m.kind ≠ 2 → m.tags = []) ∧ (m.kind ≠ 3 → m.blocks = [])) ∧
    (m.kind = 2 → 1 ≤ m.tags.length ∧ m.tags.length ≤ 10) ∧ (m.kind = 3 → 1 ≤ m.blocks.length ∧ m.blocks.length ≤ 20) ∧ rises (m.tags.map (·.1)) = true ∧ rises m.blocks = true := by
  unfold goodM at h
  by_cases h1 : m.kind < 1 ∨ 4 < m.kind
  · rw [if_pos h1] at h; cases h
  · rw [if_neg h1] at h
    by_cases h2 : m.seq < 1 ∨ 2147483647 < m.seq ∨ m.pos < 0 ∨ 23 < m.pos
    · rw [if_pos h2] at h; cases h
    · rw [if_neg h2] at h
      by_cases h3 : (m.kind ≠ 1 ∧ m.pos ≠ 0) ∨ (m.kind ≠ 2 ∧ m.tags ≠ []) ∨ (m.kind ≠ 3 ∧ m.blocks ≠ [])
      · rw [if_pos h3] at h; cases h
      · rw [if_neg h3] at h
        by_cases h4 : (m.kind = 2 ∧ (m.tags.length < 1 ∨ 10 < m.tags.length)) ∨ (m.kind = 3 ∧ (m.blocks.length < 1 ∨ 20 < m.blocks.length)) ∨ rises (m.tags.map (·.1)) = false ∨ rises m.blocks = false
        · rw [if_pos h4] at h; cases h
        · refine ⟨by omega, by omega, ⟨?_, ?_, ?_⟩, ?_, ?_, ?_, ?_⟩
          · intro e; by_cases x : m.pos = 0
            · exact x
            · exact absurd (.inl ⟨e, x⟩) h3
          · intro e; by_cases x : m.tags = []
            · exact x
            · exact absurd (.inr (.inl ⟨e, x⟩)) h3
          · intro e; by_cases x : m.blocks = []
            · exact x
            · exact absurd (.inr (.inr ⟨e, x⟩)) h3
          · intro e
            have : ¬ (m.tags.length < 1 ∨ 10 < m.tags.length) := fun x => h4 (.inl ⟨e, x⟩)
            omega
          · intro e
            have : ¬ (m.blocks.length < 1 ∨ 20 < m.blocks.length) := fun x => h4 (.inr (.inl ⟨e, x⟩))
            omega
          · cases hr : rises (m.tags.map (·.1)) with
            | true => rfl
            | false => exact absurd (.inr (.inr (.inl hr))) h4
          · cases hr : rises m.blocks with
            | true => rfl
            | false => exact absurd (.inr (.inr (.inr hr))) h4

end Go.Proofs.YtjnpndfpajjihabGreat
