/-
  The walk of slices.Repeat at []string, of one text thirty-seven times; then of disk.New.
-/
import Derived.Test.YtjnpndfpajjihaaFit
import Derived.Laws.CopyOwn
namespace Go.Proofs.Ytjnpndfpajjihaa
open Go.RowKit

/-- A row of which the first n cells are filled. -/
def row (s : ByteArray) (n m : Nat) : List Value := List.replicate n (.string s) ++ List.replicate m (.string ⟨#[]⟩)

/-- So many copies. -/
def reps (s : ByteArray) (k : Nat) : List Value := List.replicate k (.string s)
theorem reps_length (s : ByteArray) (k : Nat) : (reps s k).length = k := by simp [reps]
theorem reps_at {s : ByteArray} {k j : Nat} {u : Value} (h : (reps s k)[j]? = some u) : j < k ∧ u = .string s := by
  rw [reps, List.getElem?_replicate] at h
  split at h
  · exact ⟨by assumption, by cases h; rfl⟩
  · cases h

theorem row_length (s : ByteArray) (n m : Nat) : (row s n m).length = n + m := by simp [row]
theorem row_splice (s : ByteArray) (n m k : Nat) : splice (row s n m) n (reps s k) = row s (n + k) (m - k) := by
  have e1 : (row s n m).take n = List.replicate n (.string s) := by simp [row]
  have e2 : (row s n m).drop (n + k) = List.replicate (m - k) (.string ⟨#[]⟩) := by simp [row, List.drop_append]
  rw [splice, e1, reps_length, e2, row, reps, ← List.append_assoc, List.replicate_append_replicate]
theorem row_head (s : ByteArray) (n m j : Nat) (h : j < n) : (row s n m)[j]? = some (.string s) := by
  rw [row, List.getElem?_append_left (by simpa using h)]
  simp [h]
theorem rep_one (s : ByteArray) (k : Nat) : ∀ u ∈ reps s k, u.oneCell' = true := by
  intro u hu
  rw [List.eq_of_mem_replicate hu]
  rfl

theorem row_src {s : ByteArray} {wr : World} {B n m k : Nat} (HG : Hid (wr.heap[B]? = some (.cells (row s n m).toArray 9 (0, 0)))) (hk : k ≤ n) :
    ∀ j v, (reps s k)[j]? = some v → wr.cell? ((⟨B, 0, none⟩ : Addr).add j) = some v := by
  intro j v hj
  obtain ⟨hlt, rfl⟩ := reps_at hj
  rw [Addr.add_lit, Nat.zero_add, cell_of_row wr B j _ 9 (0, 0) HG.out]
  simpa using row_head s n m j (by omega)

theorem sizeS : (Try.prog.info? 9).map (fun i => i.size) = some 1 := by kernel_rfl

theorem mul_1_37 (w : World) : Calls Try.prog 87 #[.int .u64 1, .int .u64 37] w fun e w' => e = .returned (.tuple #[.int .u64 0, .int .u64 37]) ∧ w = w' := by
  refine (Try.bits_Mul 1 37 (by decide) (by decide) w).mono ?_
  rintro e w' ⟨rfl, rfl⟩
  exact ⟨rfl, rfl⟩

theorem make37 (s : ByteArray) (w : World) : (Instr.makeSlice 22 (.int .i64 37) (.int .i64 37)).run Try.prog w = .ok (.slice (some ⟨w.heap.size, 0, none⟩) 37 37) (w.alloc (.cells (row s 0 37).toArray 9)) := by kernel_rfl

/-- A new disk as plain data. -/
def newK : Dk := ⟨List.replicate 37 (fitT ⟨#[]⟩), []⟩
end Go.Proofs.Ytjnpndfpajjihaa
