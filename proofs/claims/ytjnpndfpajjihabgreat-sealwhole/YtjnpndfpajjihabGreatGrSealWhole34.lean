/-
  What is found on a disk, as plain data: how small it is, and that it can be put right. Nothing of the program is proved here.
  The walk of disk.choices: the texts that a place may have behind a crash.
-/
import Derived.Test.YtjnpndfpajjihabGreatGrSealWhole23
import Derived.Test.YtjnpndfpajjihabGreatGrSealWhole27
import Derived.Test.YtjnpndfpajjihabGreatGrSealWhole30
import Derived.Test.YtjnpndfpajjihabGreatGrSealWhole32
import Derived.Test.YtjnpndfpajjihabGreatGrSealWhole33
import Derived.Test.YtjnpndfpajjihabGreatGrSealWhole25
namespace Go.Proofs.YtjnpndfpajjihabGreat
open Go.RowKit

/-- A transaction as a log tells it. -/
def Told (n : Nat) (t : Tx) : Prop := t.info.length ≤ n ∧ t.rev.length ≤ 20 * n ∧ t.data = [] ∧ t.h0 = ⟨false, 0⟩ ∧ t.h1 = ⟨false, 0⟩ ∧ t.h2 = ⟨false, 0⟩
theorem mark_small {m : Mk} (h : goodM m = 0) : m.tags.length ≤ 10 ∧ m.blocks.length ≤ 20 := by
  unfold goodM at h
  split at h
  · cases h
  · split at h
    · cases h
    · split at h
      · cases h
      · rename_i h3
        split at h
        · cases h
        · rename_i h4
          constructor
          · by_cases e : m.kind = 2
            · have : ¬ (m.tags.length < 1 ∨ 10 < m.tags.length) := fun x => h4 (.inl ⟨e, x⟩)
              omega
            · have : ¬ m.tags ≠ [] := fun x => h3 (.inr (.inl ⟨e, x⟩))
              simp only [ne_eq, Decidable.not_not] at this
              rw [this]; exact Nat.zero_le _
          · by_cases e : m.kind = 3
            · have : ¬ (m.blocks.length < 1 ∨ 20 < m.blocks.length) := fun x => h4 (.inr (.inl ⟨e, x⟩))
              omega
            · have : ¬ m.blocks ≠ [] := fun x => h3 (.inr (.inr ⟨e, x⟩))
              simp only [ne_eq, Decidable.not_not] at this
              rw [this]; exact Nat.zero_le _
theorem runT_told (log : List ByteArray) (seq : Int) : ∀ (f i : Nat) (t : Tx) (n : Nat) (u : Tx), log.length - i ≤ f → i ≤ log.length → Told i t → runT log seq i t = some (n, u) → Told log.length u ∧ u.seq = t.seq := by
  intro f
  induction f with
  | zero => intro i t n u hf hi ht h; rw [runT, dif_neg (by omega)] at h; cases h
  | succ f ih =>
    intro i t n u hf hi ht h
    rw [runT] at h
    split at h
    · split at h
      · cases h
      · rename_i h1
        split at h
        · cases h
          obtain ⟨a, b, c⟩ := ht
          exact ⟨⟨by omega, by omega, c⟩, rfl⟩
        · split at h
          · rename_i h3
            have he : (stampDec (log.getD i ByteArray.empty)).2 = 0 := by
              by_cases hx : (stampDec (log.getD i ByteArray.empty)).2 = 0
              · exact hx
              · exact absurd (.inl hx) h1
            have hm := mark_small (dec_good he)
            have := ih _ _ _ _ (by omega) h3 ?_ h
            · exact ⟨this.1, this.2⟩
            · obtain ⟨a, b, c⟩ := ht
              refine ⟨?_, ?_, c⟩
              · show (t.info ++ copiesAt log (i + 1) _).length ≤ _
                rw [List.length_append, copiesAt_length]; omega
              · show (t.rev ++ _).length ≤ _
                rw [List.length_append]; omega
          · cases h
    · cases h
theorem scanP_told (log : List ByteArray) : ∀ (f pos : Nat) (seq : Int) (acc : List Tx), log.length - pos ≤ f → (∀ t ∈ acc, Told log.length t) → seq ≤ 2147483647 → (∀ t ∈ (scanP log pos seq acc).1, Told log.length t) ∧ seq + ((scanP log pos seq acc).1.length : Int) ≤ 2147483647 + (acc.length : Int) ∧ (pos ≤ log.length → (scanP log pos seq acc).2 ≤ log.length) := by
  intro f
  induction f with
  | zero =>
    intro pos seq acc hf ha hq
    rw [scanP]
    split
    · rw [runT, dif_neg (by omega)]
      exact ⟨ha, by simp; omega, fun h => h⟩
    · exact ⟨ha, by simp; omega, fun h => h⟩
  | succ f ih =>
    intro pos seq acc hf ha hq
    rw [scanP]
    split
    · split
      · exact ⟨ha, by simp; omega, fun h => h⟩
      · rename_i h2 n t hr
        have hb := runT_bound log seq _ pos _ n t (Nat.le_refl _) hr
        have ht := (runT_told log seq _ pos (txOf seq) n t (Nat.le_refl _) (by omega) ⟨Nat.zero_le _, Nat.zero_le _, rfl, rfl, rfl, rfl⟩ hr).1
        have := ih n (seq + 1) (acc ++ [t]) (by omega) (fun x hx => by
          rcases List.mem_append.1 hx with h | h
          · exact ha x h
          · rw [List.mem_singleton.1 h]; exact ht) (by omega)
        refine ⟨this.1, ?_, fun _ => this.2.2 hb.2⟩
        have h3 := this.2.1
        rw [List.length_append, List.length_singleton] at h3
        push_cast at h3 ⊢
        omega
    · exact ⟨ha, by simp; omega, fun h => h⟩
theorem scan_good2 {d : Dk} (h : scanE d = 0) : goodB d = true ∧ (1 ≤ (superM d).seq ∧ (superM d).seq ≤ 2147483647) ∧ 0 ≤ (superM d).pos ∧ (superM d).pos ≤ 23 ∧ stampDec (readT d 0) = (superM d, 0) ∧ (superM d).kind = 1 := by
  unfold scanE at h
  split at h
  · rename_i h1; exact absurd h h1
  · rename_i h1
    split at h
    · cases h
    · rename_i h2
      have h3 : (stampDec (readT d 0)).2 = 0 := by
        by_cases hx : (stampDec (readT d 0)).2 = 0
        · exact hx
        · exact absurd (.inl hx) h2
      have hk : (superM d).kind = 1 := by
        by_cases hx : (superM d).kind = 1
        · exact hx
        · exact absurd (.inr hx) h2
      have h4 := dec_good h3
      have h5 : readE d 0 = 0 := by
        by_cases hx : readE d 0 = 0
        · exact hx
        · exact absurd hx h1
      refine ⟨?_, ?_⟩
      · unfold readE at h5
        split at h5
        · rename_i hx; exact (Bool.and_eq_true_iff.1 hx).1
        · cases h5
      · have h6 : goodM (superM d) = 0 := h4
        unfold goodM at h4
        split at h4
        · cases h4
        · split at h4
          · cases h4
          · rename_i hx
            have hy : ¬ ((superM d).seq < 1 ∨ 2147483647 < (superM d).seq ∨ (superM d).pos < 0 ∨ 23 < (superM d).pos) := hx
            refine ⟨by omega, by omega, by omega, ?_, hk⟩
            exact Prod.ext rfl h3
theorem fnd_facts {d : Dk} (h : scanE d = 0) : (∀ t ∈ fndL d, Told 24 t) ∧ (1 ≤ fndN d ∧ fndN d ≤ 2147483647) ∧ 0 ≤ fndP d ∧ fndP d ≤ 23 := by
  obtain ⟨_, ⟨q1, q2⟩, p1, p2, _, _⟩ := scan_good2 h
  have := scanP_told (logOf d (superM d).pos) 24 0 (superM d).seq [] (by rw [logOf_length]; omega) (fun t ht => by cases ht) q2
  rw [logOf_length] at this
  rw [fndL, fndN, fndP, if_pos h, if_pos h, if_pos h]
  have h2 : (superM d).seq + ((scanL d).1.length : Int) ≤ 2147483647 := by have := this.2.1; simpa [scanL] using this
  exact ⟨this.1, ⟨by omega, h2⟩, by omega, by omega⟩

theorem newestF_good {l : List Tx} (h : ∀ t ∈ l, goodX t = true) (b : Int) : ∀ s, newestF l b = some s → fitsB s = true := by
  have key : ∀ (l : List Tx) (o : Option ByteArray), (∀ t ∈ l, goodX t = true) → (∀ s, o = some s → fitsB s = true) → ∀ s, l.foldl (nwStep b) o = some s → fitsB s = true := by
    intro l
    induction l with
    | nil => intro o _ ho s hs; exact ho s hs
    | cons t l ih =>
      intro o hg ho s hs
      rw [List.foldl_cons] at hs
      refine ih _ (fun x hx => hg x (by simp [hx])) ?_ s hs
      intro u hu
      unfold nwStep at hu
      split at hu
      · have hf := ((goodX_iff t).1 (hg t (by simp))).2.1.1
        have : ∀ m : List (Int × ByteArray), fitsAll m = true → textIn b m = some u → fitsB u = true := by
          intro m
          induction m with
          | nil => intro _ h; cases h
          | cons y m ih2 =>
            intro hm hx
            simp only [fitsAll, List.all_cons, Bool.and_eq_true] at hm
            rw [textIn] at hx
            split at hx
            · cases hx; exact hm.1
            · exact ih2 hm.2 hx
        exact this _ hf hu
      · split at hu
        · cases hu
        · exact ho u hu
  exact key l none h (fun s hs => by cases hs)
theorem asN_mem {f : Int → Option ByteArray} {n : Nat} {x : Int × ByteArray} (h : x ∈ asN f n) : 0 ≤ x.1 ∧ x.1 < n ∧ f x.1 = some x.2 := by
  induction n with
  | zero => simp [asN] at h
  | succ n ih =>
    rw [asN_snoc] at h
    rcases List.mem_append.1 h with h | h
    · have := ih h
      exact ⟨this.1, by omega, this.2.2⟩
    · unfold oneC at h
      cases hf : f (n : Int) with
      | none => rw [hf] at h; simp at h
      | some s => rw [hf] at h; simp at h; subst h; exact ⟨by simp, by simp; omega, hf⟩
/-- What is found can be put right. -/
theorem check_ok {d : Dk} (h : scanE d = 0) (hg : ∀ t ∈ fndL d, goodX t = true) : checkE (newestL (fndL d)) (fndP d) (fndN d) = 0 := by
  obtain ⟨_, ⟨q1, q2⟩, p1, p2⟩ := fnd_facts h
  have h1 : goodM (superMk (fndP d) (fndN d)) = 0 := by
    unfold goodM superMk
    rw [if_neg (by simp), if_neg (by simp; omega), if_neg (by simp), if_neg]
    rintro (h | h | h | h)
    · have := h.1; simp at this
    · have := h.1; simp at this
    · revert h; simp [rises, risesFrom]
    · revert h; simp [rises, risesFrom]
  rw [checkE, h1, if_neg (by simp), if_neg]
  intro hx
  obtain ⟨x, hx1, hx2⟩ := List.any_eq_true.1 hx
  obtain ⟨a, b, c⟩ := asN_mem hx1
  have hf := newestF_good hg x.1 x.2 c
  have hsz : x.2.size = 32 := by have := hf; simp [fitsB] at this; omega
  revert hx2
  simp [noCopyB, withinB, hsz]
  omega

/-- What steps leave as it was. -/
theorem runK_read (n : Nat) (hn : n < 37) : ∀ (l : List St) (d : Dk), goodB d = true → (∀ s ∈ l, s.1 ≠ 2 → s.2.1 ≠ (n : Int)) → readT (runK d l) n = readT d n ∧ goodB (runK d l) = true := by
  intro l
  induction l with
  | nil => intro d hg _; exact ⟨rfl, hg⟩
  | cons s l ih =>
    intro d hg hs
    have key : readT (stepK d s) n = readT d n ∧ goodB (stepK d s) = true := by
      unfold stepK
      by_cases hf : s.1 = 2
      · rw [if_pos hf, flushK, if_pos hg]
        exact ⟨read_flush hg hn, flush_good hg⟩
      · rw [if_neg hf]
        by_cases he : putE d s.2.1 s.2.2 = 0
        · exact ⟨(read_other he n).2 (fun e => hs s (by simp) hf e.symm), good_put he⟩
        · rw [putK_no he]; exact ⟨rfl, hg⟩
    have := ih (stepK d s) key.2 (fun x hx => hs x (by simp [hx]))
    exact ⟨this.1.trans key.1, this.2⟩

end Go.Proofs.YtjnpndfpajjihabGreat

namespace Go.Proofs.YtjnpndfpajjihabGreat
open Go.RowKit

set_option maxHeartbeats 2000000 in
set_option maxRecDepth 100000 in
theorem choices_walk (b off c : Nat) (a' : Option Addr) (c' : Nat) (d : Dk) (n : Nat) (w : World) (hn : d.safe.length = 37) (hp : n < 37) (hm : d.wr.length ≤ 200) (hb : b < w.heap.size)
    (hc : ∀ i, i < d.safe.length → w.cell? ⟨b, off + i, none⟩ = some (.string (d.safe.getD i ByteArray.empty))) (hw : SegW w a' d.wr) :
    Calls Tryz.prog 84 #[.agg #[.slice (some ⟨b, off, none⟩) 37 c, .slice a' d.wr.length c'], .int .i64 n] w fun e w' => ∃ v', e = .returned v' ∧ w'.ownsRow w.heap.size 9 1 v' (ways d n).length (cellsS (ways d n)) ∧ Below w.heap.size w w' := by
  have HW := hide hw
  obtain ⟨z, hz⟩ : ∃ z, z = d.safe.getD n ByteArray.empty := ⟨_, rfl⟩
  have hcn := hc n (by omega)
  rw [← hz] at hcn
  have hp' : (n : Int) < 37 := by omega
  have H0 : Hid (waysTo d n 0 = [z]) := by rw [hz]; rfl
  clear hn hw hc hz
  obtain ⟨i0, hi, hz0, hz1, hz2⟩ := info_parts infoS
  go_enter Tryz.func84, Tryz.ntmps84
  go_wp2
  go_loopw [5, 17] (fun v i wr => ∃ k : Nat, k ≤ d.wr.length ∧ i = .int .i64 k ∧ Hid (wr.ownsRow w.heap.size 9 1 v (waysTo d n k).length (cellsS (waysTo d n k))) ∧ Below w.heap.size w wr) (fun _ i _ => d.wr.length - (intOf i).toNat)
  case atStart =>
    refine ⟨0, Nat.zero_le _, rfl, ?_, bthen (below1 _ _) (below1 _ _)⟩
    rw [H0.out]
    have h := World.ownsRow_lit (e := 9) (size := 1) (w.alloc (Obj.cells #[.slice (some ⟨b, off, none⟩) 37 c, .slice a' d.wr.length c'] 58)) #[.string z] 1 (below1 w _).size (by decide) rfl
    unfold Hid
    simpa [cellsS] using h
  case round =>
    obtain ⟨k, hk, rfl, hown, hbr⟩ := hrel
    have hsr := hbr.size
    by_cases hlt : k < d.wr.length
    · obtain ⟨b', off', rfl, hb', hcw⟩ := HW.out.resolve_left (by intro e; rw [e] at hlt; simp at hlt)
      obtain ⟨x, hx⟩ : ∃ x, x = d.wr.getD k (0, ByteArray.empty) := ⟨_, rfl⟩
      obtain ⟨hc1, hc2⟩ := hcw k hlt
      rw [← hx] at hc1 hc2
      have HX : Hid (d.wr[k]? = some x) := by rw [hx]; exact getD_some _ _ _ hlt
      clear hx hcw
      have g1 := cellKeep hbr hb' hc1
      have g2 := cellKeep hbr hb' hc2
      clear hc1 hc2
      have hl := waysTo_length d n k hm
      obtain ⟨m, s⟩ := x
      by_cases he : m = n
      · have he' : (m == (n : Int)) = true := by rw [he]; simp
        have HE : Hid (waysTo d n (k + 1) = waysTo d n k ++ [s]) := waysTo_hit d n k (m, s) HX.out he
        clear he
        go_wp2_with (at_builtin; refine wpList_append_own _ rfl _ _ 55 rfl w.heap.size 9 i0 (.string ⟨#[]⟩) 1 16 Tryz.underlying55 hi hz0 hz1 hz2 rfl (by decide) _ _ _ rfl ((hown.out.alloc _).alloc _) ⟨wr.heap.size + 1, 0, none⟩ 1 1 (cellsS [s]) rfl ?qc1 ?qc2 ?qc3 ?qc4 ?qc5 ?qc6 ?_)
        case qc1 => rfl
        case qc2 =>
          intro j u hj
          match j, hj with
          | 0, hj => simp [cellsS] at hj; subst hj; simp [go_sem]
        case qc3 => exact cellsS_one
        case qc4 => unfold maxLen; omega
        case qc5 => omega
        case qc6 => omega
        intro v4 w4 hown4 hgrow4 _
        have hb4 : Below w.heap.size w w4 := ((hbr.alloc hsr _).alloc (by simp; omega) _).grown hgrow4 (by simp; omega) (fun k hk => (hown.out.lt k hk).1)
        rw [← cellsS_append, ← HE.out] at hown4
        have hlen : (waysTo d n k).length + 1 = (waysTo d n (k + 1)).length := by rw [HE.out]; simp
        rw [hlen] at hown4
        have HO := hide hown4
        clear hown4 hgrow4 hown hbr
        go_wp2
        go_roundw
        case rel => exact ⟨k + 1, by omega, by go_num, HO, hb4⟩
        case measure => simp [intOf]; omega
      · have he' : (m == (n : Int)) = false := by simpa using he
        have HE : Hid (waysTo d n (k + 1) = waysTo d n k) := waysTo_miss d n k (m, s) HX.out he
        have HO := hide (hown.out.alloc (Obj.cells #[Value.int IntKind.i64 m, Value.string s] 166))
        clear he hown
        go_wp2
        go_roundw
        case rel => exact ⟨k + 1, by omega, by go_num, by rw [HE.out]; exact HO, hbr.alloc hsr _⟩
        case measure => simp [intOf]; omega
    · have e : k = d.wr.length := by omega
      have hw' : waysTo d n k = ways d n := by rw [e, waysTo, List.take_length]; rfl
      rw [hw'] at hown
      clear hw' e
      go_wp2
      go_ret
      exact ⟨_, rfl, hown.out, hbr⟩

/-- disk.choices: the texts that a place may have. -/
theorem choices_any (v : Value) (d : Dk) (n : Nat) (w : World) (h : IsDk w v d) (hn : d.safe.length = 37) (hp : n < 37) (hm : d.wr.length ≤ 200) :
    Calls Tryz.prog 84 #[v, .int .i64 n] w fun e w' => ∃ v', e = .returned v' ∧ w'.ownsRow w.heap.size 9 1 v' (ways d n).length (cellsS (ways d n)) ∧ Below w.heap.size w w' := by
  obtain ⟨a, c, a', c', rfl, hs, hw, h1, h2⟩ := h
  obtain ⟨b, off, rfl, hb, hc⟩ := hs.resolve_left (by intro e; rw [e] at hn; simp at hn)
  have := choices_walk b off c a' c' d n w hn hp hm hb hc hw
  rw [← hn] at this
  exact this

end Go.Proofs.YtjnpndfpajjihabGreat
