/-
  What is found on a disk, as plain data: how small it is, and that it can be put right. Nothing of the program is proved here.
  What RecoverLeaves goes by, as plain data. Nothing of the program is proved here.
  The walk of the statements' own goods.
  Marks and their bytes, as plain data: what stands at each place of a mark's block. Nothing of the program is proved here.
  What the statements' own tells finds, as plain data.
  The walk of a statement's own tells: package scan answers at all.
  The walk of the statements' own pick.
  A good transaction has few blocks.
  The walk of the statement RecoverLeaves: it says true at every disk and number.
  An argument of type api.Disk, as it reads, is a disk in memory as the walks know it.
-/
import Derived.Test.YtjnpndfpajjihacXScans
import Derived.Test.YtjnpndfpajjihacXRunA
import Derived.Test.YtjnpndfpajjihacEChk
import Derived.Test.YtjnpndfpajjihacXNewA
import Derived.Test.YtjnpndfpajjihacTGd
import Derived.Test.YtjnpndfpajjihacXRowsA
import Derived.Test.YtjnpndfpajjihacSDecode2
import Derived.Test.YtjnpndfpajjihacSEscU
import Derived.Test.YtjnpndfpajjihacRepsB
import Derived.Test.YtjnpndfpajjihacBase
import Derived.Deep.RegionHeld3
import Derived.Test.YtjnpndfpajjihacCore
import Derived.Test.YtjnpndfpajjihacRows
import Derived.ProofKit
import Derived.SliceStrings
import Derived.Deep.Slices
import Derived.Lib.SmallJoins
namespace Go.Proofs.Ytjnpndfpajjihac
open Go.RowKit

/-- A transaction as a log tells it. -/
def Told (n : Nat) (t : Tx) : Prop := t.info.length ≤ n ∧ t.rev.length ≤ 20 * n ∧ t.data = [] ∧ t.h0 = ⟨false, 0⟩ ∧ t.h1 = ⟨false, 0⟩ ∧ t.h2 = ⟨false, 0⟩
theorem mark_small {m : Mk} (h : goodM m = 0) : m.tags.length ≤ 10 ∧ m.blocks.length ≤ 20 := by
  unfold goodM at h
  split at h
  · cases h
  · split at h
    · cases h
    · split at h
      · cases h
      · rename_i h3
        split at h
        · cases h
        · rename_i h4
          constructor
          · by_cases e : m.kind = 2
            · have : ¬ (m.tags.length < 1 ∨ 10 < m.tags.length) := fun x => h4 (.inl ⟨e, x⟩)
              omega
            · have : ¬ m.tags ≠ [] := fun x => h3 (.inr (.inl ⟨e, x⟩))
              simp only [ne_eq, Decidable.not_not] at this
              rw [this]; exact Nat.zero_le _
          · by_cases e : m.kind = 3
            · have : ¬ (m.blocks.length < 1 ∨ 20 < m.blocks.length) := fun x => h4 (.inr (.inl ⟨e, x⟩))
              omega
            · have : ¬ m.blocks ≠ [] := fun x => h3 (.inr (.inr ⟨e, x⟩))
              simp only [ne_eq, Decidable.not_not] at this
              rw [this]; exact Nat.zero_le _
theorem runT_told (log : List ByteArray) (seq : Int) : ∀ (f i : Nat) (t : Tx) (n : Nat) (u : Tx), log.length - i ≤ f → i ≤ log.length → Told i t → runT log seq i t = some (n, u) → Told log.length u ∧ u.seq = t.seq := by
  intro f
  induction f with
  | zero => intro i t n u hf hi ht h; rw [runT, dif_neg (by omega)] at h; cases h
  | succ f ih =>
    intro i t n u hf hi ht h
    rw [runT] at h
    split at h
    · split at h
      · cases h
      · rename_i h1
        split at h
        · cases h
          obtain ⟨a, b, c⟩ := ht
          exact ⟨⟨by omega, by omega, c⟩, rfl⟩
        · split at h
          · rename_i h3
            have he : (stampDec (log.getD i ByteArray.empty)).2 = 0 := by
              by_cases hx : (stampDec (log.getD i ByteArray.empty)).2 = 0
              · exact hx
              · exact absurd (.inl hx) h1
            have hm := mark_small (dec_good he)
            have := ih _ _ _ _ (by omega) h3 ?_ h
            · exact ⟨this.1, this.2⟩
            · obtain ⟨a, b, c⟩ := ht
              refine ⟨?_, ?_, c⟩
              · show (t.info ++ copiesAt log (i + 1) _).length ≤ _
                rw [List.length_append, copiesAt_length]; omega
              · show (t.rev ++ _).length ≤ _
                rw [List.length_append]; omega
          · cases h
    · cases h
theorem scanP_told (log : List ByteArray) : ∀ (f pos : Nat) (seq : Int) (acc : List Tx), log.length - pos ≤ f → (∀ t ∈ acc, Told log.length t) → seq ≤ 2147483647 → (∀ t ∈ (scanP log pos seq acc).1, Told log.length t) ∧ seq + ((scanP log pos seq acc).1.length : Int) ≤ 2147483647 + (acc.length : Int) ∧ (pos ≤ log.length → (scanP log pos seq acc).2 ≤ log.length) := by
  intro f
  induction f with
  | zero =>
    intro pos seq acc hf ha hq
    rw [scanP]
    split
    · rw [runT, dif_neg (by omega)]
      exact ⟨ha, by simp; omega, fun h => h⟩
    · exact ⟨ha, by simp; omega, fun h => h⟩
  | succ f ih =>
    intro pos seq acc hf ha hq
    rw [scanP]
    split
    · split
      · exact ⟨ha, by simp; omega, fun h => h⟩
      · rename_i h2 n t hr
        have hb := runT_bound log seq _ pos _ n t (Nat.le_refl _) hr
        have ht := (runT_told log seq _ pos (txOf seq) n t (Nat.le_refl _) (by omega) ⟨Nat.zero_le _, Nat.zero_le _, rfl, rfl, rfl, rfl⟩ hr).1
        have := ih n (seq + 1) (acc ++ [t]) (by omega) (fun x hx => by
          rcases List.mem_append.1 hx with h | h
          · exact ha x h
          · rw [List.mem_singleton.1 h]; exact ht) (by omega)
        refine ⟨this.1, ?_, fun _ => this.2.2 hb.2⟩
        have h3 := this.2.1
        rw [List.length_append, List.length_singleton] at h3
        push_cast at h3 ⊢
        omega
    · exact ⟨ha, by simp; omega, fun h => h⟩
theorem scan_good2 {d : Dk} (h : scanE d = 0) : goodB d = true ∧ (1 ≤ (superM d).seq ∧ (superM d).seq ≤ 2147483647) ∧ 0 ≤ (superM d).pos ∧ (superM d).pos ≤ 23 ∧ stampDec (readT d 0) = (superM d, 0) ∧ (superM d).kind = 1 := by
  unfold scanE at h
  split at h
  · rename_i h1; exact absurd h h1
  · rename_i h1
    split at h
    · cases h
    · rename_i h2
      have h3 : (stampDec (readT d 0)).2 = 0 := by
        by_cases hx : (stampDec (readT d 0)).2 = 0
        · exact hx
        · exact absurd (.inl hx) h2
      have hk : (superM d).kind = 1 := by
        by_cases hx : (superM d).kind = 1
        · exact hx
        · exact absurd (.inr hx) h2
      have h4 := dec_good h3
      have h5 : readE d 0 = 0 := by
        by_cases hx : readE d 0 = 0
        · exact hx
        · exact absurd hx h1
      refine ⟨?_, ?_⟩
      · unfold readE at h5
        split at h5
        · rename_i hx; exact (Bool.and_eq_true_iff.1 hx).1
        · cases h5
      · have h6 : goodM (superM d) = 0 := h4
        unfold goodM at h4
        split at h4
        · cases h4
        · split at h4
          · cases h4
          · rename_i hx
            have hy : ¬ ((superM d).seq < 1 ∨ 2147483647 < (superM d).seq ∨ (superM d).pos < 0 ∨ 23 < (superM d).pos) := hx
            refine ⟨by omega, by omega, by omega, ?_, hk⟩
            exact Prod.ext rfl h3
theorem fnd_facts {d : Dk} (h : scanE d = 0) : (∀ t ∈ fndL d, Told 24 t) ∧ (1 ≤ fndN d ∧ fndN d ≤ 2147483647) ∧ 0 ≤ fndP d ∧ fndP d ≤ 23 := by
  obtain ⟨_, ⟨q1, q2⟩, p1, p2, _, _⟩ := scan_good2 h
  have := scanP_told (logOf d (superM d).pos) 24 0 (superM d).seq [] (by rw [logOf_length]; omega) (fun t ht => by cases ht) q2
  rw [logOf_length] at this
  rw [fndL, fndN, fndP, if_pos h, if_pos h, if_pos h]
  have h2 : (superM d).seq + ((scanL d).1.length : Int) ≤ 2147483647 := by have := this.2.1; simpa [scanL] using this
  exact ⟨this.1, ⟨by omega, h2⟩, by omega, by omega⟩

theorem newestF_good {l : List Tx} (h : ∀ t ∈ l, goodX t = true) (b : Int) : ∀ s, newestF l b = some s → fitsB s = true := by
  have key : ∀ (l : List Tx) (o : Option ByteArray), (∀ t ∈ l, goodX t = true) → (∀ s, o = some s → fitsB s = true) → ∀ s, l.foldl (nwStep b) o = some s → fitsB s = true := by
    intro l
    induction l with
    | nil => intro o _ ho s hs; exact ho s hs
    | cons t l ih =>
      intro o hg ho s hs
      rw [List.foldl_cons] at hs
      refine ih _ (fun x hx => hg x (by simp [hx])) ?_ s hs
      intro u hu
      unfold nwStep at hu
      split at hu
      · have hf := ((goodX_iff t).1 (hg t (by simp))).2.1.1
        have : ∀ m : List (Int × ByteArray), fitsAll m = true → textIn b m = some u → fitsB u = true := by
          intro m
          induction m with
          | nil => intro _ h; cases h
          | cons y m ih2 =>
            intro hm hx
            simp only [fitsAll, List.all_cons, Bool.and_eq_true] at hm
            rw [textIn] at hx
            split at hx
            · cases hx; exact hm.1
            · exact ih2 hm.2 hx
        exact this _ hf hu
      · split at hu
        · cases hu
        · exact ho u hu
  exact key l none h (fun s hs => by cases hs)
theorem asN_mem {f : Int → Option ByteArray} {n : Nat} {x : Int × ByteArray} (h : x ∈ asN f n) : 0 ≤ x.1 ∧ x.1 < n ∧ f x.1 = some x.2 := by
  induction n with
  | zero => simp [asN] at h
  | succ n ih =>
    rw [asN_snoc] at h
    rcases List.mem_append.1 h with h | h
    · have := ih h
      exact ⟨this.1, by omega, this.2.2⟩
    · unfold oneC at h
      cases hf : f (n : Int) with
      | none => rw [hf] at h; simp at h
      | some s => rw [hf] at h; simp at h; subst h; exact ⟨by simp, by simp; omega, hf⟩
/-- What is found can be put right. -/
theorem check_ok {d : Dk} (h : scanE d = 0) (hg : ∀ t ∈ fndL d, goodX t = true) : checkE (newestL (fndL d)) (fndP d) (fndN d) = 0 := by
  obtain ⟨_, ⟨q1, q2⟩, p1, p2⟩ := fnd_facts h
  have h1 : goodM (superMk (fndP d) (fndN d)) = 0 := by
    unfold goodM superMk
    rw [if_neg (by simp), if_neg (by simp; omega), if_neg (by simp), if_neg]
    rintro (h | h | h | h)
    · have := h.1; simp at this
    · have := h.1; simp at this
    · revert h; simp [rises, risesFrom]
    · revert h; simp [rises, risesFrom]
  rw [checkE, h1, if_neg (by simp), if_neg]
  intro hx
  obtain ⟨x, hx1, hx2⟩ := List.any_eq_true.1 hx
  obtain ⟨a, b, c⟩ := asN_mem hx1
  have hf := newestF_good hg x.1 x.2 c
  have hsz : x.2.size = 32 := by have := hf; simp [fitsB] at this; omega
  revert hx2
  simp [noCopyB, withinB, hsz]
  omega

/-- What steps leave as it was. -/
theorem runK_read (n : Nat) (hn : n < 37) : ∀ (l : List St) (d : Dk), goodB d = true → (∀ s ∈ l, s.1 ≠ 2 → s.2.1 ≠ (n : Int)) → readT (runK d l) n = readT d n ∧ goodB (runK d l) = true := by
  intro l
  induction l with
  | nil => intro d hg _; exact ⟨rfl, hg⟩
  | cons s l ih =>
    intro d hg hs
    have key : readT (stepK d s) n = readT d n ∧ goodB (stepK d s) = true := by
      unfold stepK
      by_cases hf : s.1 = 2
      · rw [if_pos hf, flushK, if_pos hg]
        exact ⟨read_flush hg hn, flush_good hg⟩
      · rw [if_neg hf]
        by_cases he : putE d s.2.1 s.2.2 = 0
        · exact ⟨(read_other he n).2 (fun e => hs s (by simp) hf e.symm), good_put he⟩
        · rw [putK_no he]; exact ⟨rfl, hg⟩
    have := ih (stepK d s) key.2 (fun x hx => hs x (by simp [hx]))
    exact ⟨this.1.trans key.1, this.2⟩

end Go.Proofs.Ytjnpndfpajjihac

namespace Go.Proofs.Ytjnpndfpajjihac
open Go.RowKit

/-- Is a block copied, as the statement counts it: behind one transaction, and behind some. -/
def copStep (b : Int) (o : Bool) (t : Tx) : Bool := if amongB t.rev b = true then false else (textIn b t.info).isSome || o
def copB (l : List Tx) (b : Int) : Bool := l.foldl (copStep b) false
theorem copB_take {l : List Tx} {k : Nat} {t : Tx} (h : l[k]? = some t) (b : Int) : copB (l.take (k + 1)) b = copStep b (copB (l.take k) b) t := by
  rw [List.take_add_one, h, copB, List.foldl_append]; rfl
theorem cop_newest {l : List Tx} (h : ∀ t ∈ l, goodX t = true) (b : Int) : copB l b = (newestF l b).isSome := by
  have key : ∀ (l : List Tx) (o : Bool) (q : Option ByteArray), (∀ t ∈ l, goodX t = true) → o = q.isSome → l.foldl (copStep b) o = (l.foldl (nwStep b) q).isSome := by
    intro l
    induction l with
    | nil => intro o q _ e; exact e
    | cons t l ih =>
      intro o q hg e
      rw [List.foldl_cons, List.foldl_cons]
      refine ih _ _ (fun x hx => hg x (by simp [hx])) ?_
      have hnd := ((goodX_iff t).1 (hg t (by simp))).2.2.2.1
      have hdis : amongB t.rev b = true → (textIn b t.info).isSome = false := by
        intro hr
        rw [textIn_among]
        cases hx : amongB (blksOf t.info) b with
        | false => rfl
        | true =>
          obtain ⟨x, h1, h2⟩ := List.any_eq_true.1 hr
          obtain ⟨y, h3, h4⟩ := List.any_eq_true.1 hx
          have e1 : x = b := by simpa using h2
          have e2 : y = b := by simpa using h4
          subst e1 e2
          unfold allOf at hnd
          rw [List.nodup_append] at hnd
          exact absurd rfl (hnd.2.2 y h3 y (List.mem_append.2 (.inr h1)))
      rw [copStep, nwStep, e]
      by_cases hr : amongB t.rev b = true
      · rw [if_pos hr, hdis hr, if_pos hr]; rfl
      · rw [if_neg hr, if_neg hr]
        cases hx : textIn b t.info with
        | none => simp
        | some s => simp
  exact key l false none h rfl
/-- A block that is not copied is as it was. -/
theorem leaves_read {d : Dk} (h : scanE d = 0) (hg : ∀ t ∈ fndL d, goodX t = true) {b : Nat} (hb : b < 12) (hc : copB (fndL d) (b : Int) = false) : readT (runK d (checkS (newestL (fndL d)) (fndP d) (fndN d))) ((25 + b : Nat) : Int) = readT d ((25 + b : Nat) : Int) := by
  have hgd := (scan_good2 h).1
  refine (runK_read (25 + b) (by omega) _ d hgd ?_).1
  rw [cop_newest hg] at hc
  rw [checkS, if_pos (check_ok h hg)]
  intro s hs hk
  rcases List.mem_append.1 hs with h1 | h1
  · rw [homeS] at h1
    rcases List.mem_append.1 h1 with h2 | h2
    · obtain ⟨x, hx, rfl⟩ := List.mem_map.1 h2
      obtain ⟨_, _, hf⟩ := asN_mem hx
      intro e
      have e1 : x.1 = (b : Int) := by
        have : (25 : Int) + x.1 = ((25 + b : Nat) : Int) := e
        omega
      rw [e1] at hf
      rw [hf] at hc
      cases hc
    · split at h2
      · cases h2
      · rw [List.mem_singleton.1 h2] at hk; exact absurd rfl hk
  · rcases List.mem_cons.1 h1 with h2 | h2
    · rw [h2]
      show (0 : Int) ≠ _
      omega
    · rw [List.mem_singleton.1 h2] at hk; exact absurd rfl hk

end Go.Proofs.Ytjnpndfpajjihac

namespace Go.Proofs.Ytjnpndfpajjihac
open Go.RowKit

set_option maxHeartbeats 2000000 in
set_option maxRecDepth 100000 in
theorem goods_any (a : Option Addr) (c : Nat) (l : List Tx) (X Y : Int) (w : World) (h : SegTx w a l) (hn : l.length ≤ maxLen) (hr : ∀ t ∈ l, Reached t) :
    Calls Try.prog 8 #[.agg #[.slice a l.length c, .int .i64 X, .int .i64 Y]] w fun e w' => e = .returned (.bool (l.all goodX)) ∧ Below w.heap.size w w' := by
  unfold maxLen at hn
  have HS := hide h
  have HR := hide hr
  clear h hr
  go_enter Try.func8, Try.ntmps8
  go_wp2
  go_loopw [8] (fun i wr => ∃ k : Nat, k ≤ l.length ∧ i = .int .i64 k ∧ Hid ((l.take k).all goodX = true) ∧ Hid (Below w.heap.size w wr)) (fun i _ => l.length - (intOf i).toNat)
  case atStart => exact ⟨0, Nat.zero_le _, rfl, rfl, below1 _ _⟩
  case round =>
    obtain ⟨k, hk, rfl, hF, hbr⟩ := hrel
    by_cases hlt : k < l.length
    · obtain ⟨b2, off, rfl, hb, hc⟩ := HS.out.resolve_left (by intro e; rw [e] at hlt; simp at hlt)
      obtain ⟨t, ht⟩ : ∃ t, t = l.getD k txz := ⟨_, rfl⟩
      have HX : Hid (l[k]? = some t) := by rw [ht]; exact tx_at hlt
      have hcj := (hc k hlt).below hbr.out hb
      rw [← ht] at hcj
      obtain ⟨a0, c0, a1, c1, r, d, ⟨x0, x1, x2, x3, x4, x5, x6, x7, x8, x9⟩, hT⟩ := hcj
      have HT := hide hT
      have HQ := hide (HR.out t (List.mem_of_getElem? HX.out))
      have hlt' : (k : Int) < (l.length : Int) := by omega
      clear ht hc hT
      go_wp2_with fail
      refine (tGood_any _ t _ (HT.out.below (below1 _ _)) HQ.out.1 HQ.out.2.1).mono ?_
      rintro e w1 ⟨rfl, hb1⟩
      have HB1 := hide (bthen (bthen hbr.out (below1 _ _)) hb1)
      clear hb1 hbr HT HQ x0 x1 x2 x3 x4 x5 x6 x7 x8 x9
      cases hg : goodX t with
      | false =>
        have HE : Hid (l.all goodX = false) := by
          rw [Hid, List.all_eq_false]
          exact ⟨t, List.mem_of_getElem? HX.out, by simp [hg]⟩
        go_wp2
        go_ret
        exact ⟨by rw [HE.out]; rfl, HB1.out⟩
      | true =>
        have HE : Hid ((l.take (k + 1)).all goodX = true) := by
          rw [Hid, List.take_add_one, HX.out, List.all_append, hF.out]; simp [hg]
        go_wp2
        go_roundw
        case rel => exact ⟨k + 1, by omega, by go_num, HE, HB1⟩
        case measure => simp [intOf]; omega
    · have e : k = l.length := by omega
      subst e
      have HE : Hid (l.all goodX = true) := by have := hF.out; rw [List.take_length] at this; exact this
      go_wp2
      go_ret
      exact ⟨by rw [HE.out]; rfl, hbr.out⟩

end Go.Proofs.Ytjnpndfpajjihac

namespace Go.Proofs.Ytjnpndfpajjihac
open Go.RowKit

/-- The bytes of a text as a list. -/
def bl (s : ByteArray) : List UInt8 := s.data.toList
theorem bl_length (s : ByteArray) : (bl s).length = s.size := rfl
theorem bl_inj {s t : ByteArray} (h : bl s = bl t) : s = t := ByteArray.ext (Array.ext' h)
theorem bl_append (s t : ByteArray) : bl (s ++ t) = bl s ++ bl t := by simp [bl, ByteArray.data_append]
theorem at8_bl (s : ByteArray) (k : Nat) : at8 s k = (((bl s).getD k 0).toNat : Int) := by
  by_cases h : k < s.size
  · rw [← at8_of s k h, List.getD, List.getElem?_eq_getElem (show k < (bl s).length from h)]; rfl
  · have h' : ¬ k < s.data.size := h
    rw [List.getD, List.getElem?_eq_none (by rw [bl_length]; omega)]
    unfold at8
    show ((s.data[k]!).toNat : Int) = _
    rw [getElem!_neg s.data k h']
    rfl
theorem same_at8 {s t : ByteArray} (hz : s.size = t.size) (h : ∀ k, k < s.size → at8 s k = at8 t k) : s = t := by
  apply bl_inj
  apply List.ext_getElem (by rw [bl_length, bl_length]; exact hz)
  intro k h1 h2
  have := h k h1
  rw [at8_bl, at8_bl, List.getD, List.getD, List.getElem?_eq_getElem h1, List.getElem?_eq_getElem h2] at this
  exact UInt8.toNat_inj.1 (Int.ofNat_inj.1 (by simpa using this))

theorem magic_iff (s : ByteArray) (h : 4 ≤ s.size) : isMagic s = true ↔ at8 s 0 = 87 ∧ at8 s 1 = 66 ∧ at8 s 2 = 75 ∧ at8 s 3 = 49 := by
  have e : (s.extract 0 4).toList = (bl s).take 4 := by
    rw [ByteArray.toList_eq]; simp [bl, ByteArray.data_extract]
  rw [isMagic, if_pos h, e, beq_iff_eq, at8_bl, at8_bl, at8_bl, at8_bl]
  have hl : 4 ≤ (bl s).length := h
  match hb : bl s, hl with
  | a :: b :: c :: d :: r, _ =>
    simp only [List.take_succ_cons, List.take_zero, List.cons.injEq, and_true, List.getD_cons_zero, List.getD_cons_succ]
    constructor
    · rintro ⟨rfl, rfl, rfl, rfl⟩; exact ⟨rfl, rfl, rfl, rfl⟩
    · rintro ⟨h1, h2, h3, h4⟩
      exact ⟨UInt8.toNat_inj.1 (by show a.toNat = 87; omega), UInt8.toNat_inj.1 (by show b.toNat = 66; omega), UInt8.toNat_inj.1 (by show c.toNat = 75; omega), UInt8.toNat_inj.1 (by show d.toNat = 49; omega)⟩

/-- What stands ahead, and what stands behind it. -/
def headL (k q : Int) : List UInt8 := [87, 66, 75, 49, UInt8.ofNat k.toNat, UInt8.ofNat (q / 16777216).toNat, UInt8.ofNat (q / 65536 % 256).toNat, UInt8.ofNat (q / 256 % 256).toNat, UInt8.ofNat (q % 256).toNat]
def tagB : List (Int × Bool) → List UInt8
  | [] => []
  | x :: r => UInt8.ofNat x.1.toNat :: (if x.2 then 1 else 0) :: tagB r
def numB (l : List Int) : List UInt8 := l.map fun x => UInt8.ofNat x.toNat
def tailB (m : Mk) : List UInt8 :=
  if m.kind = 1 then [UInt8.ofNat m.pos.toNat] else if m.kind = 2 then UInt8.ofNat m.tags.length :: tagB m.tags else if m.kind = 3 then UInt8.ofNat m.blocks.length :: numB m.blocks else []

theorem bl_one (n : Nat) : bl (oneB n) = [UInt8.ofNat n] := rfl
theorem bl_head (k q : Int) : bl (headT k q) = headL k q := by
  rw [headT, bl_append, bl_append, bl_append, bl_append, bl_append, bl_one, bl_one, bl_one, bl_one, bl_one]; rfl
theorem bl_tags (s : ByteArray) (l : List (Int × Bool)) : bl (tagsT s l) = bl s ++ tagB l := by
  induction l generalizing s with
  | nil => simp [tagsT, tagB]
  | cons x r ih =>
    rw [tagsT, ih, bl_append, bl_append, bl_one, tagB]
    have : bl (if x.2 then (⟨#[1]⟩ : ByteArray) else ⟨#[0]⟩) = [if x.2 then 1 else 0] := by cases x.2 <;> rfl
    rw [this]
    simp
theorem bl_nums (s : ByteArray) (l : List Int) : bl (numsT s l) = bl s ++ numB l := by
  induction l generalizing s with
  | nil => simp [numsT, numB]
  | cons x r ih => rw [numsT, ih, bl_append, bl_one]; simp [numB]
theorem bl_body (m : Mk) : bl (bodyT m) = headL m.kind m.seq ++ tailB m := by
  unfold bodyT tailB
  by_cases h1 : m.kind = 1
  · rw [if_pos h1, if_pos h1, bl_append, bl_head, bl_one]
  · rw [if_neg h1, if_neg h1]
    by_cases h2 : m.kind = 2
    · rw [if_pos h2, if_pos h2, bl_tags, bl_append, bl_head, bl_one]; simp
    · rw [if_neg h2, if_neg h2]
      by_cases h3 : m.kind = 3
      · rw [if_pos h3, if_pos h3, bl_nums, bl_append, bl_head, bl_one]; simp
      · rw [if_neg h3, if_neg h3, bl_head]; simp
theorem tagB_length (l : List (Int × Bool)) : (tagB l).length = 2 * l.length := by
  induction l with
  | nil => rfl
  | cons x r ih => simp only [tagB, List.length_cons, ih]; omega
theorem numB_length (l : List Int) : (numB l).length = l.length := by simp [numB]
theorem tailB_length {m : Mk} (h : goodM m = 0) : (tailB m).length ≤ 21 := by
  obtain ⟨_, _, _, ht, hb, _, _⟩ := goodM_parts h
  unfold tailB
  by_cases h1 : m.kind = 1
  · rw [if_pos h1]; simp
  · rw [if_neg h1]
    by_cases h2 : m.kind = 2
    · rw [if_pos h2, List.length_cons, tagB_length]; have := ht h2; omega
    · rw [if_neg h2]
      by_cases h3 : m.kind = 3
      · rw [if_pos h3, List.length_cons, numB_length]; have := hb h3; omega
      · rw [if_neg h3]; simp
theorem bl_enc {m : Mk} (h : goodM m = 0) : bl (encT m) = headL m.kind m.seq ++ (tailB m ++ List.replicate (23 - (tailB m).length) 0) := by
  have hl := tailB_length h
  have hb : (bl (bodyT m)).length = 9 + (tailB m).length := by rw [bl_body, List.length_append]; rfl
  have hs : (bodyT m).size = 9 + (tailB m).length := hb
  rw [encT, if_pos h]
  show fitL (bodyT m) = _
  rw [fitL, hs]
  show (bl (bodyT m)).take 32 ++ _ = _
  rw [List.take_of_length_le (by omega), bl_body, List.append_assoc, show 32 - (9 + (tailB m).length) = 23 - (tailB m).length from by omega]
theorem enc_size {m : Mk} (h : goodM m = 0) : (encT m).size = 32 := by
  have hl := tailB_length h
  have : (bl (encT m)).length = 32 := by
    rw [bl_enc h, List.length_append, List.length_append, List.length_replicate]
    show 9 + _ = 32
    omega
  exact this
theorem enc_tail {m : Mk} (h : goodM m = 0) (j : Nat) : at8 (encT m) (9 + j) = (((tailB m).getD j 0).toNat : Int) := by
  rw [at8_bl, bl_enc h, List.getD, List.getElem?_append_right (show (headL m.kind m.seq).length ≤ 9 + j from Nat.le_add_right 9 j)]
  rw [show 9 + j - (headL m.kind m.seq).length = j from by show 9 + j - 9 = j; omega]
  by_cases hj : j < (tailB m).length
  · rw [List.getElem?_append_left hj, List.getD]
  · rw [List.getElem?_append_right (by omega), List.getD, List.getElem?_eq_none (l := tailB m) (by omega), List.getElem?_replicate]
    split <;> rfl
theorem ofNat8 {x : Int} (h0 : 0 ≤ x) (h1 : x ≤ 255) : ((UInt8.ofNat x.toNat).toNat : Int) = x := by
  simp
  omega
theorem enc_head {m : Mk} (h : goodM m = 0) : at8 (encT m) 0 = 87 ∧ at8 (encT m) 1 = 66 ∧ at8 (encT m) 2 = 75 ∧ at8 (encT m) 3 = 49 ∧ at8 (encT m) 4 = m.kind ∧ at8 (encT m) 5 = m.seq / 16777216 ∧ at8 (encT m) 6 = m.seq / 65536 % 256 ∧ at8 (encT m) 7 = m.seq / 256 % 256 ∧ at8 (encT m) 8 = m.seq % 256 := by
  obtain ⟨_, _, _, _, _, _, _⟩ := goodM_parts h
  simp only [at8_bl, bl_enc h, headL, List.cons_append, List.getD_cons_zero, List.getD_cons_succ]
  refine ⟨rfl, rfl, rfl, rfl, ofNat8 (by omega) (by omega), ofNat8 (by omega) (by omega), ofNat8 (by omega) (by omega), ofNat8 (by omega) (by omega), ofNat8 (by omega) (by omega)⟩
theorem enc_magic {m : Mk} (h : goodM m = 0) : isMagic (encT m) = true := by
  obtain ⟨h0, h1, h2, h3, _⟩ := enc_head h
  exact (magic_iff _ (by rw [enc_size h]; omega)).2 ⟨h0, h1, h2, h3⟩

theorem tagB_at (l : List (Int × Bool)) (i : Nat) (x : Int × Bool) (h : l[i]? = some x) : (tagB l).getD (2 * i) 0 = UInt8.ofNat x.1.toNat ∧ (tagB l).getD (2 * i + 1) 0 = if x.2 then 1 else 0 := by
  induction l generalizing i with
  | nil => simp at h
  | cons y r ih =>
    cases i with
    | zero => simp at h; subst h; exact ⟨rfl, rfl⟩
    | succ i =>
      have := ih i (by simpa using h)
      rw [show 2 * (i + 1) = 2 * i + 1 + 1 from by omega, tagB]
      simp only [List.getD_cons_succ]
      exact this
theorem numB_at (l : List Int) (i : Nat) (x : Int) (h : l[i]? = some x) : (numB l).getD i 0 = UInt8.ofNat x.toNat := by
  rw [List.getD, numB, List.getElem?_map, h]; rfl

/-- A good mark is read as it was. -/
theorem back {m : Mk} (h : goodM m = 0) : gsM (encT m) = m := by
  obtain ⟨⟨k1, k2⟩, ⟨q1, q2, p1, p2⟩, ⟨f1, f2, f3⟩, ht, hb, hr, hr'⟩ := goodM_parts h
  obtain ⟨_, _, _, _, h4, h5, h6, h7, h8⟩ := enc_head h
  have hq : seqOf (encT m) 4 = m.seq := by
    simp only [seqOf]
    rw [show 0 + 5 = 5 from rfl, show 1 + 5 = 6 from rfl, show 2 + 5 = 7 from rfl, show 3 + 5 = 8 from rfl, h5, h6, h7, h8]
    omega
  have h9 := enc_tail h 0
  rw [show 9 + 0 = 9 from rfl] at h9
  obtain ⟨kind, seq, pos, tags, blocks⟩ := m
  dsimp only at *
  unfold gsM
  rw [hq, h4]
  by_cases e1 : kind = 1
  · rw [if_pos e1, if_neg (by omega), if_neg (by omega), f2 (by omega), f3 (by omega)]
    rw [tailB, if_pos e1] at h9
    rw [f2 (by omega), f3 (by omega)] at h9
    rw [h9]
    show Mk.mk kind seq ((UInt8.ofNat pos.toNat).toNat : Int) [] [] = _
    rw [ofNat8 (by omega) (by omega)]
  · obtain rfl := f1 e1
    rw [if_neg e1]
    by_cases e2 : kind = 2
    · have hl := ht e2
      rw [if_pos e2, if_neg (by omega), f3 (by omega)]
      have hmany : manyOf (encT ⟨kind, seq, 0, tags, blocks⟩) 10 = tags.length := by
        rw [manyOf, h9, tailB, if_neg e1, if_pos e2]
        show min (((UInt8.ofNat tags.length).toNat : Int)).toNat 10 = _
        simp
        omega
      have hg : gTags (encT ⟨kind, seq, 0, tags, blocks⟩) = tags := by
        apply List.ext_getElem?
        intro i
        by_cases hi : i < tags.length
        · rw [gTags_at _ i (by rw [hmany]; exact hi)]
          obtain ⟨x, hx⟩ : ∃ x, tags[i]? = some x := ⟨_, List.getElem?_eq_getElem hi⟩
          have hbx := rises_bd _ _ hr (by omega) x.1 (List.mem_map.2 ⟨x, List.mem_of_getElem? hx, rfl⟩)
          have hT := tagB_at tags i x hx
          have t1 := enc_tail h (1 + 2 * i)
          have t2 := enc_tail h (2 + 2 * i)
          rw [tailB, if_neg e1, if_pos e2] at t1 t2
          rw [show 9 + (1 + 2 * i) = 10 + 2 * i from by omega, show 1 + 2 * i = 2 * i + 1 from by omega] at t1
          rw [show 9 + (2 + 2 * i) = 11 + 2 * i from by omega, show 2 + 2 * i = 2 * i + 1 + 1 from by omega] at t2
          simp only [List.getD_cons_succ] at t1 t2
          rw [hT.1] at t1
          rw [hT.2] at t2
          rw [t1, t2, hx, ofNat8 (by omega) (by omega)]
          obtain ⟨xi, f⟩ := x
          cases f <;> rfl
        · rw [List.getElem?_eq_none (by rw [gTags_length, hmany]; omega), List.getElem?_eq_none (by omega)]
      have hf3 := f3 (by omega)
      subst hf3
      rw [hg]
    · rw [if_neg e2, f2 e2]
      by_cases e3 : kind = 3
      · have hl := hb e3
        rw [if_pos e3]
        have hf2 := f2 e2
        subst hf2
        have hmany : manyOf (encT ⟨kind, seq, 0, [], blocks⟩) 20 = blocks.length := by
          rw [manyOf, h9, tailB, if_neg e1, if_neg e2, if_pos e3]
          show min (((UInt8.ofNat blocks.length).toNat : Int)).toNat 20 = _
          simp
          omega
        have hg : gBlocks (encT ⟨kind, seq, 0, [], blocks⟩) = blocks := by
          apply List.ext_getElem?
          intro i
          by_cases hi : i < blocks.length
          · rw [gBlocks_at _ i (by rw [hmany]; exact hi)]
            obtain ⟨x, hx⟩ : ∃ x, blocks[i]? = some x := ⟨_, List.getElem?_eq_getElem hi⟩
            have hbx := rises_bd _ _ hr' (by omega) x (List.mem_of_getElem? hx)
            have t1 := enc_tail h (1 + i)
            rw [tailB, if_neg e1, if_neg e2, if_pos e3] at t1
            rw [show 9 + (1 + i) = 10 + i from by omega, show 1 + i = i + 1 from by omega] at t1
            simp only [List.getD_cons_succ] at t1
            rw [numB_at blocks i x hx] at t1
            rw [t1, hx, ofNat8 (by omega) (by omega)]
          · rw [List.getElem?_eq_none (by rw [gBlocks_length, hmany]; omega), List.getElem?_eq_none (by omega)]
        rw [hg]
      · rw [if_neg e3, f3 e3]

theorem dec_enc {m : Mk} (h : goodM m = 0) : stampDec (encT m) = (m, 0) := by
  rw [stampDec, back h, if_pos ⟨enc_size h, h, rfl⟩]
theorem dec_magic {s : ByteArray} (h : isMagic s = false) : stampDec s = (zeroM, 1) := by
  refine if_neg fun x => ?_
  have := enc_magic x.2.1
  rw [x.2.2, h] at this
  cases this

theorem magic_take {s : ByteArray} (hm : isMagic s = true) : (bl s).take 4 = [87, 66, 75, 49] := by
  have e : (s.extract 0 4).toList = (bl s).take 4 := by
    rw [ByteArray.toList_eq]; simp [bl, ByteArray.data_extract]
  rw [isMagic, if_pos (magic_four hm), e, beq_iff_eq] at hm
  exact hm
theorem esc_size (s : ByteArray) : (escT s).size = s.size := by
  unfold escT
  cases hm : isMagic s with
  | false => rfl
  | true =>
    have := magic_four hm
    rw [if_pos rfl, ByteArray.size_append, ByteArray.size_extract]
    show 4 + _ = _
    omega
theorem esc_magic (s : ByteArray) : isMagic (escT s) = false := by
  cases hm : isMagic s with
  | false => rw [escT, hm]; exact hm
  | true =>
    have h4 := magic_four hm
    cases he : isMagic (escT s) with
    | false => rfl
    | true =>
      have := ((magic_iff _ (by rw [esc_size]; exact h4)).1 he).1
      rw [escT, if_pos hm, at8_bl, bl_append] at this
      exact absurd this (by show ¬ ((0 : Int) = 87); decide)
theorem unesc_esc (s : ByteArray) : unescT (escT s) (isMagic s) = s := by
  cases hm : isMagic s with
  | false => rw [escT, hm, unescT, if_pos (.inl rfl)]; rfl
  | true =>
    have h4 := magic_four hm
    have hz := esc_size s
    rw [unescT, if_neg (by rintro (h | h); cases h; omega)]
    have hE : bl (escT s) = [0, 0, 0, 0] ++ (bl s).drop 4 := by
      rw [escT, if_pos hm, bl_append]
      congr 1
      simp only [bl, ByteArray.data_extract, Array.toList_extract]
      rw [List.extract_eq_take_drop]
      apply List.take_of_length_le
      rw [List.length_drop]
      exact Nat.le_refl _
    have hX : bl ((escT s).extract 4 (escT s).size) = (bl s).drop 4 := by
      have : bl ((escT s).extract 4 (escT s).size) = (bl (escT s)).drop 4 := by
        simp only [bl, ByteArray.data_extract, Array.toList_extract]
        rw [List.extract_eq_take_drop]
        apply List.take_of_length_le
        rw [List.length_drop]
        exact Nat.le_refl _
      rw [this, hE]
      rfl
    apply bl_inj
    have hM : bl (⟨#[87, 66, 75, 49]⟩ : ByteArray) = [87, 66, 75, 49] := rfl
    rw [bl_append, hX, hM, ← magic_take hm, List.take_append_drop]

end Go.Proofs.Ytjnpndfpajjihac

namespace Go.Proofs.Ytjnpndfpajjihac
open Go.RowKit

def m72 : Mk := ⟨1, 7, 2, [], []⟩
theorem good72 : goodM m72 = 0 := by kernel_rfl
def dTell : Dk := ⟨encT m72 :: List.replicate 36 (fitT ⟨#[]⟩), []⟩
theorem tell_good : goodB dTell = true := by kernel_rfl
theorem tell_read : readT dTell 0 = encT m72 := by kernel_rfl
theorem tell_readE : readE dTell 0 = 0 := by kernel_rfl
theorem tell_log : (logOf dTell 2).getD 0 ByteArray.empty = fitT ⟨#[]⟩ := by kernel_rfl
theorem tell_zero : stampDec (fitT ⟨#[]⟩) = (zeroM, 1) := dec_magic (by kernel_rfl)
theorem tell_super : superM dTell = m72 := by rw [superM, tell_read, dec_enc good72]
theorem tell_E : scanE dTell = 0 := by
  rw [scanE, tell_readE, tell_super, tell_read, dec_enc good72, if_neg (by simp), if_neg (by simp [m72])]
theorem tell_L : scanL dTell = ([], 0) := by
  rw [scanL, tell_super]
  show scanP (logOf dTell 2) 0 7 [] = _
  rw [scanP, dif_pos (by decide), runT, dif_pos (by rw [logOf_length]; decide), tell_log, tell_zero, if_pos (.inl (by decide))]
theorem tell_cells (s : ByteArray) : (cellsS (List.replicate 37 (fitT ⟨#[]⟩))).set 0 (.string s) = cellsS (s :: List.replicate 36 (fitT ⟨#[]⟩)) := rfl

end Go.Proofs.Ytjnpndfpajjihac

namespace Go.Proofs.Ytjnpndfpajjihac
open Go.RowKit

set_option maxHeartbeats 2000000 in
set_option maxRecDepth 100000 in
theorem tellsK_any (w : World) :
    Calls Try.prog 7 #[] w fun e w' => e = .returned (.bool true) ∧ Below w.heap.size w w' := by
  go_enter Try.func7, Try.ntmps7
  go_wp2_with fail
  refine (stampEncode_any _ m72 _ ⟨none, 0, none, 0, rfl, .inl rfl, .inl rfl, Nat.zero_le _, Nat.zero_le _⟩).mono ?_
  rintro e w1 ⟨rfl, hb1⟩
  rw [good72]
  obtain ⟨s, hs⟩ : ∃ s, s = encT m72 := ⟨_, rfl⟩
  have HS := hide hs
  rw [← hs]
  clear hs
  have HB1 := hide hb1
  clear hb1
  go_wp2_with fail
  refine (new_own _).mono ?_
  rintro e w2 ⟨g, c, rfl, hown, hb2⟩
  have hgl := hown.lt g rfl
  have hst := (hown.stored 0 (.string s)).1
  rw [tell_cells] at hst
  have HST := hide hst
  have hcell : w2.cell? ⟨g, 0, none⟩ = some (.string (fitT ⟨#[]⟩)) := by rw [hown.cellAt 0 (by decide)]; rfl
  have hfz : w2.frozen? ⟨g, 0, none⟩ = false := hown.frozenAt 0
  have hgn : g ≠ w2.heap.size := by have := hgl.2; omega
  have hgn' : ¬ w2.heap.size = g := fun e => hgn e.symm
  have hgw : g < w2.heap.size := hgl.2
  have HB2 := hide (bthen HB1.out hb2)
  have hg1 : w.heap.size ≤ g := Nat.le_trans HB1.out.size hgl.1
  clear hst hown hb2 HB1
  generalize fitT ⟨#[]⟩ = z at hcell
  go_wp2_with fail
  obtain ⟨W, hW⟩ : ∃ W, W = (w2.setCell ⟨g, 0, none⟩ (.string s)).alloc (.cells #[.slice (some ⟨g, 0, none⟩) 37 c, .slice none 0 0] 25) := ⟨_, rfl⟩
  have HD : Hid (IsDk W (.agg #[.slice (some ⟨g, 0, none⟩) dTell.safe.length c, .slice none dTell.wr.length 0]) dTell) := by
    rw [hW, Hid, dTell, ← HS.out]
    obtain ⟨a2, c2, hv, hS, _⟩ := SegS.of_owns (owns_keep HST.out (below1 _ _))
    cases hv
    exact ⟨some ⟨g, 0, none⟩, c, none, 0, rfl, hS, .inl rfl, by simp [maxLen], by simp [maxLen]⟩
  have HW : Hid (Below w.heap.size w W) := by rw [hW]; exact (HB2.out.setCell (p := ⟨g, 0, none⟩) hg1 _).alloc (by have := HB2.out.size; simp [World.setCell]; omega) _
  rw [← hW]
  clear hW hcell hfz hgn hgn' hgw HST HB2
  refine (scan_any _ _ _ _ dTell _ HD.out).mono ?_
  rintro e w3 ⟨v, rfl, hb3, _, hok⟩
  obtain ⟨q, va, vc, rfl, hq, _, _⟩ := hok tell_E
  rw [tell_E, tell_super, tell_L]
  rw [tell_L] at hq
  obtain rfl : q = [] := by simpa using hq
  have HB3 := hide (bthen HW.out hb3)
  clear hb3 HD
  simp only [List.length_nil, m72]
  go_wp2
  go_ret
  exact ⟨rfl, bthen HB3.out (below1 _ _)⟩

end Go.Proofs.Ytjnpndfpajjihac

namespace Go.Proofs.Ytjnpndfpajjihac
open Go.RowKit

/-- What pick answers. -/
def pickN (n m : Int) : Int := n % m
set_option maxHeartbeats 1000000 in
theorem pick_any (n m : Int) (w : World) (hm : 0 < m) (hm2 : m ≤ 4611686018427387904) (hn : -9223372036854775808 ≤ n) (hn2 : n ≤ 9223372036854775807) :
    Calls Try.prog 5 #[.int .i64 n, .int .i64 m] w fun e w' => e = .returned (.int .i64 (n % m)) ∧ w = w' := by
  have hlt := Int.emod_lt_of_pos n hm
  have hge := Int.emod_nonneg n (show m ≠ 0 by omega)
  by_cases h : n.tmod m < 0
  · have HE : Hid (n % m = n.tmod m + m) := by
      rw [Hid, Int.emod_eq_tmod]
      rw [if_neg]
      · omega
      · rintro (h1 | h1)
        · have := Int.tmod_nonneg m h1; omega
        · have := Int.tmod_eq_zero_of_dvd h1; omega
    have hlo : -m < n.tmod m := by have := Int.lt_tmod_of_pos n hm; omega
    have hm0 : ¬ m = 0 := by omega
    have hmm : ¬ m = -1 := by omega
    go_enter Try.func5, Try.ntmps5
    go_wp2
    go_ret
    exact ⟨by rw [HE.out]; rfl, rfl⟩
  · have HE : Hid (n % m = n.tmod m) := by
      by_cases h1 : 0 ≤ n ∨ m ∣ n
      · rw [Hid, Int.emod_eq_tmod, if_pos h1]; omega
      · have h2 := Int.emod_eq_tmod (a := n) (b := m)
        rw [if_neg h1] at h2
        have h3 : n < 0 := by omega
        have h4 : n.tmod m ≤ 0 := by
          have := Int.tmod_nonneg m (show 0 ≤ -n by omega)
          rw [Int.neg_tmod] at this
          omega
        have h5 : n.tmod m = 0 := by omega
        exact absurd (.inr (Int.dvd_of_tmod_eq_zero h5)) h1
    have hm0 : ¬ m = 0 := by omega
    have hmm : ¬ m = -1 := by omega
    have hlo : n.tmod m < m := by rw [← HE.out]; exact hlt
    go_enter Try.func5, Try.ntmps5
    go_wp2
    go_ret
    exact ⟨by rw [HE.out]; rfl, rfl⟩

end Go.Proofs.Ytjnpndfpajjihac

namespace Go.Proofs.Ytjnpndfpajjihac
open Go.RowKit

theorem few_good {t : Tx} (h : goodX t = true) : Few t := by
  have h1 := good_small h
  have h2 := (goodX_iff t).1 h
  refine ⟨h1.2.2, h1.1, ((rises_iff _).1 h2.2.2.1.2.2).1, fun x hx => ?_⟩
  exact ((rises_iff _).1 h2.2.2.1.1).1 x.1 (List.mem_map.2 ⟨x, hx, rfl⟩)

end Go.Proofs.Ytjnpndfpajjihac

namespace Go.Proofs.Ytjnpndfpajjihac
open Go.RowKit

theorem told_reach {t : Tx} (h : Told 24 t) : Reached t := by
  obtain ⟨h1, h2, h3, _⟩ := h
  unfold Reached
  rw [h3]
  refine ⟨by omega, by simp, by omega⟩
theorem told_reach_all {d : Dk} : ∀ t ∈ fndL d, Reached t := by
  intro t ht
  by_cases h : scanE d = 0
  · exact told_reach ((fnd_facts h).1 t ht)
  · rw [fndL, if_neg h] at ht; cases ht
theorem among_take {l : List Int} {q : Nat} {x : Int} (h : l[q]? = some x) (b : Int) : amongB (l.take (q + 1)) b = (amongB (l.take q) b || x == b) := by
  rw [List.take_add_one, h, amongB, amongB, List.any_append]
  simp

set_option maxHeartbeats 8000000 in
set_option maxRecDepth 100000 in
theorem leaves_walk (v : Value) (d : Dk) (b : Int) (w : World) (h : IsDk w v d) (hb0 : -9223372036854775808 ≤ b) (hb1 : b ≤ 9223372036854775807) :
    Calls Try.prog 3 #[v, .int .i64 b] w fun e w' => e = .returned (.bool true) ∧ Below w.heap.size w w' := by
  have HD0 := hide h
  obtain ⟨x, cx, y, cy, rfl, _, _, _, _⟩ := h
  go_enter Try.func3, Try.ntmps3
  go_wp2_with fail
  refine (flush_any _ d _ (HD0.out.below (below1 _ _))).mono ?_
  rintro e w1 ⟨v1, rfl, hD1, _, hb⟩
  have HD1 := hide hD1
  obtain ⟨e1, e2, e3, e4, rfl, _, _, _, _⟩ := hD1
  have KB := hide (one1 hb)
  have hs1 : w.heap.size < w1.heap.size := by have := hb.size; simp at this; omega
  have HB1 := hide (bthen (below1 _ _) hb)
  obtain ⟨⟨y0, y1⟩, yf⟩ := box2 KB.out
  obtain ⟨D, hD⟩ : ∃ D, D = flushK d := ⟨_, rfl⟩
  rw [← hD] at HD1 ⊢
  clear hb hD HD0
  generalize flushE d = E0
  generalize hn1 : D.safe.length = n1 at *
  generalize hn2 : D.wr.length = n2 at *
  have HN1 := hide hn1
  have HN2 := hide hn2
  clear hn1 hn2
  go_wp2_with fail
  obtain ⟨W1, hW1⟩ : ∃ W1, W1 = ((w1.setCell ⟨w.heap.size, 0, none⟩ (.slice e1 n1 e2)).setCell ⟨w.heap.size, 1, none⟩ (.slice e3 n2 e4)) := ⟨_, rfl⟩
  have KB1 : Hid (W1.heap[w.heap.size]? = some (.cells #[.slice e1 n1 e2, .slice e3 n2 e4] 25 (0, 0))) := by rw [hW1]; exact stored2 KB.out _ _
  have HD2 : Hid (IsDk W1 (.agg #[.slice e1 n1 e2, .slice e3 n2 e4]) D) := by
    rw [hW1]
    exact (HD1.out.setBox KB.out 0 _).setBox (heap_setCell_same _ _ 0 _ _ (.slice e1 n1 e2) KB.out) 1 _
  have HBW : Hid (Below w.heap.size w W1) := by rw [hW1]; exact (HB1.out.setCell (p := ⟨w.heap.size, 0, none⟩) (by simp) _).setCell (p := ⟨w.heap.size, 1, none⟩) (by simp) _
  have hsW : w.heap.size < W1.heap.size := by rw [hW1]; simpa [World.setCell] using hs1
  rw [← hW1]
  clear hW1 KB HD1 HB1 y0 y1 yf hs1
  refine (pick_any b 12 _ (by decide) (by decide) hb0 hb1).mono ?_
  rintro e w2 ⟨rfl, rfl⟩
  obtain ⟨bn, hbn⟩ : ∃ bn : Nat, b % 12 = (bn : Int) := ⟨(b % 12).toNat, by omega⟩
  have hbn12 : bn < 12 := by omega
  rw [hbn]
  clear hbn hb0 hb1
  obtain ⟨⟨y0, y1⟩, yf⟩ := box2 KB1.out
  go_wp2_with fail
  refine (scan_n _ _ _ _ _ _ D _ HN1.out.symm HN2.out.symm HD2.out).mono ?_
  intro e w3 hP
  obtain ⟨va, vc, rfl, hS3, hb3⟩ := hP.found
  have HS3 := hide hS3
  have KB3 := hide (boxKeep hb3 hsW KB1.out)
  have HB3 := hide hb3
  have hs3 : w.heap.size < w3.heap.size := Nat.lt_of_lt_of_le hsW hb3.size
  clear hP hS3 hb3 y0 y1 yf
  have hll := fndL_len D
  have HRE := hide (told_reach_all (d := D))
  by_cases hE : scanE D = 0
  · rw [hE]
    have HOK := hide hE
    clear hE
    have HF := hide (fnd_facts HOK.out)
    go_wp2_with fail
    refine (tellsK_any _).mono ?_
    rintro e w4 ⟨rfl, hb4⟩
    have KF4 := hide (one1 hb4)
    have HB4 := hide (bthen (below1 _ _) hb4)
    have hs4 : w3.heap.size < w4.heap.size := by have := hb4.size; simp at this; omega
    clear hb4
    obtain ⟨⟨z0, z1, z2⟩, zf⟩ := box3 KF4.out
    go_wp2_with fail
    refine (goods_any va vc (fndL D) _ _ _ (HS3.out.below HB4.out) (Nat.le_trans hll (by decide)) HRE.out).mono ?_
    rintro e w5 ⟨rfl, hb5⟩
    have KF5 := hide (boxKeep hb5 hs4 KF4.out)
    have KB5 := hide (boxKeep (bthen HB4.out hb5) hs3 KB3.out)
    have HB5 := hide (bthen HB4.out hb5)
    have HB6 := hide (bthen (bthen HBW.out HB3.out) HB5.out)
    have hs5 : w3.heap.size < w5.heap.size := by have := hb5.size; omega
    clear hb5 KF4 KB3 z0 z1 z2 zf
    cases hg : (fndL D).all goodX with
    | false =>
      go_wp2_with fail
      refine (tellsK_any _).mono ?_
      rintro e w9 ⟨rfl, hb9⟩
      have HB9 := hide (bthen HB6.out hb9)
      clear hb9
      go_wp2
      go_ret
      exact ⟨rfl, HB9.out⟩
    | true =>
      have HG : Hid (∀ t ∈ fndL D, goodX t = true) := List.all_eq_true.1 hg
      have HFW : Hid (∀ t ∈ fndL D, Few t) := fun t ht => few_good (HG.out t ht)
      have HCK := hide (check_ok HOK.out HG.out)
      clear hg
      have HSL := hide (HS3.out.below HB5.out)
      obtain ⟨L, hL⟩ : ∃ L, L = fndL D := ⟨_, rfl⟩
      rw [← hL] at KF5 HSL HFW HCK hll
      have HLE := hide hL
      clear hL HS3
      obtain ⟨N, hN⟩ : ∃ N, N = fndN D := ⟨_, rfl⟩
      obtain ⟨P, hP⟩ : ∃ P, P = fndP D := ⟨_, rfl⟩
      rw [← hN, ← hP] at KF5 HCK
      have HNE := hide hN
      have HPE := hide hP
      clear hN hP
      obtain ⟨⟨z0, z1, z2⟩, zf⟩ := box3 KF5.out
      have HALL : Hid (∀ w', Below w5.heap.size w5 w' → Hid (Below w5.heap.size w5 w') ∧ w'.cell? ⟨w3.heap.size, 0, none⟩ = some (.slice va L.length vc) ∧ w'.cell? ⟨w3.heap.size, 1, none⟩ = some (.int .i64 N) ∧ w'.cell? ⟨w3.heap.size, 2, none⟩ = some (.int .i64 P)) := fun w' hb => ⟨hb, cellKeep hb hs5 z0, cellKeep hb hs5 z1, cellKeep hb hs5 z2⟩
      clear z0 z1 z2 zf
      go_wp2
      go_region_held3 (fun w' => Hid (Below w5.heap.size w5 w') ∧ w'.cell? ⟨w3.heap.size, 0, none⟩ = some (.slice va L.length vc) ∧ w'.cell? ⟨w3.heap.size, 1, none⟩ = some (.int .i64 N) ∧ w'.cell? ⟨w3.heap.size, 2, none⟩ = some (.int .i64 P))
        (first | exact HALL.out _ ((Below.refl _ _).drew) | (refine HALL.out _ ?_; assumption))
        (first | (go_at_call 10; (have hnow := (‹Hid (Below w5.heap.size w5 _) ∧ _›).1); have HNOW := hide hnow.out; refine (replay_any va vc L _ (HSL.out.below hnow.out) (by omega) HFW.out).mono ?_; clear hnow; rintro e w10 ⟨v10, rfl, hO10, hb10⟩; obtain ⟨ya, yc, rfl, hS10, _⟩ := SegC.of_owns hO10; have HS10 := hide hS10; have hbN := bthen HNOW.out hb10; clear hb10 HNOW hO10 hS10; dsimp only)
               | (go_at_call 9; (have hnow2 := (‹Hid (Below w5.heap.size w5 _) ∧ _›).1); have HNOW2 := hide hnow2.out; refine (check_any ya yc (newestL L) P N _ HS10.out (by have := asN_length (newestF L) 12; unfold newestL; omega)).mono ?_; clear hnow2; rintro e w11 ⟨sa, sc, rfl, hS11, hb11⟩; have HS11 := hide hS11; have hbM := bthen HNOW2.out hb11; clear hb11 HNOW2 hS11; dsimp only))
      rw [HCK.out]
      have hlenS : (checkS (newestL L) P N).length ≤ 20 := by
        rw [checkS, if_pos HCK.out, homeS, List.length_append, List.length_append, homeM_length]
        have := asN_length (newestF L) 12
        unfold newestL
        split <;> simp <;> omega
      obtain ⟨ST, hST⟩ : ∃ ST, ST = checkS (newestL L) P N := ⟨_, rfl⟩
      rw [← hST] at HS11 hlenS ⊢
      have HST := hide hST
      have KB7 := hide (boxKeep hbM (show w.heap.size < w5.heap.size by omega) KB5.out)
      have KF7 := hide (boxKeep hbM hs5 KF5.out)
      have HB7 := hide (bthen HB6.out hbM)
      have HD7 := hide ((HD2.out.below HB3.out).below (bthen HB5.out hbM))
      have HSL7 := hide (HSL.out.below hbM)
      have hs7 := hbM.size
      have hs7a : w.heap.size < w11.heap.size := by omega
      have hs7b : w3.heap.size < w11.heap.size := by omega
      clear hST hbM hbN HS10 KB5 KF5 HB6 HSL HALL HB5
      obtain ⟨⟨y0, y1⟩, yf⟩ := box2 KB7.out
      go_wp2_with fail
      refine (read_any _ D (25 + (bn : Int)) _ HD7.out).mono ?_
      rintro e w12 ⟨rfl, hb12⟩
      have KB8 := hide (boxKeep hb12 hs7a KB7.out)
      have KF8 := hide (boxKeep hb12 hs7b KF7.out)
      have HB8 := hide (bthen HB7.out hb12)
      have HD8 := hide (HD7.out.below hb12)
      have HS12 := hide (HS11.out.below hb12)
      have HSL8 := hide (HSL7.out.below hb12)
      have hs8a : w.heap.size < w12.heap.size := by have := hb12.size; omega
      have hs8b : w3.heap.size < w12.heap.size := by have := hb12.size; omega
      clear hb12 y0 y1 yf KB7 KF7 HB7 HD7 HS11 HSL7
      generalize readE D (25 + (bn : Int)) = RE1
      obtain ⟨T1, hT1⟩ : ∃ T1, T1 = readT D (25 + (bn : Int)) := ⟨_, rfl⟩
      rw [← hT1]
      have HT1 := hide hT1
      clear hT1
      obtain ⟨⟨y0, y1⟩, yf⟩ := box2 KB8.out
      go_wp2_with fail
      refine (run_any _ D sa sc ST _ HD8.out HS12.out (by omega)).mono ?_
      rintro e w13 ⟨v13, rfl, hD13, hb13⟩
      have HD13 := hide hD13
      have KF9 := hide (boxKeep hb13 hs8b KF8.out)
      have HB9 := hide (bthen HB8.out hb13)
      have HSL9 := hide (HSL8.out.below hb13)
      have hs9b : w3.heap.size < w13.heap.size := by have := hb13.size; omega
      clear hb13 y0 y1 yf KB8 KF8 HB8 HD8 HS12 HSL8 hD13
      go_wp2_with fail
      refine (read_any _ (runK D ST) (25 + (bn : Int)) _ HD13.out).mono ?_
      rintro e w14 ⟨rfl, hb14⟩
      have KF10 := hide (boxKeep hb14 hs9b KF9.out)
      have HB10 := hide (bthen HB9.out hb14)
      have HSLA := hide (HSL9.out.below hb14)
      have hsA : w3.heap.size < w14.heap.size := by have := hb14.size; omega
      clear hb14 KF9 HB9 HSL9 HD13
      generalize readE (runK D ST) (25 + (bn : Int)) = RE2
      obtain ⟨T2, hT2⟩ : ∃ T2, T2 = readT (runK D ST) (25 + (bn : Int)) := ⟨_, rfl⟩
      rw [← hT2]
      have HEQ : Hid (copB L (bn : Int) = false → T1 = T2) := by
        intro hc
        rw [hT2, HT1.out, HST.out, HPE.out, HNE.out, HLE.out]
        rw [HLE.out] at hc
        have := leaves_read HOK.out HG.out hbn12 hc
        rw [show ((25 + bn : Nat) : Int) = 25 + (bn : Int) from by simp] at this
        exact this.symm
      clear hT2 HT1 HST HPE HNE HOK HG HCK hlenS HRE HF HLE
      obtain ⟨⟨z0, z1, z2⟩, zf⟩ := box3 KF10.out
      have HN64 : Hid (L.length ≤ maxLen) := Nat.le_trans hll (by decide)
      go_wp2
      clear z0 z1 z2 zf KF10
      go_loopw [12, 73] (fun cv i wr => ∃ k : Nat, k ≤ L.length ∧ i = .int .i64 (k : Int) ∧ cv = .bool (copB (L.take k) (bn : Int)) ∧ Hid (Below w14.heap.size w14 wr)) (fun _ i _ => L.length - (intOf i).toNat)
      case atStart => exact ⟨0, Nat.zero_le _, rfl, rfl, Below.refl _ _⟩
      case round =>
        obtain ⟨k, hk, rfl, rfl, HBR⟩ := hrel
        by_cases hlt : k < L.length
        · obtain ⟨b2, off, rfl, hb2, hc2⟩ := HSLA.out.resolve_left (by intro e; rw [e] at hlt; simp at hlt)
          obtain ⟨t, ht⟩ : ∃ t, t = L.getD k txz := ⟨_, rfl⟩
          have HCT : Hid (copB (L.take (k + 1)) (bn : Int) = copStep (bn : Int) (copB (L.take k) (bn : Int)) t) := by rw [ht]; exact copB_take (tx_at hlt) _
          have hfw := HFW.out t (by rw [ht]; exact List.mem_of_getElem? (tx_at hlt))
          have hrv12 : t.rev.length ≤ 12 := hfw.1
          have hcj := (hc2 k hlt).below HBR.out hb2
          rw [← ht] at hcj
          obtain ⟨a0, c0, a1, c1, r, dd, ⟨x0, x1, x2, x3, x4, x5, x6, x7, x8, x9⟩, hT⟩ := hcj
          have HT := hide hT
          have hlt' : (k : Int) < (L.length : Int) := by omega
          clear ht hc2 hT
          generalize copB (L.take k) (bn : Int) = CB at *
          go_wp2_with fail
          refine (tGet_any a0 c0 t.info (bn : Int) _ (HT.out.rows.1.below (below1 _ _)) (by have := hfw.2.1; unfold maxLen; omega)).mono ?_
          rintro e w15 ⟨rfl, hb15⟩
          have hb16 := bthen (below1 _ _) hb15
          have KT := hide (one1 hb15)
          have HRV := hide (HT.out.rows.2.2.1.below hb16)
          have HBS := hide (bthen HBR.out hb16)
          have hs15 : wr.heap.size < w15.heap.size := by have := hb15.size; simp at this; omega
          clear hb15 hb16 x0 x1 x2 x3 x4 x5 x6 x7 x8 x9 HT HBR
          obtain ⟨⟨x0, x1, x2, x3, x4, x5, x6, x7, x8, x9⟩, _⟩ := box10 KT.out
          generalize (textIn (bn : Int) t.info).getD ⟨#[]⟩ = TG
          have HC2 : Hid (copB (L.take (k + 1)) (bn : Int) = if amongB t.rev (bn : Int) = true then false else ((textIn (bn : Int) t.info).isSome || CB)) := HCT.out
          generalize (textIn (bn : Int) t.info).isSome = IS at *
          cases IS with
          | true =>
            have HC3 : Hid (copB (L.take (k + 1)) (bn : Int) = if amongB t.rev (bn : Int) = true then false else true) := by rw [Hid, HC2.out]; simp
            go_wp2
            clear x0 x1 x2 x3 x4 x5 x6 x7 x8 x9
            go_loopw [12, 88] (fun cv i wq => ∃ q : Nat, q ≤ t.rev.length ∧ i = .int .i64 (q : Int) ∧ cv = .bool (if amongB (t.rev.take q) (bn : Int) = true then false else true) ∧ Hid (Below w15.heap.size w15 wq)) (fun _ i _ => t.rev.length - (intOf i).toNat)
            case atStart => exact ⟨0, Nat.zero_le _, rfl, rfl, Below.refl _ _⟩
            case round =>
              obtain ⟨q, hq, rfl, rfl, HBQ⟩ := hrel
              by_cases hlq : q < t.rev.length
              · obtain ⟨rb, ro, rfl, hrb, hrc⟩ := HRV.out.resolve_left (by intro e; rw [e] at hlq; simp at hlq)
                have g := cellKeep HBQ.out hrb (hrc q hlq)
                obtain ⟨xx, hxx⟩ : ∃ xx, xx = t.rev.getD q 0 := ⟨_, rfl⟩
                rw [← hxx] at g
                have HAT : Hid (amongB (t.rev.take (q + 1)) (bn : Int) = (amongB (t.rev.take q) (bn : Int) || xx == (bn : Int))) := by rw [hxx]; exact among_take (by rw [List.getD, List.getElem?_eq_getElem hlq]; rfl) _
                have hlq' : (q : Int) < (t.rev.length : Int) := by omega
                clear hrc hxx
                generalize amongB (t.rev.take q) (bn : Int) = AQ at *
                by_cases hx : xx = (bn : Int)
                · have hx' : (xx == (bn : Int)) = true := by simpa using hx
                  have HA2 : Hid (amongB (t.rev.take (q + 1)) (bn : Int) = true) := by rw [Hid, HAT.out, hx']; simp
                  clear hx HAT
                  go_wp2
                  go_roundw
                  case rel => exact ⟨q + 1, by omega, by go_num, by rw [HA2.out]; rfl, HBQ⟩
                  case measure => simp [intOf]; omega
                · have hx' : (xx == (bn : Int)) = false := by simpa using hx
                  have HA2 : Hid (amongB (t.rev.take (q + 1)) (bn : Int) = AQ) := by rw [Hid, HAT.out, hx']; simp
                  clear hx HAT
                  go_wp2
                  go_roundw
                  case rel => exact ⟨q + 1, by omega, by go_num, by rw [HA2.out], HBQ⟩
                  case measure => simp [intOf]; omega
              · have e : q = t.rev.length := by omega
                subst e
                rw [List.take_length]
                rw [← HC3.out]
                go_wp2
                go_roundw
                case rel => exact ⟨k + 1, by omega, by go_num, rfl, bthen HBS.out HBQ.out⟩
                case measure => simp [intOf]; omega
          | false =>
            have HC3 : Hid (copB (L.take (k + 1)) (bn : Int) = if amongB t.rev (bn : Int) = true then false else CB) := by rw [Hid, HC2.out]; simp
            go_wp2
            clear x0 x1 x2 x3 x4 x5 x6 x7 x8 x9
            go_loopw [12, 88] (fun cv i wq => ∃ q : Nat, q ≤ t.rev.length ∧ i = .int .i64 (q : Int) ∧ cv = .bool (if amongB (t.rev.take q) (bn : Int) = true then false else CB) ∧ Hid (Below w15.heap.size w15 wq)) (fun _ i _ => t.rev.length - (intOf i).toNat)
            case atStart => exact ⟨0, Nat.zero_le _, rfl, rfl, Below.refl _ _⟩
            case round =>
              obtain ⟨q, hq, rfl, rfl, HBQ⟩ := hrel
              by_cases hlq : q < t.rev.length
              · obtain ⟨rb, ro, rfl, hrb, hrc⟩ := HRV.out.resolve_left (by intro e; rw [e] at hlq; simp at hlq)
                have g := cellKeep HBQ.out hrb (hrc q hlq)
                obtain ⟨xx, hxx⟩ : ∃ xx, xx = t.rev.getD q 0 := ⟨_, rfl⟩
                rw [← hxx] at g
                have HAT : Hid (amongB (t.rev.take (q + 1)) (bn : Int) = (amongB (t.rev.take q) (bn : Int) || xx == (bn : Int))) := by rw [hxx]; exact among_take (by rw [List.getD, List.getElem?_eq_getElem hlq]; rfl) _
                have hlq' : (q : Int) < (t.rev.length : Int) := by omega
                clear hrc hxx
                generalize amongB (t.rev.take q) (bn : Int) = AQ at *
                by_cases hx : xx = (bn : Int)
                · have hx' : (xx == (bn : Int)) = true := by simpa using hx
                  have HA2 : Hid (amongB (t.rev.take (q + 1)) (bn : Int) = true) := by rw [Hid, HAT.out, hx']; simp
                  clear hx HAT
                  go_wp2
                  go_roundw
                  case rel => exact ⟨q + 1, by omega, by go_num, by rw [HA2.out]; rfl, HBQ⟩
                  case measure => simp [intOf]; omega
                · have hx' : (xx == (bn : Int)) = false := by simpa using hx
                  have HA2 : Hid (amongB (t.rev.take (q + 1)) (bn : Int) = AQ) := by rw [Hid, HAT.out, hx']; simp
                  clear hx HAT
                  go_wp2
                  go_roundw
                  case rel => exact ⟨q + 1, by omega, by go_num, by rw [HA2.out], HBQ⟩
                  case measure => simp [intOf]; omega
              · have e : q = t.rev.length := by omega
                subst e
                rw [List.take_length]
                rw [← HC3.out]
                go_wp2
                go_roundw
                case rel => exact ⟨k + 1, by omega, by go_num, rfl, bthen HBS.out HBQ.out⟩
                case measure => simp [intOf]; omega
        · have e : k = L.length := by omega
          subst e
          have HQ : Hid (copB L (bn : Int) = false → T1 = T2) := HEQ
          rw [List.take_length]
          cases hcb : copB L (bn : Int) with
          | true =>
            go_wp2
            go_ret
            exact ⟨rfl, bthen HB10.out HBR.out⟩
          | false =>
            have e12 := HQ.out hcb
            subst e12
            go_wp2
            go_ret
            exact ⟨rfl, bthen HB10.out HBR.out⟩
  · have hE' : (scanE D != 0) = true := by simpa using hE
    have HB6 := hide (bthen (bthen HBW.out HB3.out) (below1 w3 (.cells #[.slice va (fndL D).length vc, .int .i64 (fndN D), .int .i64 (fndP D)] 32)))
    clear hE
    generalize scanE D = E at *
    go_wp2_with fail
    refine (tellsK_any _).mono ?_
    rintro e w9 ⟨rfl, hb9⟩
    have HB9 := hide (bthen HB6.out hb9)
    clear hb9
    go_wp2
    go_ret
    exact ⟨rfl, HB9.out⟩

end Go.Proofs.Ytjnpndfpajjihac

namespace Go.Proofs.Ytjnpndfpajjihac
open Go.RowKit Go.ChangeShapes Go.WideShapes Go.Deep Go.Joins

theorem cells1S : Try.prog.cellsOf 9 = 1 := by kernel_rfl
theorem cells1I : Try.prog.cellsOf 3 = 1 := by kernel_rfl
theorem cells2W : Try.prog.cellsOf 86 = 2 := by kernel_rfl
theorem bytesS : Try.prog.bytesOf 9 = 16 := by kernel_rfl
theorem bytesW : Try.prog.bytesOf 86 = 24 := by kernel_rfl
theorem cells2D : Try.prog.cellsOf 25 = 2 := by kernel_rfl

theorem spot_none {w : World} {x : Addr} {v : Value} (h : w.cell? (x.add 0) = some v) : ∃ b off, x = ⟨b, off, none⟩ ∧ b < w.heap.size := by
  obtain ⟨b, off, spot⟩ := x
  have hs : spot = none := by simpa [Addr.add] using World.cell?_spot h
  subst hs
  exact ⟨b, off, rfl, by simpa [Addr.add] using World.block_lt_of_cell? w _ h⟩

section
variable {H : Type} {enc : TypeId × Value → H} {w : World} {spare : Nat → Bool} {held : Bool}

theorem open_safe {fuel : Nat} {v : Value} {y : DataW H × List MemPlace} (h : DataW.trod enc Try.prog w 0 spare held fuel 22 [v] = some y) :
    ∃ (a : Option Addr) (c : Nat) (ss : List ByteArray), v = .slice a ss.length c ∧ SegS w a ss ∧ ss.length ≤ maxLen ∧ ((∀ x ∈ y.1.weights Try.prog 22, x ≤ reachBytes) → ss.length * 16 ≤ reachBytes) ∧ ∀ s ∈ ss, s.size ≤ maxLen := by
  rcases open_strings Try.underlying22 Try.underlying9 cells1S h with ⟨hcs, _⟩ | ⟨x, l, c, ss, hcs, _, hl, hm, hz, hy, hcell, hsz⟩
  · simp only [List.cons.injEq, and_true] at hcs
    exact ⟨none, 0, [], hcs, .inl rfl, by decide, fun _ => by decide, fun s hs => by cases hs⟩
  · simp only [List.cons.injEq, and_true] at hcs
    have hle : l ≤ ss.length := by rw [hz]; split <;> omega
    have hlen : (ss.take l).length = l := by rw [List.length_take]; omega
    refine ⟨some x, c, ss.take l, by rw [hlen]; exact hcs, ?_, by rw [hlen]; omega, ?_, fun s hs => hsz s (List.mem_of_mem_take hs)⟩
    rotate_left
    · intro hw
      have := hw (((strs (H := H) (ss.take l)).length + (strs (H := H) (ss.drop l)).length) * 16) (by rw [hy]; simp [DataW.weights, Try.underlying22, bytesS])
      rw [show (strs (H := H) (ss.take l)).length = l from by simp only [strs, List.length_map]; exact hlen] at this
      rw [hlen]
      exact Nat.le_trans (Nat.mul_le_mul_right 16 (Nat.le_add_right _ _)) this
    by_cases h0 : l = 0
    · left; rw [h0]; rfl
    · right
      obtain ⟨b, off, rfl, hb⟩ := spot_none (hcell 0 (by omega))
      refine ⟨b, off, rfl, hb, fun i hi => ?_⟩
      rw [hlen] at hi
      have := hcell i (by omega)
      rw [Addr.add_lit] at this
      rw [this, List.getD, List.getD, List.getElem?_take, if_pos hi]

set_option maxRecDepth 100000 in
theorem open_writes {fuel : Nat} {v : Value} {y : DataW H × List MemPlace} (h : DataW.trod enc Try.prog w 0 spare held fuel 23 [v] = some y) :
    ∃ (a : Option Addr) (c : Nat) (ws : List (Int × ByteArray)), v = .slice a ws.length c ∧ SegW w a ws ∧ ws.length ≤ maxLen ∧ ((∀ x ∈ y.1.weights Try.prog 23, x ≤ reachBytes) → ws.length * 24 ≤ reachBytes) ∧ ∀ x ∈ ws, (Lit.int .i64 x.1).wf = true ∧ x.2.size ≤ maxLen := by
  rcases open_slice Try.underlying23 h with ⟨hcs, _⟩ | ⟨x, l, c, m, n, D, Pl, hcs, _, hl, hm, hmm, hy, hel⟩
  · simp only [List.cons.injEq, and_true] at hcs
    exact ⟨none, 0, [], hcs, .inl rfl, by decide, fun _ => by decide, fun s hs => by cases hs⟩
  · simp only [List.cons.injEq, and_true] at hcs
    have hle : l ≤ m := by rw [hmm]; split <;> omega
    have each : ∀ i, i < l → ∃ u : Int × ByteArray, w.cell? (x.add (i * 2)) = some (.int .i64 u.1) ∧ w.cell? ((x.add (i * 2)).add 1) = some (.string u.2) ∧ (Lit.int .i64 u.1).wf = true ∧ u.2.size ≤ maxLen := by
      intro i hi
      obtain ⟨cs, hc, ht⟩ := hel i (by omega)
      rw [cells2W] at hc
      obtain ⟨y0, y1, k, _, hlen, g0, g1⟩ := trod_struct2 Try.underlying86 ht
      rw [cells2W] at hlen
      match cs, hlen with
      | [u0, u1], _ =>
        have c0 := (World.cells?_some hc).2.2 0 (by omega)
        have c1 := (World.cells?_some hc).2.2 1 (by omega)
        rw [show Addr.add (x.add (i * 2)) 0 = x.add (i * 2) from by simp [Addr.add]] at c0
        simp only [cells1I, cells1S, List.drop_zero, List.drop_one, List.tail_cons, List.take_succ_cons, List.take_zero] at g0 g1
        obtain ⟨a, e0, _, wa⟩ := DataW.trod_int Try.underlying3 g0
        obtain ⟨s, e1, _, ws⟩ := DataW.trod_string Try.underlying9 g1
        simp only [List.cons.injEq, and_true] at e0 e1
        subst e0 e1
        exact ⟨(a, s), by simpa using c0, by simpa using c1, wa, ws⟩
    obtain ⟨f, hf⟩ := choose_lt (α := Int × ByteArray) each
    have hlen : ((List.range l).map f).length = l := by simp
    refine ⟨some x, c, (List.range l).map f, by rw [hlen]; exact hcs, ?_, by rw [hlen]; omega, ?_, ?_⟩
    rotate_left
    · intro hw
      have := hw ((((List.range l).map D).length + ((List.range (m - l)).map fun j => D (l + j)).length) * 24) (by rw [hy]; simp [DataW.weights, Try.underlying23, bytesW])
      rw [show ((List.range l).map D).length = l from by simp] at this
      rw [hlen]
      exact Nat.le_trans (Nat.mul_le_mul_right 24 (Nat.le_add_right _ _)) this
    rotate_left
    · by_cases h0 : l = 0
      · left; rw [h0]; rfl
      · right
        have hx := (hf 0 (by omega)).1
        rw [Nat.zero_mul] at hx
        obtain ⟨b, off, rfl, hb⟩ := spot_none hx
        refine ⟨b, off, rfl, hb, fun i hi => ?_⟩
        rw [hlen] at hi
        have g := hf i hi
        rw [Addr.add_lit, Addr.add_lit] at g
        have e : ((List.range l).map f).getD i (0, ByteArray.empty) = f i := by rw [List.getD, List.getElem?_map, List.getElem?_range hi]; rfl
        rw [e]
        exact ⟨g.1, g.2.1⟩
    · intro u hu
      obtain ⟨i, hi, rfl⟩ := List.mem_map.1 hu
      have := hf i (List.mem_range.1 hi)
      exact ⟨this.2.2.1, this.2.2.2⟩

set_option maxRecDepth 100000 in
/-- A disk that came in is a disk. -/
theorem open_disk {r : Reach} {b0 : Nat} {v : Value} {dt : DataW H} {p : List MemPlace} (hv : Value.okWide Try.prog w r b0 25 v) (h : DataW.Trod enc Try.prog w 0 spare held 25 v dt p) :
    ∃ d : Dk, IsDk w v d ∧ (∀ s ∈ d.safe, s.size ≤ maxLen) ∧ (∀ x ∈ d.wr, (Lit.int .i64 x.1).wf = true ∧ x.2.size ≤ maxLen) ∧
      ((∀ x ∈ dt.weights Try.prog 25, x ≤ reachBytes) → d.safe.length * 16 ≤ 140737488355328 ∧ d.wr.length * 24 ≤ 140737488355328) := by
  obtain ⟨c0, c1, y0, y1, m, rfl, hdt, _, h0, h1⟩ := open_agg2 Try.underlying25 (by kernel_rfl) cells2D hv h
  obtain ⟨a, c, ss, rfl, hS, hn, hr, hz⟩ := open_safe h0
  obtain ⟨a', c', ws, rfl, hW, hm, hr', hx⟩ := open_writes h1
  refine ⟨⟨ss, ws⟩, ⟨a, c, a', c', rfl, hS, hW, hn, hm⟩, hz, hx, fun hw => ?_⟩
  have e : DataW.weights Try.prog 25 dt = y0.1.weights Try.prog 22 ++ (y1.1.weights Try.prog 23 ++ []) := by
    rw [hdt]
    simp only [DataW.weights, Try.underlying25]
    rfl
  rw [e] at hw
  have k1 := hr fun x hx => hw x (by simp [hx])
  have k2 := hr' fun x hx => hw x (by simp [hx])
  unfold reachBytes at k1 k2
  exact ⟨by show ss.length * 16 ≤ _; omega, by show ws.length * 24 ≤ _; omega⟩

end

end Go.Proofs.Ytjnpndfpajjihac
