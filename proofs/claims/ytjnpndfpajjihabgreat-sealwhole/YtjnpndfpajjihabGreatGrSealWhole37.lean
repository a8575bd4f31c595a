/-
  What RecoverTwice goes by, as plain data, to its end. Nothing of the program is proved here.
  What SealWhole goes by, as plain data: a log that is gone on from its end, old and new blocks mixed. Nothing of the program is proved here.
-/
import Derived.Test.YtjnpndfpajjihabGreatGrSealWhole36
import Derived.Test.YtjnpndfpajjihabGreatEPure
namespace Go.Proofs.YtjnpndfpajjihabGreat
open Go.RowKit

theorem good_readE {d : Dk} (hg : goodB d = true) {n : Nat} (hn : n < 37) : readE d n = 0 := by
  rw [readE, hg, place_of hn]; rfl
theorem logOf_congr {X D : Dk} (h : ∀ n : Nat, 1 ≤ n → n ≤ 24 → readT X n = readT D n) (p : Int) : logOf X p = logOf D p := by
  unfold logOf
  refine List.map_congr_left fun i hi => ?_
  have h1 := h (1 + ((p + (i : Int)) % 24).toNat) (by omega) (by omega)
  have e : ((1 + ((p + (i : Int)) % 24).toNat : Nat) : Int) = 1 + (p + (i : Int)) % 24 := by omega
  rw [e] at h1
  exact h1
/-- What is read alike tells alike. -/
theorem scan_congr {X D : Dk} (hX : goodB X = true) (hD : goodB D = true) (h : ∀ n : Nat, n ≤ 24 → readT X n = readT D n) : scanE X = scanE D ∧ fndL X = fndL D ∧ fndN X = fndN D ∧ fndP X = fndP D := by
  have h0 : readT X 0 = readT D 0 := h 0 (by omega)
  have hs : superM X = superM D := by rw [superM, superM, h0]
  have hE : scanE X = scanE D := by
    have e1 : readE X 0 = 0 := good_readE hX (n := 0) (by omega)
    have e2 : readE D 0 = 0 := good_readE hD (n := 0) (by omega)
    rw [scanE, scanE, hs, h0, e1, e2]
  have hL : scanL X = scanL D := by rw [scanL, scanL, hs, logOf_congr (fun n _ h2 => h n h2)]
  refine ⟨hE, ?_, ?_, ?_⟩
  · rw [fndL, fndL, hE, hL]
  · rw [fndN, fndN, hE, hs, hL]
  · rw [fndP, fndP, hE, hs, hL]
/-- Does a log have a mark of a number or a later one? -/
def laterB (d : Dk) (N : Int) : Bool := (List.range 24).any fun i => decide ((stampDec (readT d ((i + 1 : Nat) : Int))).2 = 0) && decide (N ≤ (stampDec (readT d ((i + 1 : Nat) : Int))).1.seq)
theorem later_no {d : Dk} {N : Int} (h : laterB d N = false) (n : Nat) (h1 : 1 ≤ n) (h2 : n ≤ 24) : (stampDec (readT d n)).2 = 0 → (stampDec (readT d n)).1.seq < N := by
  intro he
  have hx := List.any_eq_false.1 h (n - 1) (List.mem_range.2 (by omega))
  rw [show n - 1 + 1 = n from by omega, he] at hx
  simp at hx
  omega
theorem super_range {p seq : Int} (h : goodM (superMk p seq) = 0) : (1 ≤ seq ∧ seq ≤ 2147483647) ∧ 0 ≤ p ∧ p ≤ 23 := by
  unfold goodM at h
  split at h
  · cases h
  · split at h
    · cases h
    · rename_i hx
      have : ¬ (seq < 1 ∨ 2147483647 < seq ∨ p < 0 ∨ 23 < p) := hx
      omega
/-- A log that begins anew. -/
theorem scan_new {X : Dk} {P N : Int} (hg : goodB X = true) (h0 : readT X 0 = encT (superMk P N)) (hm : goodM (superMk P N) = 0) (hl : ∀ n : Nat, 1 ≤ n → n ≤ 24 → (stampDec (readT X n)).2 = 0 → (stampDec (readT X n)).1.seq < N) : scanE X = 0 ∧ fndL X = [] ∧ fndN X = N ∧ fndP X = P := by
  have hs : superM X = superMk P N := by rw [superM, h0, dec_enc hm]
  obtain ⟨_, p1, p2⟩ := super_range hm
  have hE : scanE X = 0 := by
    have e1 : readE X 0 = 0 := good_readE hg (n := 0) (by omega)
    rw [scanE, e1, hs, h0, dec_enc hm, if_neg (by simp), if_neg (by simp [superMk])]
  have hL : scanL X = ([], 0) := by
    rw [scanL, hs]
    show scanP (logOf X P) 0 N [] = _
    rw [scanP]
    split
    · have hr : runT (logOf X P) N 0 (txOf N) = none := by
        rw [runT, dif_pos (by rw [logOf_length]; omega), logOf_at X P 0 (by omega), if_pos]
        have e : 1 + (P + ((0 : Nat) : Int)) % 24 = ((1 + P.toNat : Nat) : Int) := by omega
        rw [e]
        have := hl (1 + P.toNat) (by omega) (by omega)
        by_cases hx : (stampDec (readT X ((1 + P.toNat : Nat) : Int))).2 = 0
        · have := this hx
          exact .inr (.inl (by omega))
        · exact .inl hx
      rw [hr]
    · rfl
  refine ⟨hE, ?_, ?_, ?_⟩
  · rw [fndL, if_pos hE, hL]
  · rw [fndN, if_pos hE, hL, hs]; simp [superMk]
  · rw [fndP, if_pos hE, hL, hs]; simp [superMk]; omega

theorem asN_nodup (f : Int → Option ByteArray) (n : Nat) : ((asN f n).map (·.1)).Nodup := by
  induction n with
  | zero => simp [asN]
  | succ n ih =>
    rw [asN_snoc, List.map_append, List.nodup_append]
    refine ⟨ih, ?_, ?_⟩
    · unfold oneC; cases f n <;> simp
    · intro a ha b hb
      obtain ⟨x, hx, rfl⟩ := List.mem_map.1 ha
      obtain ⟨y, hy, rfl⟩ := List.mem_map.1 hb
      have h1 := (asN_mem hx).2.1
      unfold oneC at hy
      cases hf : f (n : Int) with
      | none => rw [hf] at hy; simp at hy
      | some s => rw [hf] at hy; simp at hy; subst hy; simp; omega
theorem newest_homes {l : List Tx} (hg : ∀ t ∈ l, goodX t = true) : Homes (newestL l) := by
  refine ⟨asN_nodup _ _, fun x hx => ?_, asN_length _ 12⟩
  obtain ⟨a, b, c⟩ := asN_mem hx
  exact ⟨a, by omega, newestF_good hg _ _ c⟩

/-- The steps that put right. -/
def putR (cs : List (Int × ByteArray)) (S : ByteArray) : List St := homeS cs ++ [writeS 0 S, flushS]
section
variable {cs : List (Int × ByteArray)} {S : ByteArray} {d : Dk}
theorem homeS_len (h : Homes cs) : (homeS cs).length ≤ 13 := by
  rw [homeS, List.length_append, homeM_length]
  have := h.2.2
  split <;> simp <;> omega
theorem putR_ok (h : Homes cs) (hS : fitsB S = true) : ∀ s ∈ putR cs S, StepOk s := by
  intro s hs
  rcases List.mem_append.1 hs with h1 | h1
  · exact (homes_steps h.2.1).1 s h1
  · rcases List.mem_cons.1 h1 with rfl | h2
    · exact .inr ⟨rfl, hS⟩
    · rw [List.mem_singleton.1 h2]; exact .inl rfl
/-- Behind what goes home. -/
theorem behind_homes (h : Homes cs) (hg : goodB d = true) (hw : d.wr = []) (ho : ∀ n : Nat, n < 25 → Only d n (readT d n)) : goodB (runK d (homeS cs)) = true ∧ (runK d (homeS cs)).wr.length ≤ 13 ∧ (∀ n : Nat, n < 25 → Only (runK d (homeS cs)) n (readT d n)) ∧ ∀ x ∈ cs, Only (runK d (homeS cs)) (25 + x.1).toNat x.2 := by
  have hl := homeS_len h
  have h1 := homes_steps h.2.1
  have h2 := run_good (homeS cs) d h1.1 hg (by rw [hw]; simp; omega)
  refine ⟨h2.1, by have := h2.2; rw [hw] at this; simp at this; omega, fun n hn => run_only (by omega) _ d h1.1 hg (by rw [hw]; simp; omega) (ho n hn) (h1.2 n hn), fun x hx => ?_⟩
  have hne : ¬ cs.length = 0 := by intro e; rw [List.eq_nil_of_length_eq_zero e] at hx; cases hx
  have hxb := h.2.1 x hx
  have hok : ∀ s ∈ homeM cs, StepOk s := fun s hs => h1.1 s (by rw [homeS]; exact List.mem_append.2 (.inl hs))
  have hlm : (homeM cs).length ≤ 12 := by rw [homeM_length]; exact h.2.2
  have h3 := run_good (homeM cs) d hok hg (by rw [hw]; simp; omega)
  rw [homeS, if_neg hne, runK_append]
  show Only (flushK (runK d (homeM cs))) _ _
  have h4 := only_flush h3.1 (n := (25 + x.1).toNat) (by omega)
  have e : (((25 + x.1).toNat : Nat) : Int) = 25 + x.1 := by omega
  have h5 := homes_done cs d h hg (by rw [hw]; have := h.2.2; simp; omega) x hx
  have h6 : readT (runK d (homeM cs)) ((25 + x.1).toNat : Nat) = x.2 := by
    rw [readT, h3.1, place_of (by omega), e]
    exact h5
  rwa [h6] at h4
/-- Behind all. -/
theorem behind_all (h : Homes cs) (hS : fitsB S = true) (hg : goodB d = true) (hw : d.wr = []) (ho : ∀ n : Nat, n < 25 → Only d n (readT d n)) : goodB (runK d (putR cs S)) = true ∧ Only (runK d (putR cs S)) 0 S ∧ (∀ n : Nat, 1 ≤ n → n < 25 → Only (runK d (putR cs S)) n (readT d n)) ∧ ∀ x ∈ cs, Only (runK d (putR cs S)) (25 + x.1).toNat x.2 := by
  obtain ⟨a1, a2, a3, a4⟩ := behind_homes h hg hw ho
  have he : putE (runK d (homeS cs)) 0 S = 0 := put_succ a1 rfl hS (by omega)
  have hg2 := good_put he
  have hl2 : (putK (runK d (homeS cs)) 0 S).wr.length < 200 := by rw [putK_ok he]; simp; omega
  have hr : runK d (putR cs S) = flushK (putK (runK d (homeS cs)) 0 S) := by rw [putR, runK_append]; rfl
  have hok : StepOk (writeS 0 S) := .inr ⟨rfl, hS⟩
  have keep : ∀ (n : Nat) (v : ByteArray), n < 37 → n ≠ 0 → Only (runK d (homeS cs)) n v → Only (runK d (putR cs S)) n v := by
    intro n v hn hne hv
    rw [hr]
    have h1 : Only (putK (runK d (homeS cs)) 0 S) n v := step_only hok a1 (by omega) hn hv (fun _ => by show (0 : Int) ≠ _; omega)
    have h2 := only_flush hg2 hn
    rwa [h1.read hg2 hn] at h2
  refine ⟨by rw [hr]; exact flush_gd hg2, ?_, fun n h1 h2 => keep n _ (by omega) (by omega) (a3 n h2), fun x hx => ?_⟩
  · rw [hr]
    have h2 := only_flush hg2 (n := 0) (by omega)
    have h3 := (read_put he).1
    have h4 : readT (putK (runK d (homeS cs)) 0 S) ((0 : Nat) : Int) = S := h3
    rwa [h4] at h2
  · have := h.2.1 x hx
    exact keep _ _ (by omega) (by omega) (a4 x hx)
/-- Wherever it stops. -/
theorem behind_some (h : Homes cs) (hS : fitsB S = true) (hg : goodB d = true) (hw : d.wr = []) (ho : ∀ n : Nat, n < 25 → Only d n (readT d n)) (k : Nat) : goodB (runK d ((putR cs S).take k)) = true ∧ (∀ n : Nat, 1 ≤ n → n < 25 → Only (runK d ((putR cs S).take k)) n (readT d n)) ∧
    ((k < (putR cs S).length ∧ Only (runK d ((putR cs S).take k)) 0 (readT d 0)) ∨ ((∀ s ∈ ways (runK d ((putR cs S).take k)) 0, (k < (putR cs S).length ∧ s = readT d 0) ∨ s = S) ∧ ∀ x ∈ cs, Only (runK d ((putR cs S).take k)) (25 + x.1).toNat x.2)) := by
  have hl := homeS_len h
  have hlen : (putR cs S).length = (homeS cs).length + 2 := by simp [putR]
  by_cases h1 : k ≤ (homeS cs).length
  · have e : (putR cs S).take k = (homeS cs).take k := by rw [putR, List.take_append_of_le_length h1]
    have hst := homes_steps h.2.1
    have hok : ∀ s ∈ (homeS cs).take k, StepOk s := fun s hs => hst.1 s (List.mem_of_mem_take hs)
    have hlk : d.wr.length + ((homeS cs).take k).length ≤ 200 := by rw [hw, List.length_take]; simp; omega
    rw [e]
    have key : ∀ n : Nat, n < 25 → Only (runK d ((homeS cs).take k)) n (readT d n) := fun n hn => run_only (by omega) _ d hok hg hlk (ho n hn) (fun s hs => hst.2 n hn s (List.mem_of_mem_take hs))
    exact ⟨(run_good _ d hok hg hlk).1, fun n _ h2 => key n h2, .inl ⟨by omega, key 0 (by omega)⟩⟩
  · obtain ⟨a1, a2, a3, a4⟩ := behind_homes h hg hw ho
    by_cases h2 : k = (homeS cs).length + 1
    · have e : (putR cs S).take k = homeS cs ++ [writeS 0 S] := by
        rw [putR, List.take_append, List.take_of_length_le (by omega), h2, show (homeS cs).length + 1 - (homeS cs).length = 1 from by omega]
        rfl
      have he : putE (runK d (homeS cs)) 0 S = 0 := put_succ a1 rfl hS (by omega)
      have hr : runK d ((putR cs S).take k) = putK (runK d (homeS cs)) 0 S := by rw [e, runK_append]; rfl
      have hok : StepOk (writeS 0 S) := .inr ⟨rfl, hS⟩
      have keep : ∀ (n : Nat) (v : ByteArray), n < 37 → n ≠ 0 → Only (runK d (homeS cs)) n v → Only (runK d ((putR cs S).take k)) n v := by
        intro n v hn hne hv
        rw [hr]
        exact step_only hok a1 (by omega) hn hv (fun _ => by show (0 : Int) ≠ _; omega)
      refine ⟨by rw [hr]; exact good_put he, fun n h3 h4 => keep n _ (by omega) (by omega) (a3 n h4), .inr ⟨fun s hs => ?_, fun x hx => ?_⟩⟩
      · rw [hr, ways_put he, if_pos (show (0 : Int) = ((0 : Nat) : Int) from rfl)] at hs
        rcases List.mem_append.1 hs with h5 | h5
        · exact .inl ⟨by omega, a3 0 (by omega) s h5⟩
        · exact .inr (List.mem_singleton.1 h5)
      · have := h.2.1 x hx
        exact keep _ _ (by omega) (by omega) (a4 x hx)
    · have e : (putR cs S).take k = putR cs S := List.take_of_length_le (by omega)
      rw [e]
      obtain ⟨b1, b2, b3, b4⟩ := behind_all h hS hg hw ho
      exact ⟨b1, b3, .inr ⟨fun s hs => .inr (b2 s hs), b4⟩⟩
end

/-- WHAT IS PUT RIGHT TWICE IS PUT RIGHT ONCE, of plain disks. -/
theorem twice_pure {D : Dk} (hE : scanE D = 0) (hw : D.wr = []) (hG : ∀ t ∈ fndL D, goodX t = true) (hlt : laterB D (fndN D) = false) {k : Nat} (hk : k ≤ (checkS (newestL (fndL D)) (fndP D) (fndN D)).length) {q : Int} (hq : 0 ≤ q) {R X : Dk} (hR : R = runK D ((checkS (newestL (fndL D)) (fndP D) (fndN D)).take k)) (hX : X = crashK R q) :
    crashE R q = 0 ∧ scanE X = 0 ∧ fndN X = fndN D ∧ fndP X = fndP D ∧ (∀ t ∈ fndL X, goodX t = true) ∧ (k < (checkS (newestL (fndL D)) (fndP D) (fndN D)).length ∨ fndL X = []) ∧
    ∀ Y, Y = runK X (checkS (newestL (fndL X)) (fndP X) (fndN X)) → (∀ x ∈ newestL (fndL D), readT Y (25 + x.1) = x.2) ∧ scanE Y = 0 ∧ fndL Y = [] ∧ fndN Y = fndN D ∧ fndP Y = fndP D := by
  have hck := check_ok hE hG
  obtain ⟨_, ⟨q1, q2⟩, p1, p2⟩ := fnd_facts hE
  have hgD := (scan_good2 hE).1
  have hm : goodM (superMk (fndP D) (fndN D)) = 0 := by
    by_cases hx : goodM (superMk (fndP D) (fndN D)) = 0
    · exact hx
    · rw [checkE, if_pos hx] at hck; exact absurd hck hx
  have hS : fitsB (encT (superMk (fndP D) (fndN D))) = true := by have := enc_size hm; simp [fitsB]; omega
  have hH := newest_homes hG
  have hST : checkS (newestL (fndL D)) (fndP D) (fndN D) = putR (newestL (fndL D)) (encT (superMk (fndP D) (fndN D))) := by rw [checkS, if_pos hck]; rfl
  have hoD : ∀ n : Nat, n < 25 → Only D n (readT D n) := by
    intro n hn
    obtain ⟨sf, wr⟩ := D
    simp only at hw
    subst hw
    exact only_safe hgD (by omega)
  rw [hST] at hk hR ⊢
  generalize hSe : encT (superMk (fndP D) (fndN D)) = S at *
  obtain ⟨r1, r2, r3⟩ := behind_some hH hS hgD hw hoD k
  rw [← hR] at r1 r2 r3
  have hd : decide (0 ≤ q) = true := by simpa using hq
  have hcE : crashE R q = 0 := by rw [crashE, r1, hd]; rfl
  have hXe : X = ⟨(crashL R q.toNat 37).1, []⟩ := by rw [hX, crashK, r1, hd]; rfl
  have gX : goodB X = true := by rw [hXe]; exact crash_good r1 _
  have hXw : X.wr = [] := by rw [hXe]
  have wX : ∀ n : Nat, n < 37 → readT X n ∈ ways R n := by
    intro n hn
    rw [hXe, read_safe (crash_good r1 _) hn]
    exact crash_at _ _ _ hn
  have oX : ∀ n : Nat, n < 25 → Only X n (readT X n) := by
    intro n hn
    rw [hXe]
    exact only_safe (crash_good r1 _) (by omega)
  have lX : ∀ n : Nat, 1 ≤ n → n ≤ 24 → readT X n = readT D n := fun n h1 h2 => r2 n h1 (by omega) _ (wX n (by omega))
  have lno : ∀ n : Nat, 1 ≤ n → n ≤ 24 → (stampDec (readT X n)).2 = 0 → (stampDec (readT X n)).1.seq < fndN D := fun n h1 h2 => by rw [lX n h1 h2]; exact later_no hlt n h1 h2
  -- what comes of a disk whose log begins anew
  have fin : ∀ Y : Dk, goodB Y = true → Only Y 0 S → (∀ n : Nat, 1 ≤ n → n < 25 → Only Y n (readT X n)) → scanE Y = 0 ∧ fndL Y = [] ∧ fndN Y = fndN D ∧ fndP Y = fndP D := by
    intro Y g0 h0 hl
    refine scan_new g0 (by rw [hSe]; exact h0.read g0 (by omega)) hm (fun n h1 h2 => ?_)
    have := (hl n h1 (by omega)).read g0 (by omega)
    rw [this]
    exact lno n h1 h2
  have old : k < (putR (newestL (fndL D)) S).length → readT X 0 = readT D 0 → scanE X = 0 ∧ fndL X = fndL D ∧ fndN X = fndN D ∧ fndP X = fndP D := by
    intro _ h0
    have := scan_congr gX hgD (fun n hn => by
      by_cases e : n = 0
      · subst e; exact h0
      · exact lX n (by omega) hn)
    exact ⟨this.1.trans hE, this.2⟩
  have endOld : readT X 0 = readT D 0 → k < (putR (newestL (fndL D)) S).length → _ := fun h0 hk2 => old hk2 h0
  by_cases hc : k < (putR (newestL (fndL D)) S).length ∧ readT X 0 = readT D 0
  · obtain ⟨s1, s2, s3, s4⟩ := old hc.1 hc.2
    refine ⟨hcE, s1, s3, s4, by rw [s2]; exact hG, .inl hc.1, fun Y hY => ?_⟩
    rw [s2, s3, s4, hST] at hY
    obtain ⟨y1, y2, y3, y4⟩ := behind_all hH hS gX hXw oX
    rw [← hY] at y1 y2 y3 y4
    refine ⟨fun x hx => ?_, fin Y y1 y2 y3⟩
    have hb := hH.2.1 x hx
    have := (y4 x hx).read y1 (by omega)
    rwa [show (((25 + x.1).toNat : Nat) : Int) = 25 + x.1 from by omega] at this
  · have h0 : readT X 0 ∈ ways R 0 := wX 0 (by omega)
    obtain ⟨z1, z2⟩ : readT X 0 = S ∧ ∀ x ∈ newestL (fndL D), readT X (25 + x.1) = x.2 := by
      rcases r3 with ⟨h1, h2⟩ | ⟨h1, h2⟩
      · exact absurd ⟨h1, h2 _ h0⟩ hc
      · rcases h1 _ h0 with h3 | h3
        · exact absurd h3 hc
        · refine ⟨h3, fun x hx => ?_⟩
          have hb := hH.2.1 x hx
          have := h2 x hx _ (wX (25 + x.1).toNat (by omega))
          rwa [show (((25 + x.1).toNat : Nat) : Int) = 25 + x.1 from by omega] at this
    obtain ⟨s1, s2, s3, s4⟩ := scan_new gX (by rw [hSe]; exact z1) hm lno
    refine ⟨hcE, s1, s3, s4, (by rw [s2]; intro t ht; cases ht), .inr s2, fun Y hY => ?_⟩
    rw [s2, s3, s4] at hY
    have hck0 : checkE (newestL []) (fndP D) (fndN D) = 0 := by rw [checkE, hm]; rfl
    have hH0 : Homes (newestL []) := newest_homes (fun t ht => by cases ht)
    have e0 : checkS (newestL []) (fndP D) (fndN D) = putR (newestL []) S := by rw [checkS, if_pos hck0, hSe]; rfl
    rw [e0] at hY
    obtain ⟨y1, y2, y3, _⟩ := behind_all hH0 hS gX hXw oX
    rw [← hY] at y1 y2 y3
    refine ⟨fun x hx => ?_, fin Y y1 y2 y3⟩
    have hb := hH.2.1 x hx
    have hr := (runK_read (25 + x.1).toNat (by omega) (putR (newestL []) S) X gX (fun s hs hk2 => by
      have e1 : putR (newestL []) S = [writeS 0 S, flushS] := rfl
      rw [e1] at hs
      rcases List.mem_cons.1 hs with rfl | h5
      · show (0 : Int) ≠ _
        omega
      · rw [List.mem_singleton.1 h5] at hk2; exact absurd rfl hk2)).1
    rw [← hY, show (((25 + x.1).toNat : Nat) : Int) = 25 + x.1 from by omega] at hr
    rw [hr]
    exact z2 x hx

end Go.Proofs.YtjnpndfpajjihabGreat

namespace Go.Proofs.YtjnpndfpajjihabGreat
open Go.RowKit

/-- All that a place may be. -/
def Among (d : Dk) (n : Nat) (S : ByteArray → Prop) : Prop := ∀ s ∈ ways d n, S s
theorem Among.mono {d : Dk} {n : Nat} {S T : ByteArray → Prop} (h : Among d n S) (hT : ∀ s, S s → T s) : Among d n T := fun s hs => hT s (h s hs)
theorem step_among {d : Dk} {s : St} (hs : StepOk s) (hg : goodB d = true) (hl : d.wr.length < 200) {n : Nat} (hn : n < 37) {S : ByteArray → Prop} (hv : Among d n S) (hne : s.1 ≠ 2 → s.2.1 = (n : Int) → S s.2.2) : Among (stepK d s) n S := by
  unfold stepK
  by_cases h2 : s.1 = 2
  · rw [if_pos h2]
    intro x hx
    rw [only_flush hg hn x hx, readT, hg, place_of hn]
    exact hv _ (last_ways n)
  · rw [if_neg h2]
    obtain ⟨hp, hf⟩ := hs.resolve_left h2
    intro x hx
    rw [ways_put (put_succ hg hp hf hl)] at hx
    split at hx
    · rename_i e
      rcases List.mem_append.1 hx with h | h
      · exact hv x h
      · rw [List.mem_singleton.1 h]; exact hne h2 e
    · exact hv x hx
theorem run_among {n : Nat} (hn : n < 37) {S : ByteArray → Prop} : ∀ (l : List St) (d : Dk), (∀ s ∈ l, StepOk s) → goodB d = true → d.wr.length + l.length ≤ 200 → Among d n S → (∀ s ∈ l, s.1 ≠ 2 → s.2.1 = (n : Int) → S s.2.2) → Among (runK d l) n S := by
  intro l
  induction l with
  | nil => intro d _ _ _ hv _; exact hv
  | cons s l ih =>
    intro d hs hg hl hv hne
    simp only [List.length_cons] at hl
    have h1 := step_good (hs s (by simp)) hg (by omega)
    exact ih (stepK d s) (fun x hx => hs x (by simp [hx])) h1.1 (by omega) (step_among (hs s (by simp)) hg (by omega) hn hv (hne s (by simp))) (fun x hx => hne x (by simp [hx]))

/-! ### Logs that are alike up to a place -/
theorem copiesAt_congr {log log' : List ByteArray} (l : List (Int × Bool)) : ∀ (i : Nat), (∀ j, i ≤ j → j < i + l.length → log.getD j ByteArray.empty = log'.getD j ByteArray.empty) → copiesAt log i l = copiesAt log' i l := by
  induction l with
  | nil => intro i _; rfl
  | cons x r ih =>
    intro i h
    rw [copiesAt, copiesAt, h i (Nat.le_refl _) (by simp), ih (i + 1) (fun j h1 h2 => h j (by omega) (by simp only [List.length_cons]; omega))]
theorem runT_congr {log log' : List ByteArray} (hl : log.length = log'.length) {m : Nat} (hm : ∀ i, i < m → log.getD i ByteArray.empty = log'.getD i ByteArray.empty) (seq : Int) : ∀ (f i : Nat) (t : Tx) (n : Nat) (u : Tx), log.length - i ≤ f → runT log seq i t = some (n, u) → n ≤ m → runT log' seq i t = some (n, u) := by
  intro f
  induction f with
  | zero => intro i t n u hf h _; rw [runT, dif_neg (by omega)] at h; cases h
  | succ f ih =>
    intro i t n u hf h hn
    have hb := runT_bound log seq _ i t n u (Nat.le_refl _) h
    have e := hm i (by omega)
    rw [runT] at h ⊢
    split at h
    · rename_i h1
      rw [dif_pos (by omega), ← e]
      split at h
      · cases h
      · rename_i h2
        rw [if_neg h2]
        split at h
        · rename_i h3
          rw [if_pos h3]; exact h
        · rename_i h3
          rw [if_neg h3]
          split at h
          · rename_i h4
            rw [if_pos (by omega)]
            have hb2 := runT_bound log seq _ _ _ n u (Nat.le_refl _) h
            have hc := copiesAt_congr (log := log) (log' := log') (stampDec (log.getD i ByteArray.empty)).1.tags (i + 1) (fun j _ h6 => hm j (by omega))
            have := ih _ _ n u (by omega) h hn
            unfold more at this ⊢
            rw [hc] at this
            exact this
          · cases h
    · cases h
theorem scanP_ge (log : List ByteArray) : ∀ (f pos : Nat) (seq : Int) (acc : List Tx), log.length - pos ≤ f → pos ≤ (scanP log pos seq acc).2 ∧ acc.length ≤ (scanP log pos seq acc).1.length := by
  intro f
  induction f with
  | zero =>
    intro pos seq acc hf
    rw [scanP]
    split
    · rw [runT, dif_neg (by omega)]; exact ⟨Nat.le_refl _, Nat.le_refl _⟩
    · exact ⟨Nat.le_refl _, Nat.le_refl _⟩
  | succ f ih =>
    intro pos seq acc hf
    rw [scanP]
    split
    · split
      · exact ⟨Nat.le_refl _, Nat.le_refl _⟩
      · rename_i n t hr
        have hb := runT_bound log seq _ pos _ n t (Nat.le_refl _) hr
        have := ih n (seq + 1) (acc ++ [t]) (by omega)
        rw [List.length_append, List.length_singleton] at this
        omega
    · exact ⟨Nat.le_refl _, Nat.le_refl _⟩
/-- What a log tells up to a place, another one that is alike up to it tells too, and goes on from there. -/
theorem scanP_split {log log' : List ByteArray} (hl : log.length = log'.length) : ∀ (f pos : Nat) (seq : Int) (acc : List Tx), log.length - pos ≤ f → (∀ i, i < (scanP log pos seq acc).2 → log.getD i ByteArray.empty = log'.getD i ByteArray.empty) →
    scanP log' pos seq acc = scanP log' (scanP log pos seq acc).2 (seq + ((scanP log pos seq acc).1.length : Int) - (acc.length : Int)) (scanP log pos seq acc).1 := by
  intro f
  induction f with
  | zero =>
    intro pos seq acc hf _
    have e : scanP log pos seq acc = (acc, pos) := by
      rw [scanP]
      split
      · rw [runT, dif_neg (by omega)]
      · rfl
    rw [e]
    show scanP log' pos seq acc = scanP log' pos (seq + (acc.length : Int) - (acc.length : Int)) acc
    rw [show seq + (acc.length : Int) - (acc.length : Int) = seq by omega]
  | succ f ih =>
    intro pos seq acc hf hm
    by_cases hq : seq < 2147483647
    · cases hr : runT log seq pos (txOf seq) with
      | none =>
        have e : scanP log pos seq acc = (acc, pos) := by rw [scanP, dif_pos hq, hr]
        rw [e]
        show scanP log' pos seq acc = scanP log' pos (seq + (acc.length : Int) - (acc.length : Int)) acc
        rw [show seq + (acc.length : Int) - (acc.length : Int) = seq by omega]
      | some x =>
        obtain ⟨n, t⟩ := x
        have e : scanP log pos seq acc = scanP log n (seq + 1) (acc ++ [t]) := by rw [scanP, dif_pos hq, hr]
        rw [e] at hm ⊢
        have hb := runT_bound log seq _ pos _ n t (Nat.le_refl _) hr
        have hge := scanP_ge log _ n (seq + 1) (acc ++ [t]) (Nat.le_refl _)
        have hr' := runT_congr hl hm seq _ pos _ n t (Nat.le_refl _) hr hge.1
        have e' : scanP log' pos seq acc = scanP log' n (seq + 1) (acc ++ [t]) := by rw [scanP, dif_pos hq, hr']
        rw [e', ih n (seq + 1) (acc ++ [t]) (by omega) hm]
        congr 1
        rw [List.length_append, List.length_singleton]
        push_cast
        omega
    · have e : scanP log pos seq acc = (acc, pos) := by rw [scanP, dif_neg hq]
      rw [e]
      show scanP log' pos seq acc = scanP log' pos (seq + (acc.length : Int) - (acc.length : Int)) acc
      rw [show seq + (acc.length : Int) - (acc.length : Int) = seq by omega]

/-! ### A transaction in the log, block by block -/
theorem getD_appL {l r : List ByteArray} {j : Nat} (h : j < l.length) : (l ++ r).getD j ByteArray.empty = l.getD j ByteArray.empty := by
  rw [List.getD, List.getD, List.getElem?_append_left h]
theorem getD_appR {l r : List ByteArray} (j : Nat) : (l ++ r).getD (l.length + j) ByteArray.empty = r.getD j ByteArray.empty := by
  rw [List.getD, List.getD, List.getElem?_append_right (by omega), show l.length + j - l.length = j by omega]
/-- A mark and the copies behind it. -/
def segB (l : List (Mk × List ByteArray)) : List ByteArray := l.flatMap fun x => encT x.1 :: x.2
def SegOk (N : Int) (x : Mk × List ByteArray) : Prop := goodM x.1 = 0 ∧ x.1.seq = N ∧ x.1.kind ≠ 1 ∧ x.1.kind ≠ 4 ∧ x.2.length = x.1.tags.length
/-- A block that is no mark of a number, nor of a later one. -/
def Old (N : Int) (s : ByteArray) : Prop := (stampDec s).2 = 0 → (stampDec s).1.seq < N
theorem runT_oldHead {log : List ByteArray} {N M : Int} {i : Nat} {t : Tx} (h : Old N (log.getD i ByteArray.empty)) (hM : N ≤ M) : runT log M i t = none := by
  rw [runT]
  split
  · rw [if_pos]
    by_cases hx : (stampDec (log.getD i ByteArray.empty)).2 = 0
    · have := h hx
      exact .inr (.inl (by omega))
    · exact .inl hx
  · rfl
theorem segB_cons (x : Mk × List ByteArray) (l : List (Mk × List ByteArray)) : segB (x :: l) = encT x.1 :: (x.2 ++ segB l) := by simp [segB]
theorem runT_old {N : Int} : ∀ (l : List (Mk × List ByteArray)) (log : List ByteArray) (i : Nat) (t : Tx), (∀ x ∈ l, SegOk N x) → i + (segB l).length + 1 ≤ log.length →
    (∀ j, j < (segB l).length → log.getD (i + j) ByteArray.empty = (segB l).getD j ByteArray.empty ∨ Old N (log.getD (i + j) ByteArray.empty)) → Old N (log.getD (i + (segB l).length) ByteArray.empty) → runT log N i t = none := by
  intro l
  induction l with
  | nil => intro log i t _ _ _ h; exact runT_oldHead h (Int.le_refl _)
  | cons x l ih =>
    intro log i t hok hlen hmix hend
    rw [segB_cons] at hlen hmix hend
    simp only [List.length_cons, List.length_append] at hlen hend
    obtain ⟨hg, hq, hk1, hk4, hl⟩ := hok x (by simp)
    rcases hmix 0 (by simp) with h0 | h0
    · have e : log.getD i ByteArray.empty = encT x.1 := by simpa using h0
      rw [runT, dif_pos (by omega), e, dec_enc hg]
      dsimp only
      rw [if_neg (by simp; exact ⟨hq, hk1⟩), if_neg hk4, if_pos (by omega)]
      refine ih log _ _ (fun y hy => hok y (by simp [hy])) (by omega) (fun j hj => ?_) ?_
      · have := hmix (1 + x.2.length + j) (by simp; omega)
        rw [show 1 + x.2.length + j = (x.2.length + j) + 1 by omega, List.getD_cons_succ, getD_appR] at this
        rw [show i + 1 + x.1.tags.length + j = i + (x.2.length + j + 1) by omega]
        exact this
      · rw [show i + 1 + x.1.tags.length + (segB l).length = i + (x.2.length + (segB l).length + 1) by omega]
        exact hend
    · exact runT_oldHead (by simpa using h0) (Int.le_refl _)
/-- The copies that stand behind a descriptor. -/
def pairC : List (Int × Bool) → List ByteArray → List (Int × ByteArray)
  | x :: r, s :: l => (x.1, unescT s x.2) :: pairC r l
  | _, _ => []
theorem copiesAt_pair {log : List ByteArray} : ∀ (g : List (Int × Bool)) (l : List ByteArray) (i : Nat), l.length = g.length → (∀ j, j < l.length → log.getD (i + j) ByteArray.empty = l.getD j ByteArray.empty) → copiesAt log i g = pairC g l := by
  intro g
  induction g with
  | nil => intro l i _ _; cases l <;> rfl
  | cons x r ih =>
    intro l i hl h
    cases l with
    | nil => simp at hl
    | cons s l =>
      rw [copiesAt, pairC]
      have h0 := h 0 (by simp)
      simp only [Nat.add_zero, List.getD_cons_zero] at h0
      rw [h0, ih l (i + 1) (by simpa using hl) (fun j hj => by
        have := h (j + 1) (by simp; omega)
        rw [List.getD_cons_succ] at this
        rw [show i + 1 + j = i + (j + 1) by omega]; exact this)]
/-- A transaction behind marks and their copies. -/
def addS (t : Tx) (l : List (Mk × List ByteArray)) : Tx := { t with rev := t.rev ++ l.flatMap (·.1.blocks), info := t.info ++ l.flatMap (fun x => pairC x.1.tags x.2) }
theorem runT_new {N : Int} {cm : Mk} (hcm : goodM cm = 0) (hcq : cm.seq = N) (hck : cm.kind = 4) : ∀ (l : List (Mk × List ByteArray)) (log : List ByteArray) (i : Nat) (t : Tx), (∀ x ∈ l, SegOk N x) → i + (segB l).length + 1 ≤ log.length →
    (∀ j, j < (segB l).length → log.getD (i + j) ByteArray.empty = (segB l).getD j ByteArray.empty) → log.getD (i + (segB l).length) ByteArray.empty = encT cm → runT log N i t = some (i + (segB l).length + 1, addS t l) := by
  intro l
  induction l with
  | nil =>
    intro log i t _ hlen _ h
    have e : log.getD i ByteArray.empty = encT cm := h
    rw [runT, dif_pos (by simp [segB] at hlen; omega), e, dec_enc hcm, if_neg (by simp [hcq, hck]), if_pos hck]
    simp [segB, addS]
  | cons x l ih =>
    intro log i t hok hlen hall hend
    rw [segB_cons] at hlen hall hend ⊢
    simp only [List.length_cons, List.length_append] at hlen hend
    obtain ⟨hg, hq, hk1, hk4, hl⟩ := hok x (by simp)
    have e : log.getD i ByteArray.empty = encT x.1 := by simpa using hall 0 (by simp)
    rw [runT, dif_pos (by omega), e, dec_enc hg]
    dsimp only
    rw [if_neg (by simp; exact ⟨hq, hk1⟩), if_neg hk4, if_pos (by omega)]
    have hc : copiesAt log (i + 1) x.1.tags = pairC x.1.tags x.2 := copiesAt_pair _ _ _ hl (fun j hj => by
      have := hall (j + 1) (by simp; omega)
      rw [List.getD_cons_succ, getD_appL hj] at this
      rw [show i + 1 + j = i + (j + 1) by omega]; exact this)
    have h1 : ∀ j, j < (segB l).length → log.getD (i + 1 + x.1.tags.length + j) ByteArray.empty = (segB l).getD j ByteArray.empty := by
      intro j hj
      have := hall (1 + x.2.length + j) (by simp; omega)
      rw [show 1 + x.2.length + j = (x.2.length + j) + 1 by omega, List.getD_cons_succ, getD_appR] at this
      rw [show i + 1 + x.1.tags.length + j = i + (x.2.length + j + 1) by omega]
      exact this
    have h2 : log.getD (i + 1 + x.1.tags.length + (segB l).length) ByteArray.empty = encT cm := by
      rw [show i + 1 + x.1.tags.length + (segB l).length = i + (x.2.length + (segB l).length + 1) by omega]
      exact hend
    rw [ih log _ _ (fun y hy => hok y (by simp [hy])) (by omega) h1 h2]
    simp only [List.length_cons, List.length_append, Option.some.injEq, Prod.mk.injEq]
    refine ⟨by omega, ?_⟩
    simp [addS, more, hc]

/-! ### The blocks of a good transaction -/
def segsOf (t : Tx) : List (Mk × List ByteArray) := (if t.rev.length = 0 then [] else [(⟨3, t.seq, 0, [], t.rev⟩, [])]) ++ (List.range (partN t.info.length 10)).map fun k => (⟨2, t.seq, 0, tagsOf (partOf t.info k), []⟩, textsOf (partOf t.info k))
theorem segs_log (t : Tx) : segB (segsOf t) = logB t := by
  unfold segB segsOf logB revB metaB
  rw [List.flatMap_append, List.flatMap_map]
  congr 1
  split <;> simp
theorem rises_part {l : List (Int × ByteArray)} (h : rises (blksOf l) = true) (k : Nat) : rises ((tagsOf (partOf l k)).map (·.1)) = true := by
  have e : (tagsOf (partOf l k)).map (·.1) = blksOf (partOf l k) := by simp [tagsOf, blksOf]
  rw [e]
  rw [rises_iff] at h ⊢
  have hs : (blksOf (partOf l k)).Sublist (blksOf l) := by
    unfold blksOf partOf
    exact ((List.take_sublist _ _).trans (List.drop_sublist _ _)).map _
  exact ⟨fun x hx => h.1 x (hs.subset hx), h.2.sublist hs⟩
theorem segs_ok {t : Tx} (hg : goodX t = true) : ∀ x ∈ segsOf t, SegOk t.seq x := by
  obtain ⟨⟨q1, q2⟩, _, ⟨r1, _, r3⟩, _⟩ := (goodX_iff t).1 hg
  have hs := good_small hg
  intro x hx
  unfold segsOf at hx
  rcases List.mem_append.1 hx with h | h
  · split at h
    · cases h
    · rename_i h0
      rw [List.mem_singleton.1 h]
      refine ⟨?_, rfl, by simp, by simp, rfl⟩
      unfold goodM
      rw [if_neg (by simp), if_neg (by simp; omega), if_neg (by simp), if_neg]
      rintro (⟨h2, _⟩ | ⟨_, h2⟩ | h2 | h2)
      · simp at h2
      · simp only at h2; omega
      · simp [rises, risesFrom] at h2
      · simp only [r3] at h2; cases h2
  · obtain ⟨k, hk, rfl⟩ := List.mem_map.1 h
    have hk' := List.mem_range.1 hk
    have hpl := partOf_length t.info k
    have hlen : 1 ≤ (partOf t.info k).length ∧ (partOf t.info k).length ≤ 10 := by
      rw [hpl]
      unfold partN at hk'
      unfold partL
      split <;> omega
    refine ⟨?_, rfl, by simp, by simp, by simp [tagsOf, textsOf]⟩
    unfold goodM
    rw [if_neg (by simp), if_neg (by simp; omega), if_neg (by simp), if_neg]
    rintro (⟨_, h2⟩ | ⟨h2, _⟩ | h2 | h2)
    · simp only [tagsOf, List.length_map] at h2; omega
    · simp at h2
    · simp only [rises_part r1 k] at h2; cases h2
    · simp [rises, risesFrom] at h2
theorem pair_back (l : List (Int × ByteArray)) : pairC (tagsOf l) (textsOf l) = l := by
  induction l with
  | nil => rfl
  | cons x r ih =>
    show (x.1, unescT (escT x.2) (isMagic x.2)) :: pairC (tagsOf r) (textsOf r) = x :: r
    rw [ih, unesc_esc]
theorem parts_whole {l : List (Int × ByteArray)} (h : l.length ≤ 12) : (List.range (partN l.length 10)).flatMap (partOf l) = l := by
  by_cases h0 : l.length = 0
  · rw [List.eq_nil_of_length_eq_zero h0]; rfl
  · by_cases h1 : l.length ≤ 10
    · have e : partN l.length 10 = 1 := by unfold partN; omega
      rw [e]
      simp [partOf, List.range_succ]
      exact List.take_of_length_le h1
    · have e : partN l.length 10 = 2 := by unfold partN; omega
      rw [e]
      have e2 : (l.drop 10).take 10 = l.drop 10 := List.take_of_length_le (by rw [List.length_drop]; omega)
      simp [partOf, List.range_succ, e2]
/-- What a log tells of a transaction. -/
def toldOf (t : Tx) : Tx := ⟨t.seq, t.info, [], t.rev, ⟨false, 0⟩, ⟨false, 0⟩, ⟨false, 0⟩⟩
theorem segs_told {t : Tx} (hg : goodX t = true) : addS (txOf t.seq) (segsOf t) = toldOf t := by
  have hs := good_small hg
  have e1 : (segsOf t).flatMap (·.1.blocks) = t.rev := by
    unfold segsOf
    rw [List.flatMap_append, List.flatMap_map]
    split
    · rename_i h; simp [List.eq_nil_of_length_eq_zero h]
    · simp
  have e2 : (segsOf t).flatMap (fun x => pairC x.1.tags x.2) = t.info := by
    unfold segsOf
    rw [List.flatMap_append, List.flatMap_map]
    have : ((List.range (partN t.info.length 10)).flatMap fun k => pairC (tagsOf (partOf t.info k)) (textsOf (partOf t.info k))) = t.info := by
      rw [show (fun k => pairC (tagsOf (partOf t.info k)) (textsOf (partOf t.info k))) = partOf t.info from funext fun k => pair_back _]
      exact parts_whole hs.1
    split
    · simpa using this
    · simpa [pairC] using this
  unfold addS toldOf txOf
  rw [e1, e2]
  simp
theorem last_good {t : Tx} (hg : goodX t = true) : goodM ⟨4, t.seq, 0, [], []⟩ = 0 := by
  obtain ⟨⟨q1, q2⟩, _⟩ := (goodX_iff t).1 hg
  unfold goodM
  rw [if_neg (by simp), if_neg (by simp; omega), if_neg (by simp), if_neg]
  simp [rises, risesFrom]

end Go.Proofs.YtjnpndfpajjihabGreat
