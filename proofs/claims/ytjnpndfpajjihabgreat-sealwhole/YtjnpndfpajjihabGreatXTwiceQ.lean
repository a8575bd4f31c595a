/-
  What RecoverTwice goes by, as plain data, to its end. Nothing of the program is proved here.
-/
import Derived.Test.YtjnpndfpajjihabGreatXTwiceP
namespace Go.Proofs.YtjnpndfpajjihabGreat
open Go.RowKit

theorem good_readE {d : Dk} (hg : goodB d = true) {n : Nat} (hn : n < 37) : readE d n = 0 := by
  rw [readE, hg, place_of hn]; rfl
theorem logOf_congr {X D : Dk} (h : ∀ n : Nat, 1 ≤ n → n ≤ 24 → readT X n = readT D n) (p : Int) : logOf X p = logOf D p := by
  unfold logOf
  refine List.map_congr_left fun i hi => ?_
  have h1 := h (1 + ((p + (i : Int)) % 24).toNat) (by omega) (by omega)
  have e : ((1 + ((p + (i : Int)) % 24).toNat : Nat) : Int) = 1 + (p + (i : Int)) % 24 := by omega
  rw [e] at h1
  exact h1
/-- What is read alike tells alike. -/
theorem scan_congr {X D : Dk} (hX : goodB X = true) (hD : goodB D = true) (h : ∀ n : Nat, n ≤ 24 → readT X n = readT D n) : scanE X = scanE D ∧ fndL X = fndL D ∧ fndN X = fndN D ∧ fndP X = fndP D := by
  have h0 : readT X 0 = readT D 0 := h 0 (by omega)
  have hs : superM X = superM D := by rw [superM, superM, h0]
  have hE : scanE X = scanE D := by
    have e1 : readE X 0 = 0 := good_readE hX (n := 0) (by omega)
    have e2 : readE D 0 = 0 := good_readE hD (n := 0) (by omega)
    rw [scanE, scanE, hs, h0, e1, e2]
  have hL : scanL X = scanL D := by rw [scanL, scanL, hs, logOf_congr (fun n _ h2 => h n h2)]
  refine ⟨hE, ?_, ?_, ?_⟩
  · rw [fndL, fndL, hE, hL]
  · rw [fndN, fndN, hE, hs, hL]
  · rw [fndP, fndP, hE, hs, hL]
/-- Does a log have a mark of a number or a later one? -/
def laterB (d : Dk) (N : Int) : Bool := (List.range 24).any fun i => decide ((stampDec (readT d ((i + 1 : Nat) : Int))).2 = 0) && decide (N ≤ (stampDec (readT d ((i + 1 : Nat) : Int))).1.seq)
theorem later_no {d : Dk} {N : Int} (h : laterB d N = false) (n : Nat) (h1 : 1 ≤ n) (h2 : n ≤ 24) : (stampDec (readT d n)).2 = 0 → (stampDec (readT d n)).1.seq < N := by
  intro he
  have hx := List.any_eq_false.1 h (n - 1) (List.mem_range.2 (by omega))
  rw [show n - 1 + 1 = n from by omega, he] at hx
  simp at hx
  omega
theorem super_range {p seq : Int} (h : goodM (superMk p seq) = 0) : (1 ≤ seq ∧ seq ≤ 2147483647) ∧ 0 ≤ p ∧ p ≤ 23 := by
  unfold goodM at h
  split at h
  · cases h
  · split at h
    · cases h
    · rename_i hx
      have : ¬ (seq < 1 ∨ 2147483647 < seq ∨ p < 0 ∨ 23 < p) := hx
      omega
/-- A log that begins anew. -/
theorem scan_new {X : Dk} {P N : Int} (hg : goodB X = true) (h0 : readT X 0 = encT (superMk P N)) (hm : goodM (superMk P N) = 0) (hl : ∀ n : Nat, 1 ≤ n → n ≤ 24 → (stampDec (readT X n)).2 = 0 → (stampDec (readT X n)).1.seq < N) : scanE X = 0 ∧ fndL X = [] ∧ fndN X = N ∧ fndP X = P := by
  have hs : superM X = superMk P N := by rw [superM, h0, dec_enc hm]
  obtain ⟨_, p1, p2⟩ := super_range hm
  have hE : scanE X = 0 := by
    have e1 : readE X 0 = 0 := good_readE hg (n := 0) (by omega)
    rw [scanE, e1, hs, h0, dec_enc hm, if_neg (by simp), if_neg (by simp [superMk])]
  have hL : scanL X = ([], 0) := by
    rw [scanL, hs]
    show scanP (logOf X P) 0 N [] = _
    rw [scanP]
    split
    · have hr : runT (logOf X P) N 0 (txOf N) = none := by
        rw [runT, dif_pos (by rw [logOf_length]; omega), logOf_at X P 0 (by omega), if_pos]
        have e : 1 + (P + ((0 : Nat) : Int)) % 24 = ((1 + P.toNat : Nat) : Int) := by omega
        rw [e]
        have := hl (1 + P.toNat) (by omega) (by omega)
        by_cases hx : (stampDec (readT X ((1 + P.toNat : Nat) : Int))).2 = 0
        · have := this hx
          exact .inr (.inl (by omega))
        · exact .inl hx
      rw [hr]
    · rfl
  refine ⟨hE, ?_, ?_, ?_⟩
  · rw [fndL, if_pos hE, hL]
  · rw [fndN, if_pos hE, hL, hs]; simp [superMk]
  · rw [fndP, if_pos hE, hL, hs]; simp [superMk]; omega

theorem asN_nodup (f : Int → Option ByteArray) (n : Nat) : ((asN f n).map (·.1)).Nodup := by
  induction n with
  | zero => simp [asN]
  | succ n ih =>
    rw [asN_snoc, List.map_append, List.nodup_append]
    refine ⟨ih, ?_, ?_⟩
    · unfold oneC; cases f n <;> simp
    · intro a ha b hb
      obtain ⟨x, hx, rfl⟩ := List.mem_map.1 ha
      obtain ⟨y, hy, rfl⟩ := List.mem_map.1 hb
      have h1 := (asN_mem hx).2.1
      unfold oneC at hy
      cases hf : f (n : Int) with
      | none => rw [hf] at hy; simp at hy
      | some s => rw [hf] at hy; simp at hy; subst hy; simp; omega
theorem newest_homes {l : List Tx} (hg : ∀ t ∈ l, goodX t = true) : Homes (newestL l) := by
  refine ⟨asN_nodup _ _, fun x hx => ?_, asN_length _ 12⟩
  obtain ⟨a, b, c⟩ := asN_mem hx
  exact ⟨a, by omega, newestF_good hg _ _ c⟩

/-- The steps that put right. -/
def putR (cs : List (Int × ByteArray)) (S : ByteArray) : List St := homeS cs ++ [writeS 0 S, flushS]
section
variable {cs : List (Int × ByteArray)} {S : ByteArray} {d : Dk}
theorem homeS_len (h : Homes cs) : (homeS cs).length ≤ 13 := by
  rw [homeS, List.length_append, homeM_length]
  have := h.2.2
  split <;> simp <;> omega
theorem putR_ok (h : Homes cs) (hS : fitsB S = true) : ∀ s ∈ putR cs S, StepOk s := by
  intro s hs
  rcases List.mem_append.1 hs with h1 | h1
  · exact (homes_steps h.2.1).1 s h1
  · rcases List.mem_cons.1 h1 with rfl | h2
    · exact .inr ⟨rfl, hS⟩
    · rw [List.mem_singleton.1 h2]; exact .inl rfl
/-- Behind what goes home. -/
theorem behind_homes (h : Homes cs) (hg : goodB d = true) (hw : d.wr = []) (ho : ∀ n : Nat, n < 25 → Only d n (readT d n)) : goodB (runK d (homeS cs)) = true ∧ (runK d (homeS cs)).wr.length ≤ 13 ∧ (∀ n : Nat, n < 25 → Only (runK d (homeS cs)) n (readT d n)) ∧ ∀ x ∈ cs, Only (runK d (homeS cs)) (25 + x.1).toNat x.2 := by
  have hl := homeS_len h
  have h1 := homes_steps h.2.1
  have h2 := run_good (homeS cs) d h1.1 hg (by rw [hw]; simp; omega)
  refine ⟨h2.1, by have := h2.2; rw [hw] at this; simp at this; omega, fun n hn => run_only (by omega) _ d h1.1 hg (by rw [hw]; simp; omega) (ho n hn) (h1.2 n hn), fun x hx => ?_⟩
  have hne : ¬ cs.length = 0 := by intro e; rw [List.eq_nil_of_length_eq_zero e] at hx; cases hx
  have hxb := h.2.1 x hx
  have hok : ∀ s ∈ homeM cs, StepOk s := fun s hs => h1.1 s (by rw [homeS]; exact List.mem_append.2 (.inl hs))
  have hlm : (homeM cs).length ≤ 12 := by rw [homeM_length]; exact h.2.2
  have h3 := run_good (homeM cs) d hok hg (by rw [hw]; simp; omega)
  rw [homeS, if_neg hne, runK_append]
  show Only (flushK (runK d (homeM cs))) _ _
  have h4 := only_flush h3.1 (n := (25 + x.1).toNat) (by omega)
  have e : (((25 + x.1).toNat : Nat) : Int) = 25 + x.1 := by omega
  have h5 := homes_done cs d h hg (by rw [hw]; have := h.2.2; simp; omega) x hx
  have h6 : readT (runK d (homeM cs)) ((25 + x.1).toNat : Nat) = x.2 := by
    rw [readT, h3.1, place_of (by omega), e]
    exact h5
  rwa [h6] at h4
/-- Behind all. -/
theorem behind_all (h : Homes cs) (hS : fitsB S = true) (hg : goodB d = true) (hw : d.wr = []) (ho : ∀ n : Nat, n < 25 → Only d n (readT d n)) : goodB (runK d (putR cs S)) = true ∧ Only (runK d (putR cs S)) 0 S ∧ (∀ n : Nat, 1 ≤ n → n < 25 → Only (runK d (putR cs S)) n (readT d n)) ∧ ∀ x ∈ cs, Only (runK d (putR cs S)) (25 + x.1).toNat x.2 := by
  obtain ⟨a1, a2, a3, a4⟩ := behind_homes h hg hw ho
  have he : putE (runK d (homeS cs)) 0 S = 0 := put_succ a1 rfl hS (by omega)
  have hg2 := good_put he
  have hl2 : (putK (runK d (homeS cs)) 0 S).wr.length < 200 := by rw [putK_ok he]; simp; omega
  have hr : runK d (putR cs S) = flushK (putK (runK d (homeS cs)) 0 S) := by rw [putR, runK_append]; rfl
  have hok : StepOk (writeS 0 S) := .inr ⟨rfl, hS⟩
  have keep : ∀ (n : Nat) (v : ByteArray), n < 37 → n ≠ 0 → Only (runK d (homeS cs)) n v → Only (runK d (putR cs S)) n v := by
    intro n v hn hne hv
    rw [hr]
    have h1 : Only (putK (runK d (homeS cs)) 0 S) n v := step_only hok a1 (by omega) hn hv (fun _ => by show (0 : Int) ≠ _; omega)
    have h2 := only_flush hg2 hn
    rwa [h1.read hg2 hn] at h2
  refine ⟨by rw [hr]; exact flush_gd hg2, ?_, fun n h1 h2 => keep n _ (by omega) (by omega) (a3 n h2), fun x hx => ?_⟩
  · rw [hr]
    have h2 := only_flush hg2 (n := 0) (by omega)
    have h3 := (read_put he).1
    have h4 : readT (putK (runK d (homeS cs)) 0 S) ((0 : Nat) : Int) = S := h3
    rwa [h4] at h2
  · have := h.2.1 x hx
    exact keep _ _ (by omega) (by omega) (a4 x hx)
/-- Wherever it stops. -/
theorem behind_some (h : Homes cs) (hS : fitsB S = true) (hg : goodB d = true) (hw : d.wr = []) (ho : ∀ n : Nat, n < 25 → Only d n (readT d n)) (k : Nat) : goodB (runK d ((putR cs S).take k)) = true ∧ (∀ n : Nat, 1 ≤ n → n < 25 → Only (runK d ((putR cs S).take k)) n (readT d n)) ∧
    ((k < (putR cs S).length ∧ Only (runK d ((putR cs S).take k)) 0 (readT d 0)) ∨ ((∀ s ∈ ways (runK d ((putR cs S).take k)) 0, (k < (putR cs S).length ∧ s = readT d 0) ∨ s = S) ∧ ∀ x ∈ cs, Only (runK d ((putR cs S).take k)) (25 + x.1).toNat x.2)) := by
  have hl := homeS_len h
  have hlen : (putR cs S).length = (homeS cs).length + 2 := by simp [putR]
  by_cases h1 : k ≤ (homeS cs).length
  · have e : (putR cs S).take k = (homeS cs).take k := by rw [putR, List.take_append_of_le_length h1]
    have hst := homes_steps h.2.1
    have hok : ∀ s ∈ (homeS cs).take k, StepOk s := fun s hs => hst.1 s (List.mem_of_mem_take hs)
    have hlk : d.wr.length + ((homeS cs).take k).length ≤ 200 := by rw [hw, List.length_take]; simp; omega
    rw [e]
    have key : ∀ n : Nat, n < 25 → Only (runK d ((homeS cs).take k)) n (readT d n) := fun n hn => run_only (by omega) _ d hok hg hlk (ho n hn) (fun s hs => hst.2 n hn s (List.mem_of_mem_take hs))
    exact ⟨(run_good _ d hok hg hlk).1, fun n _ h2 => key n h2, .inl ⟨by omega, key 0 (by omega)⟩⟩
  · obtain ⟨a1, a2, a3, a4⟩ := behind_homes h hg hw ho
    by_cases h2 : k = (homeS cs).length + 1
    · have e : (putR cs S).take k = homeS cs ++ [writeS 0 S] := by
        rw [putR, List.take_append, List.take_of_length_le (by omega), h2, show (homeS cs).length + 1 - (homeS cs).length = 1 from by omega]
        rfl
      have he : putE (runK d (homeS cs)) 0 S = 0 := put_succ a1 rfl hS (by omega)
      have hr : runK d ((putR cs S).take k) = putK (runK d (homeS cs)) 0 S := by rw [e, runK_append]; rfl
      have hok : StepOk (writeS 0 S) := .inr ⟨rfl, hS⟩
      have keep : ∀ (n : Nat) (v : ByteArray), n < 37 → n ≠ 0 → Only (runK d (homeS cs)) n v → Only (runK d ((putR cs S).take k)) n v := by
        intro n v hn hne hv
        rw [hr]
        exact step_only hok a1 (by omega) hn hv (fun _ => by show (0 : Int) ≠ _; omega)
      refine ⟨by rw [hr]; exact good_put he, fun n h3 h4 => keep n _ (by omega) (by omega) (a3 n h4), .inr ⟨fun s hs => ?_, fun x hx => ?_⟩⟩
      · rw [hr, ways_put he, if_pos (show (0 : Int) = ((0 : Nat) : Int) from rfl)] at hs
        rcases List.mem_append.1 hs with h5 | h5
        · exact .inl ⟨by omega, a3 0 (by omega) s h5⟩
        · exact .inr (List.mem_singleton.1 h5)
      · have := h.2.1 x hx
        exact keep _ _ (by omega) (by omega) (a4 x hx)
    · have e : (putR cs S).take k = putR cs S := List.take_of_length_le (by omega)
      rw [e]
      obtain ⟨b1, b2, b3, b4⟩ := behind_all h hS hg hw ho
      exact ⟨b1, b3, .inr ⟨fun s hs => .inr (b2 s hs), b4⟩⟩
end

/-- WHAT IS PUT RIGHT TWICE IS PUT RIGHT ONCE, of plain disks. -/
theorem twice_pure {D : Dk} (hE : scanE D = 0) (hw : D.wr = []) (hG : ∀ t ∈ fndL D, goodX t = true) (hlt : laterB D (fndN D) = false) {k : Nat} (hk : k ≤ (checkS (newestL (fndL D)) (fndP D) (fndN D)).length) {q : Int} (hq : 0 ≤ q) {R X : Dk} (hR : R = runK D ((checkS (newestL (fndL D)) (fndP D) (fndN D)).take k)) (hX : X = crashK R q) :
    crashE R q = 0 ∧ scanE X = 0 ∧ fndN X = fndN D ∧ fndP X = fndP D ∧ (∀ t ∈ fndL X, goodX t = true) ∧ (k < (checkS (newestL (fndL D)) (fndP D) (fndN D)).length ∨ fndL X = []) ∧
    ∀ Y, Y = runK X (checkS (newestL (fndL X)) (fndP X) (fndN X)) → (∀ x ∈ newestL (fndL D), readT Y (25 + x.1) = x.2) ∧ scanE Y = 0 ∧ fndL Y = [] ∧ fndN Y = fndN D ∧ fndP Y = fndP D := by
  have hck := check_ok hE hG
  obtain ⟨_, ⟨q1, q2⟩, p1, p2⟩ := fnd_facts hE
  have hgD := (scan_good2 hE).1
  have hm : goodM (superMk (fndP D) (fndN D)) = 0 := by
    by_cases hx : goodM (superMk (fndP D) (fndN D)) = 0
    · exact hx
    · rw [checkE, if_pos hx] at hck; exact absurd hck hx
  have hS : fitsB (encT (superMk (fndP D) (fndN D))) = true := by have := enc_size hm; simp [fitsB]; omega
  have hH := newest_homes hG
  have hST : checkS (newestL (fndL D)) (fndP D) (fndN D) = putR (newestL (fndL D)) (encT (superMk (fndP D) (fndN D))) := by rw [checkS, if_pos hck]; rfl
  have hoD : ∀ n : Nat, n < 25 → Only D n (readT D n) := by
    intro n hn
    obtain ⟨sf, wr⟩ := D
    simp only at hw
    subst hw
    exact only_safe hgD (by omega)
  rw [hST] at hk hR ⊢
  generalize hSe : encT (superMk (fndP D) (fndN D)) = S at *
  obtain ⟨r1, r2, r3⟩ := behind_some hH hS hgD hw hoD k
  rw [← hR] at r1 r2 r3
  have hd : decide (0 ≤ q) = true := by simpa using hq
  have hcE : crashE R q = 0 := by rw [crashE, r1, hd]; rfl
  have hXe : X = ⟨(crashL R q.toNat 37).1, []⟩ := by rw [hX, crashK, r1, hd]; rfl
  have gX : goodB X = true := by rw [hXe]; exact crash_good r1 _
  have hXw : X.wr = [] := by rw [hXe]
  have wX : ∀ n : Nat, n < 37 → readT X n ∈ ways R n := by
    intro n hn
    rw [hXe, read_safe (crash_good r1 _) hn]
    exact crash_at _ _ _ hn
  have oX : ∀ n : Nat, n < 25 → Only X n (readT X n) := by
    intro n hn
    rw [hXe]
    exact only_safe (crash_good r1 _) (by omega)
  have lX : ∀ n : Nat, 1 ≤ n → n ≤ 24 → readT X n = readT D n := fun n h1 h2 => r2 n h1 (by omega) _ (wX n (by omega))
  have lno : ∀ n : Nat, 1 ≤ n → n ≤ 24 → (stampDec (readT X n)).2 = 0 → (stampDec (readT X n)).1.seq < fndN D := fun n h1 h2 => by rw [lX n h1 h2]; exact later_no hlt n h1 h2
  -- what comes of a disk whose log begins anew
  have fin : ∀ Y : Dk, goodB Y = true → Only Y 0 S → (∀ n : Nat, 1 ≤ n → n < 25 → Only Y n (readT X n)) → scanE Y = 0 ∧ fndL Y = [] ∧ fndN Y = fndN D ∧ fndP Y = fndP D := by
    intro Y g0 h0 hl
    refine scan_new g0 (by rw [hSe]; exact h0.read g0 (by omega)) hm (fun n h1 h2 => ?_)
    have := (hl n h1 (by omega)).read g0 (by omega)
    rw [this]
    exact lno n h1 h2
  have old : k < (putR (newestL (fndL D)) S).length → readT X 0 = readT D 0 → scanE X = 0 ∧ fndL X = fndL D ∧ fndN X = fndN D ∧ fndP X = fndP D := by
    intro _ h0
    have := scan_congr gX hgD (fun n hn => by
      by_cases e : n = 0
      · subst e; exact h0
      · exact lX n (by omega) hn)
    exact ⟨this.1.trans hE, this.2⟩
  have endOld : readT X 0 = readT D 0 → k < (putR (newestL (fndL D)) S).length → _ := fun h0 hk2 => old hk2 h0
  by_cases hc : k < (putR (newestL (fndL D)) S).length ∧ readT X 0 = readT D 0
  · obtain ⟨s1, s2, s3, s4⟩ := old hc.1 hc.2
    refine ⟨hcE, s1, s3, s4, by rw [s2]; exact hG, .inl hc.1, fun Y hY => ?_⟩
    rw [s2, s3, s4, hST] at hY
    obtain ⟨y1, y2, y3, y4⟩ := behind_all hH hS gX hXw oX
    rw [← hY] at y1 y2 y3 y4
    refine ⟨fun x hx => ?_, fin Y y1 y2 y3⟩
    have hb := hH.2.1 x hx
    have := (y4 x hx).read y1 (by omega)
    rwa [show (((25 + x.1).toNat : Nat) : Int) = 25 + x.1 from by omega] at this
  · have h0 : readT X 0 ∈ ways R 0 := wX 0 (by omega)
    obtain ⟨z1, z2⟩ : readT X 0 = S ∧ ∀ x ∈ newestL (fndL D), readT X (25 + x.1) = x.2 := by
      rcases r3 with ⟨h1, h2⟩ | ⟨h1, h2⟩
      · exact absurd ⟨h1, h2 _ h0⟩ hc
      · rcases h1 _ h0 with h3 | h3
        · exact absurd h3 hc
        · refine ⟨h3, fun x hx => ?_⟩
          have hb := hH.2.1 x hx
          have := h2 x hx _ (wX (25 + x.1).toNat (by omega))
          rwa [show (((25 + x.1).toNat : Nat) : Int) = 25 + x.1 from by omega] at this
    obtain ⟨s1, s2, s3, s4⟩ := scan_new gX (by rw [hSe]; exact z1) hm lno
    refine ⟨hcE, s1, s3, s4, (by rw [s2]; intro t ht; cases ht), .inr s2, fun Y hY => ?_⟩
    rw [s2, s3, s4] at hY
    have hck0 : checkE (newestL []) (fndP D) (fndN D) = 0 := by rw [checkE, hm]; rfl
    have hH0 : Homes (newestL []) := newest_homes (fun t ht => by cases ht)
    have e0 : checkS (newestL []) (fndP D) (fndN D) = putR (newestL []) S := by rw [checkS, if_pos hck0, hSe]; rfl
    rw [e0] at hY
    obtain ⟨y1, y2, y3, _⟩ := behind_all hH0 hS gX hXw oX
    rw [← hY] at y1 y2 y3
    refine ⟨fun x hx => ?_, fin Y y1 y2 y3⟩
    have hb := hH.2.1 x hx
    have hr := (runK_read (25 + x.1).toNat (by omega) (putR (newestL []) S) X gX (fun s hs hk2 => by
      have e1 : putR (newestL []) S = [writeS 0 S, flushS] := rfl
      rw [e1] at hs
      rcases List.mem_cons.1 hs with rfl | h5
      · show (0 : Int) ≠ _
        omega
      · rw [List.mem_singleton.1 h5] at hk2; exact absurd rfl hk2)).1
    rw [← hY, show (((25 + x.1).toNat : Nat) : Int) = 25 + x.1 from by omega] at hr
    rw [hr]
    exact z2 x hx

end Go.Proofs.YtjnpndfpajjihabGreat
