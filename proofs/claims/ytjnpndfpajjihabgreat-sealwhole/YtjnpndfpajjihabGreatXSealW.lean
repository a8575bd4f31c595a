/-
  The walk of the statement SealWhole: it says true at every disk, transaction and two numbers.
-/
import Derived.Test.YtjnpndfpajjihabGreatGrSealWhole43
import Derived.Test.YtjnpndfpajjihabGreatGrSealWhole46
import Derived.Test.YtjnpndfpajjihabGreatXTwiceS
import Derived.Test.YtjnpndfpajjihabGreatRInv
import Derived.Deep.RegionHeld3
namespace Go.Proofs.YtjnpndfpajjihabGreat
open Go.RowKit

def SealOk (D : Dk) (ST : List St) (L : List Tx) (u : Tx) : Prop :=
  ∀ (k : Nat) (q : Int) (R X : Dk), k ≤ ST.length → 0 ≤ q → R = runK D (ST.take k) → X = crashK R q → crashE R q = 0 ∧ scanE X = 0 ∧ ((fndL X = L ∧ k < ST.length) ∨ (fndL X = L ++ [toldOf u] ∧ ST.length ≤ k + 1))
theorem seal_ok {D : Dk} {u : Tx} {L : List Tx} {P N U : Int} (hE : scanE D = 0) (hw : D.wr = []) (hlt : laterB D (fndN D) = false) (hN : N < 2147483646) (hq : u.seq = N) (hL : L = fndL D) (hP : P = fndP D) (hN2 : N = fndN D) (hU : U = usedN D) (hS : sealE P U u = 0) : SealOk D (commitS P U u) L u := by
  subst hL hP hN2 hU
  intro k q R X hk hq0 hR hX
  exact seal_pure hE hw hlt hN hq hS hk hq0 hR hX
theorem commit_u (P U N : Int) (t u : Tx) (hu : u = ⟨N, t.info, t.data, t.rev, t.h0, t.h1, t.h2⟩) (a0 a2 a4 : Option Addr) (a1 a3 a5 : Nat) (w : World) (hT : IsTx w (.agg #[.int .i64 N, .slice a0 t.info.length a1, .slice a2 t.data.length a3, .slice a4 t.rev.length a5, .bool t.h0.on, .int .i64 t.h0.left, .bool t.h1.on, .int .i64 t.h1.left, .bool t.h2.on, .int .i64 t.h2.left]) u) (hci : t.info.length ≤ a1) (hcr : t.rev.length ≤ a5) (r1 : t.info.length * 24 ≤ 140737488355328) (r2 : t.data.length * 24 ≤ 140737488355328) :
    Calls Tryz.prog 16 #[.agg #[.int .i64 P, .int .i64 U], .agg #[.int .i64 N, .slice a0 t.info.length a1, .slice a2 t.data.length a3, .slice a4 t.rev.length a5, .bool t.h0.on, .int .i64 t.h0.left, .bool t.h1.on, .int .i64 t.h1.left, .bool t.h2.on, .int .i64 t.h2.left]] w fun e w' => ∃ a c, e = .returned (.tuple #[.agg #[.int .i64 (sealH P U u), .int .i64 (sealU P U u)], .slice a (commitS P U u).length c, .int .i64 (sealE P U u)]) ∧ (commitS P U u).length ≤ c ∧ SegSt w' a (commitS P U u) ∧ Below w.heap.size w w' := by
  subst hu
  exact commit_cap P U ⟨N, t.info, t.data, t.rev, t.h0, t.h1, t.h2⟩ a0 a2 a4 a1 a3 a5 w hT hci hcr r1 r2
/-- What each operation of the region leaves. -/
def sealPsi (w8 : World) (B0 : Nat) (DV : Value) (FV : Value) (TV : Value) (P : Int) (U : Int) (H : Int) (V : Int) (E : Int) (ST : List St) : Nat → Value → World → Prop
  | 0, v, _ => v = .pointer (some ⟨B0, 2, none⟩)
  | 1, v, _ => v = .int .i64 P
  | 2, v, _ => v = DV
  | 3, v, _ => v = FV
  | 4, v, _ => v = .int .i64 U
  | 5, v, _ => v = .agg #[.int .i64 P, .int .i64 U]
  | 6, v, _ => v = TV
  | 7, v, w => ∃ a c, v = .tuple #[.agg #[.int .i64 H, .int .i64 V], .slice a ST.length c, .int .i64 E] ∧ ST.length ≤ c ∧ SegSt w a ST
  | 8, v, w => ∃ a c, v = .tuple #[.agg #[.int .i64 H, .int .i64 V], .slice a ST.length c, .int .i64 E] ∧ ST.length ≤ c ∧ SegSt w a ST
  | 9, v, _ => v = .agg #[.int .i64 H, .int .i64 V]
  | 10, v, w => ∃ a c, v = .slice a ST.length c ∧ ST.length ≤ c ∧ SegSt w a ST
  | 11, v, _ => v = .int .i64 E
  | 12, v, w => ∃ T x0 x1, v = .pointer (some ⟨T, 0, none⟩) ∧ w8.heap.size ≤ T ∧ w.heap[T]? = some (.cells #[.int .i64 x0, .int .i64 x1] 41 (0, 0))
  | 13, v, w => ∃ T x0 x1, v = .pointer (some ⟨T, 0, none⟩) ∧ w8.heap.size ≤ T ∧ w.heap[T]? = some (.cells #[.int .i64 x0, .int .i64 x1] 41 (0, 0))
  | 14, v, w => ∃ a c, v = .slice a ST.length c ∧ ST.length ≤ c ∧ SegSt w a ST
  | 15, v, _ => v = .int .i64 E
  | _, _, _ => True
theorem sealPsi_below {w8 : World} {B0 : Nat} {DV : Value} {FV : Value} {TV : Value} {P : Int} {U : Int} {H : Int} {V : Int} {E : Int} {ST : List St} {w w' : World} (hb : Below w.heap.size w w') {i : Nat} : ∀ j u, j ≠ i → sealPsi w8 B0 DV FV TV P U H V E ST j u w → sealPsi w8 B0 DV FV TV P U H V E ST j u w' := by
  intro j u _ h
  match j, h with
  | 0, h => exact h
  | 1, h => exact h
  | 2, h => exact h
  | 3, h => exact h
  | 4, h => exact h
  | 5, h => exact h
  | 6, h => exact h
  | 7, ⟨a, c, h1, h2, h3⟩ => exact ⟨a, c, h1, h2, h3.below hb⟩
  | 8, ⟨a, c, h1, h2, h3⟩ => exact ⟨a, c, h1, h2, h3.below hb⟩
  | 9, h => exact h
  | 10, ⟨a, c, h1, h2, h3⟩ => exact ⟨a, c, h1, h2, h3.below hb⟩
  | 11, h => exact h
  | 12, ⟨T, x0, x1, h1, h2, h3⟩ => exact ⟨T, x0, x1, h1, h2, boxKeep hb (Array.getElem?_eq_some_iff.1 h3).1 h3⟩
  | 13, ⟨T, x0, x1, h1, h2, h3⟩ => exact ⟨T, x0, x1, h1, h2, boxKeep hb (Array.getElem?_eq_some_iff.1 h3).1 h3⟩
  | 14, ⟨a, c, h1, h2, h3⟩ => exact ⟨a, c, h1, h2, h3.below hb⟩
  | 15, h => exact h
  | _ + 16, _ => exact trivial
theorem SegSt.setInts {w : World} {a : Option Addr} {l : List St} {T : Nat} {x0 x1 : Int} {ty : TypeId} (h : SegSt w a l) (hB : w.heap[T]? = some (.cells #[.int .i64 x0, .int .i64 x1] ty (0, 0))) (k : Nat) (v : Value) : SegSt (w.setCell ⟨T, k, none⟩ v) a l := by
  rcases h with e | ⟨b, off, rfl, hlt, hc⟩
  · exact .inl e
  · by_cases h0 : l.length = 0
    · exact .inl (List.eq_nil_of_length_eq_zero h0)
    · have hne : b ≠ T := by
        intro e
        subst e
        have h2 := (hc 0 (by omega)).2.2
        rw [cell_of_row w _ _ _ _ _ hB] at h2
        match off, h2 with
        | 0, h2 => simp at h2
        | o + 1, h2 => simp at h2
      refine .inr ⟨b, off, rfl, by simpa [World.setCell] using hlt, fun i hi => ?_⟩
      obtain ⟨q1, q2, q3⟩ := hc i hi
      exact ⟨cellSet q1 (by simpa using hne), cellSet q2 (by simpa using hne), cellSet q3 (by simpa using hne)⟩
theorem sealPsi_store {w8 : World} {B0 : Nat} {DV : Value} {FV : Value} {TV : Value} {P : Int} {U : Int} {H : Int} {V : Int} {E : Int} {ST : List St} {w : World} {T : Nat} {x0 x1 : Int} (hB : w.heap[T]? = some (.cells #[.int .i64 x0, .int .i64 x1] 41 (0, 0))) (y0 y1 : Int) : ∀ j u, j ≠ 13 → sealPsi w8 B0 DV FV TV P U H V E ST j u w → sealPsi w8 B0 DV FV TV P U H V E ST j u ((w.setCell ⟨T, 0, none⟩ (.int .i64 y0)).setCell ⟨T, 1, none⟩ (.int .i64 y1)) := by
  intro j u hj h
  have k : ∀ {a : Option Addr} {l : List St}, SegSt w a l → SegSt ((w.setCell ⟨T, 0, none⟩ (.int .i64 y0)).setCell ⟨T, 1, none⟩ (.int .i64 y1)) a l := fun h => (h.setInts hB 0 _).setInts (heap_setCell_same _ _ 0 _ _ (.int .i64 y0) hB) 1 _
  match j, h with
  | 0, h => exact h
  | 1, h => exact h
  | 2, h => exact h
  | 3, h => exact h
  | 4, h => exact h
  | 5, h => exact h
  | 6, h => exact h
  | 7, ⟨a, c, h1, h2, h3⟩ => exact ⟨a, c, h1, h2, k h3⟩
  | 8, ⟨a, c, h1, h2, h3⟩ => exact ⟨a, c, h1, h2, k h3⟩
  | 9, h => exact h
  | 10, ⟨a, c, h1, h2, h3⟩ => exact ⟨a, c, h1, h2, k h3⟩
  | 11, h => exact h
  | 12, ⟨T', d0, d1, h1, h2, h3⟩ =>
    by_cases e : T' = T
    · subst e; exact ⟨T', _, _, h1, h2, stored2 hB _ _⟩
    · exact ⟨T', d0, d1, h1, h2, by rw [Below.heap_setCell _ _ _ _ e, Below.heap_setCell _ _ _ _ e]; exact h3⟩
  | 13, _ => exact absurd rfl hj
  | 14, ⟨a, c, h1, h2, h3⟩ => exact ⟨a, c, h1, h2, k h3⟩
  | 15, h => exact h
  | _ + 16, _ => exact trivial
/-- What each operation of the region leaves. -/
def crPsi (w8 : World) (DV : Value) (SV : Value) (SK : Value) (kn : Int) (dr : Int) (q : Int) (R : Dk) (X : Dk) : Nat → Value → World → Prop
  | 0, v, _ => v = DV
  | 1, v, _ => v = SV
  | 2, v, _ => v = .int .i64 kn
  | 3, v, _ => v = SK
  | 4, v, w => IsDk w v R
  | 5, v, _ => v = .int .i64 dr
  | 6, v, _ => v = .int .i64 q
  | 7, v, w => ∃ u, v = .tuple #[u, .int .i64 0] ∧ IsDk w u X
  | 8, v, w => ∃ u, v = .tuple #[u, .int .i64 0] ∧ IsDk w u X
  | 9, v, w => IsDk w v X
  | 10, v, _ => v = .int .i64 0
  | 11, v, w => ∃ T a1 n1 c1 a2 n2 c2, v = .pointer (some ⟨T, 0, none⟩) ∧ w8.heap.size ≤ T ∧ w.heap[T]? = some (.cells #[.slice a1 n1 c1, .slice a2 n2 c2] 58 (0, 0))
  | 12, v, w => ∃ T a1 n1 c1 a2 n2 c2, v = .pointer (some ⟨T, 0, none⟩) ∧ w8.heap.size ≤ T ∧ w.heap[T]? = some (.cells #[.slice a1 n1 c1, .slice a2 n2 c2] 58 (0, 0)) ∧ IsDk w (.agg #[.slice a1 n1 c1, .slice a2 n2 c2]) X
  | 13, v, _ => v = .int .i64 0
  | _, _, _ => True
theorem crPsi_below {w8 : World} {DV : Value} {SV : Value} {SK : Value} {kn : Int} {dr : Int} {q : Int} {R : Dk} {X : Dk} {w w' : World} (hb : Below w.heap.size w w') {i : Nat} : ∀ j u, j ≠ i → crPsi w8 DV SV SK kn dr q R X j u w → crPsi w8 DV SV SK kn dr q R X j u w' := by
  intro j u _ h
  match j, h with
  | 0, h => exact h
  | 1, h => exact h
  | 2, h => exact h
  | 3, h => exact h
  | 4, h => exact IsDk.below h hb
  | 5, h => exact h
  | 6, h => exact h
  | 7, ⟨x, h1, h2⟩ => exact ⟨x, h1, h2.below hb⟩
  | 8, ⟨x, h1, h2⟩ => exact ⟨x, h1, h2.below hb⟩
  | 9, h => exact IsDk.below h hb
  | 10, h => exact h
  | 11, ⟨T, a1, n1, c1, a2, n2, c2, h1, h2, h3⟩ => exact ⟨T, a1, n1, c1, a2, n2, c2, h1, h2, boxKeep hb (Array.getElem?_eq_some_iff.1 h3).1 h3⟩
  | 12, ⟨T, a1, n1, c1, a2, n2, c2, h1, h2, h3, h4⟩ => exact ⟨T, a1, n1, c1, a2, n2, c2, h1, h2, boxKeep hb (Array.getElem?_eq_some_iff.1 h3).1 h3, h4.below hb⟩
  | 13, h => exact h
  | _ + 14, _ => exact trivial
theorem crPsi_store {w8 : World} {DV : Value} {SV : Value} {SK : Value} {kn : Int} {dr : Int} {q : Int} {R : Dk} {X : Dk} {w : World} {T : Nat} {a1 a2 : Option Addr} {n1 c1 n2 c2 : Nat} (hB : w.heap[T]? = some (.cells #[.slice a1 n1 c1, .slice a2 n2 c2] 58 (0, 0))) (b1 b2 : Option Addr) (m1 k1 m2 k2 : Nat) : ∀ j u, j ≠ 12 → crPsi w8 DV SV SK kn dr q R X j u w → crPsi w8 DV SV SK kn dr q R X j u ((w.setCell ⟨T, 0, none⟩ (.slice b1 m1 k1)).setCell ⟨T, 1, none⟩ (.slice b2 m2 k2)) := by
  intro j u hj h
  have k : ∀ {v : Value} {d : Dk}, IsDk w v d → IsDk ((w.setCell ⟨T, 0, none⟩ (.slice b1 m1 k1)).setCell ⟨T, 1, none⟩ (.slice b2 m2 k2)) v d := fun h => (h.setBox hB 0 _).setBox (heap_setCell_same _ _ 0 _ _ (.slice b1 m1 k1) hB) 1 _
  match j, h with
  | 0, h => exact h
  | 1, h => exact h
  | 2, h => exact h
  | 3, h => exact h
  | 4, h => exact k h
  | 5, h => exact h
  | 6, h => exact h
  | 7, ⟨x, h1, h2⟩ => exact ⟨x, h1, k h2⟩
  | 8, ⟨x, h1, h2⟩ => exact ⟨x, h1, k h2⟩
  | 9, h => exact k h
  | 10, h => exact h
  | 11, ⟨T', d0, d1, d2, d3, d4, d5, h1, h2, h3⟩ =>
    by_cases e : T' = T
    · subst e; exact ⟨T', _, _, _, _, _, _, h1, h2, stored2 hB _ _⟩
    · exact ⟨T', d0, d1, d2, d3, d4, d5, h1, h2, by rw [Below.heap_setCell _ _ _ _ e, Below.heap_setCell _ _ _ _ e]; exact h3⟩
  | 12, _ => exact absurd rfl hj
  | 13, h => exact h
  | _ + 14, _ => exact trivial
/-- What each operation of the region leaves. -/
def endPsiFTT (SV : Value) (kn : Int) (sl : Int) : Nat → Value → World → Prop
  | 0, v, _ => v = .bool false
  | 1, v, _ => v = .bool true
  | 2, v, _ => v = .bool true
  | 3, _, _ => True
  | 4, _, _ => True
  | 5, _, _ => True
  | 6, _, _ => True
  | 7, _, _ => True
  | 8, _, _ => True
  | 9, _, _ => True
  | 10, _, _ => True
  | 11, _, _ => True
  | 12, v, _ => v = .bool true
  | 13, v, _ => v = .bool true
  | 14, v, _ => v = .int .i64 kn
  | 15, v, _ => v = SV
  | 16, v, _ => v = .int .i64 sl
  | 17, v, _ => v = .bool true
  | 18, v, _ => v = .bool true
  | 19, _, _ => True
  | 20, v, _ => v = .bool true
  | 21, v, _ => v = .bool true
  | 22, v, _ => v = .bool true
  | 23, v, _ => v = .int .i64 kn
  | 24, v, _ => v = SV
  | 25, v, _ => v = .int .i64 sl
  | 26, v, _ => v = .int .i64 (sl - 1)
  | 27, v, _ => v = .bool true
  | 28, v, _ => v = .bool true
  | 29, _, _ => True
  | 30, _, _ => True
  | 31, v, _ => v = .bool true
  | 32, v, _ => v = .bool true
  | 33, v, _ => v = .bool true
  | _, _, _ => True
theorem endPsiFTT_below {SV : Value} {kn : Int} {sl : Int} {w w' : World} (_hb : Below w.heap.size w w') {i : Nat} : ∀ j u, j ≠ i → endPsiFTT SV kn sl j u w → endPsiFTT SV kn sl j u w' := by
  intro j u _ h
  match j, h with
  | 0, h => exact h
  | 1, h => exact h
  | 2, h => exact h
  | 3, h => exact h
  | 4, h => exact h
  | 5, h => exact h
  | 6, h => exact h
  | 7, h => exact h
  | 8, h => exact h
  | 9, h => exact h
  | 10, h => exact h
  | 11, h => exact h
  | 12, h => exact h
  | 13, h => exact h
  | 14, h => exact h
  | 15, h => exact h
  | 16, h => exact h
  | 17, h => exact h
  | 18, h => exact h
  | 19, h => exact h
  | 20, h => exact h
  | 21, h => exact h
  | 22, h => exact h
  | 23, h => exact h
  | 24, h => exact h
  | 25, h => exact h
  | 26, h => exact h
  | 27, h => exact h
  | 28, h => exact h
  | 29, h => exact h
  | 30, h => exact h
  | 31, h => exact h
  | 32, h => exact h
  | 33, h => exact h
  | _ + 34, _ => exact trivial

/-- What each operation of the region leaves. -/
def endPsiFTF (SV : Value) (kn : Int) (sl : Int) : Nat → Value → World → Prop
  | 0, v, _ => v = .bool false
  | 1, v, _ => v = .bool true
  | 2, v, _ => v = .bool true
  | 3, _, _ => True
  | 4, _, _ => True
  | 5, _, _ => True
  | 6, _, _ => True
  | 7, _, _ => True
  | 8, _, _ => True
  | 9, _, _ => True
  | 10, _, _ => True
  | 11, _, _ => True
  | 12, v, _ => v = .bool true
  | 13, v, _ => v = .bool true
  | 14, v, _ => v = .int .i64 kn
  | 15, v, _ => v = SV
  | 16, v, _ => v = .int .i64 sl
  | 17, v, _ => v = .bool true
  | 18, v, _ => v = .bool true
  | 19, _, _ => True
  | 20, v, _ => v = .bool true
  | 21, v, _ => v = .bool true
  | 22, v, _ => v = .bool true
  | 23, v, _ => v = .int .i64 kn
  | 24, v, _ => v = SV
  | 25, v, _ => v = .int .i64 sl
  | 26, v, _ => v = .int .i64 (sl - 1)
  | 27, v, _ => v = .bool false
  | 28, v, _ => v = .bool false
  | 29, v, _ => v = .bool false
  | 30, v, _ => v = .bool true
  | 31, v, _ => v = .bool true
  | 32, v, _ => v = .bool true
  | 33, v, _ => v = .bool true
  | _, _, _ => True
theorem endPsiFTF_below {SV : Value} {kn : Int} {sl : Int} {w w' : World} (_hb : Below w.heap.size w w') {i : Nat} : ∀ j u, j ≠ i → endPsiFTF SV kn sl j u w → endPsiFTF SV kn sl j u w' := by
  intro j u _ h
  match j, h with
  | 0, h => exact h
  | 1, h => exact h
  | 2, h => exact h
  | 3, h => exact h
  | 4, h => exact h
  | 5, h => exact h
  | 6, h => exact h
  | 7, h => exact h
  | 8, h => exact h
  | 9, h => exact h
  | 10, h => exact h
  | 11, h => exact h
  | 12, h => exact h
  | 13, h => exact h
  | 14, h => exact h
  | 15, h => exact h
  | 16, h => exact h
  | 17, h => exact h
  | 18, h => exact h
  | 19, h => exact h
  | 20, h => exact h
  | 21, h => exact h
  | 22, h => exact h
  | 23, h => exact h
  | 24, h => exact h
  | 25, h => exact h
  | 26, h => exact h
  | 27, h => exact h
  | 28, h => exact h
  | 29, h => exact h
  | 30, h => exact h
  | 31, h => exact h
  | 32, h => exact h
  | 33, h => exact h
  | _ + 34, _ => exact trivial

/-- What each operation of the region leaves. -/
def endPsiTTT (XS : Value) (FS : Value) (TK : Value) (TN : Value) (SV : Value) (ix : Value) (nL : Int) (kn : Int) (sl : Int) (G : Nat) (F : Nat) : Nat → Value → World → Prop
  | 0, v, _ => v = .bool true
  | 1, v, _ => v = .bool false
  | 2, v, _ => v = .bool false
  | 3, v, _ => v = .pointer (some ⟨G, 0, none⟩)
  | 4, v, _ => v = XS
  | 5, v, _ => v = .pointer (some ⟨F, 0, none⟩)
  | 6, v, _ => v = FS
  | 7, v, _ => v = .int .i64 nL
  | 8, v, _ => v = ix
  | 9, v, _ => v = TK
  | 10, v, _ => v = TN
  | 11, v, _ => v = .bool true
  | 12, v, _ => v = .bool true
  | 13, v, _ => v = .bool true
  | 14, v, _ => v = .int .i64 kn
  | 15, v, _ => v = SV
  | 16, v, _ => v = .int .i64 sl
  | 17, v, _ => v = .bool true
  | 18, v, _ => v = .bool true
  | 19, _, _ => True
  | 20, v, _ => v = .bool true
  | 21, v, _ => v = .bool true
  | 22, v, _ => v = .bool true
  | 23, v, _ => v = .int .i64 kn
  | 24, v, _ => v = SV
  | 25, v, _ => v = .int .i64 sl
  | 26, v, _ => v = .int .i64 (sl - 1)
  | 27, v, _ => v = .bool true
  | 28, v, _ => v = .bool true
  | 29, _, _ => True
  | 30, _, _ => True
  | 31, v, _ => v = .bool true
  | 32, v, _ => v = .bool true
  | 33, v, _ => v = .bool true
  | _, _, _ => True
theorem endPsiTTT_below {XS : Value} {FS : Value} {TK : Value} {TN : Value} {SV : Value} {ix : Value} {nL : Int} {kn : Int} {sl : Int} {G : Nat} {F : Nat} {w w' : World} (_hb : Below w.heap.size w w') {i : Nat} : ∀ j u, j ≠ i → endPsiTTT XS FS TK TN SV ix nL kn sl G F j u w → endPsiTTT XS FS TK TN SV ix nL kn sl G F j u w' := by
  intro j u _ h
  match j, h with
  | 0, h => exact h
  | 1, h => exact h
  | 2, h => exact h
  | 3, h => exact h
  | 4, h => exact h
  | 5, h => exact h
  | 6, h => exact h
  | 7, h => exact h
  | 8, h => exact h
  | 9, h => exact h
  | 10, h => exact h
  | 11, h => exact h
  | 12, h => exact h
  | 13, h => exact h
  | 14, h => exact h
  | 15, h => exact h
  | 16, h => exact h
  | 17, h => exact h
  | 18, h => exact h
  | 19, h => exact h
  | 20, h => exact h
  | 21, h => exact h
  | 22, h => exact h
  | 23, h => exact h
  | 24, h => exact h
  | 25, h => exact h
  | 26, h => exact h
  | 27, h => exact h
  | 28, h => exact h
  | 29, h => exact h
  | 30, h => exact h
  | 31, h => exact h
  | 32, h => exact h
  | 33, h => exact h
  | _ + 34, _ => exact trivial

/-- What each operation of the region leaves. -/
def endPsiTFT (XS : Value) (FS : Value) (TK : Value) (TN : Value) (SV : Value) (ix : Value) (nL : Int) (kn : Int) (sl : Int) (G : Nat) (F : Nat) : Nat → Value → World → Prop
  | 0, v, _ => v = .bool true
  | 1, v, _ => v = .bool false
  | 2, v, _ => v = .bool false
  | 3, v, _ => v = .pointer (some ⟨G, 0, none⟩)
  | 4, v, _ => v = XS
  | 5, v, _ => v = .pointer (some ⟨F, 0, none⟩)
  | 6, v, _ => v = FS
  | 7, v, _ => v = .int .i64 nL
  | 8, v, _ => v = ix
  | 9, v, _ => v = TK
  | 10, v, _ => v = TN
  | 11, v, _ => v = .bool true
  | 12, v, _ => v = .bool true
  | 13, v, _ => v = .bool true
  | 14, v, _ => v = .int .i64 kn
  | 15, v, _ => v = SV
  | 16, v, _ => v = .int .i64 sl
  | 17, v, _ => v = .bool false
  | 18, v, _ => v = .bool false
  | 19, v, _ => v = .bool true
  | 20, v, _ => v = .bool true
  | 21, v, _ => v = .bool true
  | 22, v, _ => v = .bool true
  | 23, v, _ => v = .int .i64 kn
  | 24, v, _ => v = SV
  | 25, v, _ => v = .int .i64 sl
  | 26, v, _ => v = .int .i64 (sl - 1)
  | 27, v, _ => v = .bool true
  | 28, v, _ => v = .bool true
  | 29, _, _ => True
  | 30, _, _ => True
  | 31, v, _ => v = .bool true
  | 32, v, _ => v = .bool true
  | 33, v, _ => v = .bool true
  | _, _, _ => True
theorem endPsiTFT_below {XS : Value} {FS : Value} {TK : Value} {TN : Value} {SV : Value} {ix : Value} {nL : Int} {kn : Int} {sl : Int} {G : Nat} {F : Nat} {w w' : World} (_hb : Below w.heap.size w w') {i : Nat} : ∀ j u, j ≠ i → endPsiTFT XS FS TK TN SV ix nL kn sl G F j u w → endPsiTFT XS FS TK TN SV ix nL kn sl G F j u w' := by
  intro j u _ h
  match j, h with
  | 0, h => exact h
  | 1, h => exact h
  | 2, h => exact h
  | 3, h => exact h
  | 4, h => exact h
  | 5, h => exact h
  | 6, h => exact h
  | 7, h => exact h
  | 8, h => exact h
  | 9, h => exact h
  | 10, h => exact h
  | 11, h => exact h
  | 12, h => exact h
  | 13, h => exact h
  | 14, h => exact h
  | 15, h => exact h
  | 16, h => exact h
  | 17, h => exact h
  | 18, h => exact h
  | 19, h => exact h
  | 20, h => exact h
  | 21, h => exact h
  | 22, h => exact h
  | 23, h => exact h
  | 24, h => exact h
  | 25, h => exact h
  | 26, h => exact h
  | 27, h => exact h
  | 28, h => exact h
  | 29, h => exact h
  | 30, h => exact h
  | 31, h => exact h
  | 32, h => exact h
  | 33, h => exact h
  | _ + 34, _ => exact trivial

set_option maxHeartbeats 16000000 in
set_option maxRecDepth 100000 in
theorem seal_walk (v : Value) (d : Dk) (t : Tx) (a0 a2 a4 : Option Addr) (a1 a3 a5 : Nat) (st dr : Int) (w : World) (h : IsDk w v d) (hT : IsTx w (.agg #[.int .i64 t.seq, .slice a0 t.info.length a1, .slice a2 t.data.length a3, .slice a4 t.rev.length a5, .bool t.h0.on, .int .i64 t.h0.left, .bool t.h1.on, .int .i64 t.h1.left, .bool t.h2.on, .int .i64 t.h2.left]) t) (hci : t.info.length ≤ a1) (hcr : t.rev.length ≤ a5) (hr1 : t.info.length * 24 ≤ 140737488355328) (hr2 : t.data.length * 24 ≤ 140737488355328) (hs0 : -9223372036854775808 ≤ st) (hs1 : st ≤ 9223372036854775807) (hd0 : -9223372036854775808 ≤ dr) (hd1 : dr ≤ 9223372036854775807) :
    Calls Tryz.prog 6 #[v, .agg #[.int .i64 t.seq, .slice a0 t.info.length a1, .slice a2 t.data.length a3, .slice a4 t.rev.length a5, .bool t.h0.on, .int .i64 t.h0.left, .bool t.h1.on, .int .i64 t.h1.left, .bool t.h2.on, .int .i64 t.h2.left], .int .i64 st, .int .i64 dr] w fun e w' => e = .returned (.bool true) ∧ Below w.heap.size w w' := by
  have HD0 := hide h
  have HT0 := hide hT
  clear hT
  obtain ⟨x, cx, y, cy, rfl, _, _, _, _⟩ := h
  go_enter Tryz.func6, Tryz.ntmps6
  go_wp2_with fail
  refine (flush_any _ d _ (HD0.out.below (bthen (below1 _ _) (below1 _ _)))).mono ?_
  rintro e w1 ⟨v1, rfl, hD1, _, hb⟩
  have HD1 := hide hD1
  obtain ⟨e1, e2, e3, e4, rfl, _, _, _, _⟩ := hD1
  have KB := hide (two1 hb)
  have KT := hide (two2 hb)
  have hs1' : w.heap.size + 1 < w1.heap.size := by have := hb.size; simp at this; omega
  have HB1 := hide (bthen (bthen (below1 _ _) (below1 _ _)) hb)
  obtain ⟨⟨y0, y1⟩, yf⟩ := box2 KB.out
  obtain ⟨D, hD⟩ : ∃ D, D = flushK d := ⟨_, rfl⟩
  have HWR : Hid (scanE D = 0 → D.wr = []) := by rw [hD]; exact scan_wr
  rw [← hD] at HD1 ⊢
  clear hb hD HD0
  generalize flushE d = E0
  generalize hn1 : D.safe.length = n1 at *
  generalize hn2 : D.wr.length = n2 at *
  have HN1 := hide hn1
  have HN2 := hide hn2
  clear hn1 hn2
  go_wp2_with fail
  obtain ⟨W1, hW1⟩ : ∃ W1, W1 = ((w1.setCell ⟨w.heap.size, 0, none⟩ (.slice e1 n1 e2)).setCell ⟨w.heap.size, 1, none⟩ (.slice e3 n2 e4)) := ⟨_, rfl⟩
  have KB1 : Hid (W1.heap[w.heap.size]? = some (.cells #[.slice e1 n1 e2, .slice e3 n2 e4] 58 (0, 0))) := by rw [hW1]; exact stored2 KB.out _ _
  have KT1 : Hid (W1.heap[w.heap.size + 1]? = some (.cells #[.int .i64 t.seq, .slice a0 t.info.length a1, .slice a2 t.data.length a3, .slice a4 t.rev.length a5, .bool t.h0.on, .int .i64 t.h0.left, .bool t.h1.on, .int .i64 t.h1.left, .bool t.h2.on, .int .i64 t.h2.left] 28 (0, 0))) := by rw [hW1]; exact (Below.heap_setCell _ _ _ _ (by simp)).trans ((Below.heap_setCell _ _ _ _ (by simp)).trans KT.out)
  have HD2 : Hid (IsDk W1 (.agg #[.slice e1 n1 e2, .slice e3 n2 e4]) D) := by
    rw [hW1]
    exact (HD1.out.setBox KB.out 0 _).setBox (heap_setCell_same _ _ 0 _ _ (.slice e1 n1 e2) KB.out) 1 _
  have HBW : Hid (Below w.heap.size w W1) := by rw [hW1]; exact (HB1.out.setCell (p := ⟨w.heap.size, 0, none⟩) (by simp) _).setCell (p := ⟨w.heap.size, 1, none⟩) (by simp) _
  have hsW : w.heap.size + 1 < W1.heap.size := by rw [hW1]; simpa [World.setCell] using hs1'
  rw [← hW1]
  clear hW1 KB KT HD1 HB1 y0 y1 yf hs1'
  refine (scan_n _ _ _ _ _ _ D _ HN1.out.symm HN2.out.symm HD2.out).mono ?_
  intro e w3 hP
  obtain ⟨va, vc, rfl, hS3, hS3b, hb3⟩ := hP.foundB (B := w.heap.size + 1) hsW
  have HS3 := hide hS3
  have HS3B := hide hS3b
  have KB3 := hide (boxKeep hb3 (show w.heap.size < W1.heap.size by omega) KB1.out)
  have KT3 := hide (boxKeep hb3 hsW KT1.out)
  have HB3 := hide (bthen HBW.out hb3)
  have HD3 := hide (HD2.out.below hb3)
  have hs3 : w.heap.size + 1 < w3.heap.size := Nat.lt_of_lt_of_le hsW hb3.size
  clear hP hS3 hS3b hb3 KB1 KT1 HBW HD2
  have hll := fndL_len D
  -- the world behind 't.Seq = f.Next'
  obtain ⟨L, hL⟩ : ∃ L, L = fndL D := ⟨_, rfl⟩
  obtain ⟨N, hN⟩ : ∃ N, N = fndN D := ⟨_, rfl⟩
  obtain ⟨P, hP⟩ : ∃ P, P = fndP D := ⟨_, rfl⟩
  rw [← hN, ← hP, ← hL]
  rw [← hL] at HS3 HS3B hll
  have HLE := hide hL
  have HNE := hide hN
  have HPE := hide hP
  clear hL hN hP
  obtain ⟨W3, hW3⟩ : ∃ W3, W3 = w3.setCell ⟨w.heap.size + 1, 0, none⟩ (.int .i64 N) := ⟨_, rfl⟩
  have hz3 : W3.heap.size = w3.heap.size := by rw [hW3]; simp [World.setCell]
  have KTs : W3.heap[w.heap.size + 1]? = some (.cells #[.int .i64 N, .slice a0 t.info.length a1, .slice a2 t.data.length a3, .slice a4 t.rev.length a5, .bool t.h0.on, .int .i64 t.h0.left, .bool t.h1.on, .int .i64 t.h1.left, .bool t.h2.on, .int .i64 t.h2.left] 28 (0, 0)) := by rw [hW3]; exact heap_setCell_same _ _ 0 _ _ _ KT3.out
  have KBs : W3.heap[w.heap.size]? = some (.cells #[.slice e1 n1 e2, .slice e3 n2 e4] 58 (0, 0)) := by rw [hW3]; exact (Below.heap_setCell _ _ _ _ (by simp)).trans KB3.out
  have hBs : Below w.heap.size w W3 := by rw [hW3]; exact HB3.out.setCell (p := ⟨w.heap.size + 1, 0, none⟩) (by simp) _
  have hDs : IsDk W3 (.agg #[.slice e1 n1 e2, .slice e3 n2 e4]) D := by
    rw [hW3]
    exact HD3.out.setFlat KT3.out (by rintro (_ | _ | _ | _ | _ | _ | _ | _ | _ | _ | o) s <;> simp) 0 _
  have hSs : SegTx W3 va L := by rw [hW3]; exact HS3B.out _ _
  obtain ⟨W4, hW4⟩ : ∃ W4, W4 = W3.alloc (.cells #[.slice va L.length vc, .int .i64 N, .int .i64 P] 62) := ⟨_, rfl⟩
  have hb4 : Below W3.heap.size W3 W4 := by rw [hW4]; exact below1 _ _
  have KT4 := hide (boxKeep hb4 (show w.heap.size + 1 < W3.heap.size by omega) KTs)
  have KB4 := hide (boxKeep hb4 (show w.heap.size < W3.heap.size by omega) KBs)
  have KF4 : Hid (W4.heap[w3.heap.size]? = some (.cells #[.slice va L.length vc, .int .i64 N, .int .i64 P] 62 (0, 0))) := by rw [hW4, ← hz3]; exact heap_alloc_new _ _
  have HB4 := hide (bthen hBs hb4)
  have HD4 := hide (hDs.below hb4)
  have HS4 := hide (hSs.below hb4)
  have hs4 : w3.heap.size < W4.heap.size := by rw [hW4]; simp; omega
  have HT4 := hide (HT0.out.below HB4.out)
  have HW4 : Hid (W4 = (w3.setCell ⟨w.heap.size + 1, 0, none⟩ (.int .i64 N)).alloc (.cells #[.slice va L.length vc, .int .i64 N, .int .i64 P] 62)) := by rw [Hid, hW4, hW3]
  have KT3x := KT3
  clear hW4 hW3 hb4 hz3 KTs KBs hBs hDs hSs HS3 HS3B KB3 KT3 HB3 HD3 HT0
  by_cases hE : scanE D = 0
  · rw [hE]
    have HOK := hide hE
    have HW0 := hide (HWR.out hE)
    obtain ⟨_, _, hP0, hP1⟩ := fnd_facts hE
    rw [← HPE.out] at hP0 hP1
    obtain ⟨_, _, hp0, hp1, _, _⟩ := scan_good2 hE
    clear hE HWR
    have hs3a : w.heap.size + 1 < w3.heap.size := hs3
    obtain ⟨⟨k0, k1, k2, k3, k4, k5, k6, k7, k8, k9⟩, kf⟩ := box10 KT3x.out
    go_wp2_with fail
    rw [← HW4.out]
    refine (sealsK_any _).mono ?_
    rintro e w5 ⟨rfl, hb5⟩
    have KB5 := hide (boxKeep hb5 (show w.heap.size < W4.heap.size by omega) KB4.out)
    have KT5 := hide (boxKeep hb5 (show w.heap.size + 1 < W4.heap.size by omega) KT4.out)
    have KF5 := hide (boxKeep hb5 hs4 KF4.out)
    have HB5 := hide (bthen HB4.out hb5)
    have HD5 := hide (HD4.out.below hb5)
    have HS5 := hide (HS4.out.below hb5)
    have HT5 := hide (HT4.out.below hb5)
    have hs5 : w3.heap.size < w5.heap.size := Nat.lt_of_lt_of_le hs4 hb5.size
    clear hb5 k0 k1 k2 k3 k4 k5 k6 k7 k8 k9 kf KB4 KT4 KF4 HB4 HD4 HS4 HT4 HW4 KT3x
    obtain ⟨⟨z0, z1, z2⟩, zf⟩ := box3 KF5.out
    by_cases hNlt : N < 2147483646
    · have hN' : ¬ (2147483646 ≤ N) := by omega
      obtain ⟨⟨y0, y1⟩, yf⟩ := box2 KB5.out
      go_wp2_with fail
      refine (later_any _ D N _ HD5.out).mono ?_
      rintro e w6 ⟨rfl, hb6⟩
      have KB6 := hide (boxKeep hb6 (show w.heap.size < w5.heap.size by omega) KB5.out)
      have KT6 := hide (boxKeep hb6 (show w.heap.size + 1 < w5.heap.size by omega) KT5.out)
      have KF6 := hide (boxKeep hb6 hs5 KF5.out)
      have HB6 := hide (bthen HB5.out hb6)
      have HDD := hide (HD5.out.below hb6)
      have HSL := hide (HS5.out.below hb6)
      have HT6 := hide (HT5.out.below hb6)
      have hs6 : w3.heap.size < w6.heap.size := Nat.lt_of_lt_of_le hs5 hb6.size
      have hs6a : w.heap.size < w6.heap.size := by omega
      have hs6b : w.heap.size + 1 < w6.heap.size := by omega
      clear hb6 y0 y1 yf z0 z1 z2 zf KB5 KT5 KF5 HB5 HD5 HS5 HT5 hs5 hs4 hs3 hsW
      cases hlt : laterB D N with
      | true =>
        go_wp2_with fail
        refine (sealsK_any _).mono ?_
        rintro e w9 ⟨rfl, hb9⟩
        have HB9 := hide (bthen HB6.out hb9)
        clear hb9
        go_wp2
        go_ret
        exact ⟨rfl, HB9.out⟩
      | false =>
        have HLT : Hid (laterB D (fndN D) = false) := by rw [← HNE.out]; exact hlt
        clear hlt
        obtain ⟨u, hu⟩ : ∃ u : Tx, u = ⟨N, t.info, t.data, t.rev, t.h0, t.h1, t.h2⟩ := ⟨_, rfl⟩
        obtain ⟨U, hU⟩ : ∃ U, U = usedN D := ⟨_, rfl⟩
        have HTU : Hid (IsTx w6 (.agg #[.int .i64 N, .slice a0 t.info.length a1, .slice a2 t.data.length a3, .slice a4 t.rev.length a5, .bool t.h0.on, .int .i64 t.h0.left, .bool t.h1.on, .int .i64 t.h1.left, .bool t.h2.on, .int .i64 t.h2.left]) u) := by
          rw [hu]
          obtain ⟨r1, r2, r3, r4, r5, r6⟩ := HT6.out.rows
          exact ⟨a0, a1, a2, a3, a4, a5, rfl, r1, r2, r3, r4, r5, r6⟩
        have HUQ : Hid (u.seq = N) := by rw [hu]; rfl
        have HUT : Hid (u.info = t.info ∧ u.rev = t.rev) := by rw [hu]; exact ⟨rfl, rfl⟩
        have HU := hide hu
        have HU0 := hide hU
        have HUE : Hid (usedV P (superM D).pos L.length = U) := by rw [Hid, hU, usedN, usedV, HPE.out, HLE.out]
        clear hu hU HT6
        go_wp2
        rename_i KK hKK
        have TAIL : ∀ (g0 g1 g6 g7 g11 g13 g14 g15 g16 g17 g18 g19 g20 g21 g22 g23 g24 g25 g26 g27 g28 g29 g30 g31 g32 g33 g34 g35 g36 g37 g38 g39 g40 g41 g42 g43 g44 g45 g46 g47 g48 g49 g50 g51 g52 g53 g54 g55 g56 g57 g58 g59 g60 g61 g62 g63 g64 g65 g66 g67 g68 g69 g70 g71 g72 g73 g74 g75 g76 g77 g78 g79 g80 g81 g82 g83 g84 g85 g86 g87 g88 g89 g90 g91 g92 g93 g94 g95 g96 g97 g98 g99 g100 g101 g102 g103 g104 g105 g106 g107 g108 g109 g110 g111 g112 g113 g114 g115 g116 g117 g118 g119 g120 g121 g122 g123 g124 g125 g126 g127 g128 g129 g130 g131 g132 g133 g134 g135 g136 g137 g138 g139 g140 g141 g142 g143 g144 g145 g146 g147 g148 g149 g150 g151 g152 g153 g154 g155 g156 g157 g158 g159 g160 g161 g162 g163 g164 g165 g166 g167 g168 : Value) (W : World) (sa : Option Addr) (sc : Nat), (commitS P U u).length ≤ sc → SegSt W sa (commitS P U u) → Below w6.heap.size w6 W → KK ⟨#[g0, g1, .int .i64 st, .int .i64 dr, .pointer (some ⟨w.heap.size, 0, none⟩), .pointer (some ⟨w.heap.size + 1, 0, none⟩), g6, g7, .bool false, .pointer (some ⟨w3.heap.size, 0, none⟩), .int .i64 (sealE P U u), g11, .slice sa (commitS P U u).length sc, g13, g14, g15, g16, g17, g18, g19, g20, g21, g22, g23, g24, g25, g26, g27, g28, g29, g30, g31, g32, g33, g34, g35, g36, g37, g38, g39, g40, g41, g42, g43, g44, g45, g46, g47, g48, g49, g50, g51, g52, g53, g54, g55, g56, g57, g58, g59, g60, g61, g62, g63, g64, g65, g66, g67, g68, g69, g70, g71, g72, g73, g74, g75, g76, g77, g78, g79, g80, g81, g82, g83, g84, g85, g86, g87, g88, g89, g90, g91, g92, g93, g94, g95, g96, g97, g98, g99, g100, g101, g102, g103, g104, g105, g106, g107, g108, g109, g110, g111, g112, g113, g114, g115, g116, g117, g118, g119, g120, g121, g122, g123, g124, g125, g126, g127, g128, g129, g130, g131, g132, g133, g134, g135, g136, g137, g138, g139, g140, g141, g142, g143, g144, g145, g146, g147, g148, g149, g150, g151, g152, g153, g154, g155, g156, g157, g158, g159, g160, g161, g162, g163, g164, g165, g166, g167, g168], []⟩ W := by
          intro g0 g1 g6 g7 g11 g13 g14 g15 g16 g17 g18 g19 g20 g21 g22 g23 g24 g25 g26 g27 g28 g29 g30 g31 g32 g33 g34 g35 g36 g37 g38 g39 g40 g41 g42 g43 g44 g45 g46 g47 g48 g49 g50 g51 g52 g53 g54 g55 g56 g57 g58 g59 g60 g61 g62 g63 g64 g65 g66 g67 g68 g69 g70 g71 g72 g73 g74 g75 g76 g77 g78 g79 g80 g81 g82 g83 g84 g85 g86 g87 g88 g89 g90 g91 g92 g93 g94 g95 g96 g97 g98 g99 g100 g101 g102 g103 g104 g105 g106 g107 g108 g109 g110 g111 g112 g113 g114 g115 g116 g117 g118 g119 g120 g121 g122 g123 g124 g125 g126 g127 g128 g129 g130 g131 g132 g133 g134 g135 g136 g137 g138 g139 g140 g141 g142 g143 g144 g145 g146 g147 g148 g149 g150 g151 g152 g153 g154 g155 g156 g157 g158 g159 g160 g161 g162 g163 g164 g165 g166 g167 g168 W sa sc hcap hSS hbW
          apply hKK
          have HBZ := hide (bthen HB6.out hbW)
          have KBW := hide (boxKeep hbW hs6a KB6.out)
          have KTW := hide (boxKeep hbW hs6b KT6.out)
          have KFW := hide (boxKeep hbW hs6 KF6.out)
          have HDW := hide (HDD.out.below hbW)
          have HTW := hide (HTU.out.below hbW)
          have HLW := hide (HSL.out.below hbW)
          have HSW := hide hSS
          have hsWa : w.heap.size < W.heap.size := Nat.lt_of_lt_of_le hs6a hbW.size
          have hsWb : w.heap.size + 1 < W.heap.size := Nat.lt_of_lt_of_le hs6b hbW.size
          have hsWf : w3.heap.size < W.heap.size := Nat.lt_of_lt_of_le hs6 hbW.size
          clear hbW hSS KB6 KT6 KF6 HDD HSL HB6
          by_cases hE : sealE P U u = 0
          · have HSO := hide (seal_ok HOK.out HW0.out HLT.out hNlt HUQ.out HLE.out HPE.out HNE.out HU0.out hE)
            have hlen := (seal_steps hE).2
            rw [hE]
            obtain ⟨ST, hST⟩ : ∃ ST, ST = commitS P U u := ⟨_, rfl⟩
            rw [← hST] at HSW hcap hlen HSO ⊢
            clear hST
            go_wp2_with fail
            refine (pick_any st _ _ (by omega) (by omega) hs0 hs1).mono ?_
            rintro e w9 ⟨rfl, rfl⟩
            obtain ⟨kn, hkn⟩ : ∃ kn : Nat, st % ((ST.length : Int) + 1) = (kn : Int) := ⟨(st % ((ST.length : Int) + 1)).toNat, by have := Int.emod_nonneg st (show (ST.length : Int) + 1 ≠ 0 by omega); omega⟩
            have hkl : kn ≤ ST.length := by have := Int.emod_lt_of_pos st (show (0 : Int) < (ST.length : Int) + 1 by omega); omega
            rw [hkn]
            clear hkn hs0 hs1
            clear hKK
            go_wp2
            rename_i KK hKK
            have hdn := Int.emod_nonneg dr (show (1099511627776 : Int) ≠ 0 by decide)
            have hdl := Int.emod_lt_of_pos dr (show (0 : Int) < 1099511627776 by decide)
            obtain ⟨q, hq⟩ : ∃ q, q = dr % 1099511627776 := ⟨_, rfl⟩
            rw [← hq] at hdn hdl
            have HQ := hide hq
            clear hq
            have TAIL : ∀ (g0 g1 g2 g3 g4 g6 g7 g11 g15 g16 g17 g18 g19 g20 g21 g22 g23 g24 g25 g26 g27 g28 g29 g30 g31 g32 g33 g34 g35 g36 g37 g38 g39 g40 g41 g42 g43 g44 g45 g46 g47 g48 g49 g50 g51 g52 g53 g54 g55 g56 g57 g58 g59 g60 g61 g62 g63 g64 g65 g66 g67 g68 g69 g70 g71 g72 g73 g74 g75 g76 g77 g78 g79 g80 g81 g82 g83 g84 g85 g86 g87 g88 g89 g90 g91 g92 g93 g94 g95 g96 g97 g98 g99 g100 g101 g102 g103 g104 g105 g106 g107 g108 g109 g110 g111 g112 g113 g114 g115 g116 g117 g118 g119 g120 g121 g122 g123 g124 g125 g126 g127 g128 g129 g130 g131 g132 g133 g134 g135 g136 g137 g138 g139 g140 g141 g142 g143 g144 g145 g146 g147 g148 g149 g150 g151 g152 g153 g154 g155 g156 g157 g158 g159 g160 g161 g162 g163 g164 g165 g166 g167 g168 : Value) (W2 : World) (T : Nat) (X : Dk) (xa : Option Addr) (xn xc : Nat) (xb : Option Addr) (xm xd : Nat), X = crashK (runK D (ST.take kn)) q → IsDk W2 (.agg #[.slice xa xn xc, .slice xb xm xd]) X → W2.heap[T]? = some (.cells #[.slice xa xn xc, .slice xb xm xd] 58 (0, 0)) → W.heap.size ≤ T → Below W.heap.size W W2 → KK ⟨#[g0, g1, g2, g3, g4, .pointer (some ⟨w.heap.size + 1, 0, none⟩), g6, g7, .bool false, .pointer (some ⟨w3.heap.size, 0, none⟩), .int .i64 0, g11, .slice sa ST.length sc, .int .i64 (kn : Int), .pointer (some ⟨T, 0, none⟩), g15, g16, g17, g18, g19, g20, g21, g22, g23, g24, g25, g26, g27, g28, g29, g30, g31, g32, g33, g34, g35, g36, g37, g38, g39, g40, g41, g42, g43, g44, g45, g46, g47, g48, g49, g50, g51, g52, g53, g54, g55, g56, g57, g58, g59, g60, g61, g62, g63, g64, g65, g66, g67, g68, g69, g70, g71, g72, g73, g74, g75, g76, g77, g78, g79, g80, g81, g82, g83, g84, g85, g86, g87, g88, g89, g90, g91, g92, g93, g94, g95, g96, g97, g98, g99, g100, g101, g102, g103, g104, g105, g106, g107, g108, g109, g110, g111, g112, g113, g114, g115, g116, g117, g118, g119, g120, g121, g122, g123, g124, g125, g126, g127, g128, g129, g130, g131, g132, g133, g134, g135, g136, g137, g138, g139, g140, g141, g142, g143, g144, g145, g146, g147, g148, g149, g150, g151, g152, g153, g154, g155, g156, g157, g158, g159, g160, g161, g162, g163, g164, g165, g166, g167, g168], []⟩ W2 := by
              intro g0 g1 g2 g3 g4 g6 g7 g11 g15 g16 g17 g18 g19 g20 g21 g22 g23 g24 g25 g26 g27 g28 g29 g30 g31 g32 g33 g34 g35 g36 g37 g38 g39 g40 g41 g42 g43 g44 g45 g46 g47 g48 g49 g50 g51 g52 g53 g54 g55 g56 g57 g58 g59 g60 g61 g62 g63 g64 g65 g66 g67 g68 g69 g70 g71 g72 g73 g74 g75 g76 g77 g78 g79 g80 g81 g82 g83 g84 g85 g86 g87 g88 g89 g90 g91 g92 g93 g94 g95 g96 g97 g98 g99 g100 g101 g102 g103 g104 g105 g106 g107 g108 g109 g110 g111 g112 g113 g114 g115 g116 g117 g118 g119 g120 g121 g122 g123 g124 g125 g126 g127 g128 g129 g130 g131 g132 g133 g134 g135 g136 g137 g138 g139 g140 g141 g142 g143 g144 g145 g146 g147 g148 g149 g150 g151 g152 g153 g154 g155 g156 g157 g158 g159 g160 g161 g162 g163 g164 g165 g166 g167 g168 W2 T X xa xn xc xb xm xd hX hDX hT hTw hbW
              apply hKK
              obtain ⟨_, hSE, hcase⟩ := HSO.out kn q _ X hkl hdn rfl hX
              have HXN : Hid (xn = X.safe.length ∧ xm = X.wr.length) := by
                obtain ⟨_, _, _, _, he, _⟩ := hDX
                simp only [Value.agg.injEq, Array.mk.injEq, List.cons.injEq, Value.slice.injEq] at he
                exact ⟨he.1.2.1, he.2.1.2.1⟩
              have KX := hide hT
              have HDX := hide hDX
              have KF2 := hide (boxKeep hbW hsWf KFW.out)
              have KT2 := hide (boxKeep hbW hsWb KTW.out)
              have HL2 := hide (HLW.out.below hbW)
              have HT2 := hide (HTW.out.below hbW)
              have HB2 := hide (bthen HBZ.out hbW)
              have hs2f : w3.heap.size < W2.heap.size := Nat.lt_of_lt_of_le hsWf hbW.size
              have hs2b : w.heap.size + 1 < W2.heap.size := Nat.lt_of_lt_of_le hsWb hbW.size
              have hTl : T < W2.heap.size := (Array.getElem?_eq_some_iff.1 hT).1
              have HSE := hide hSE
              have HCS := hide hcase
              clear hT hDX hbW hSE hcase hX hKK KFW KTW KBW HLW HTW HBZ HDW HSW HSO HQ hdn hdl
              obtain ⟨⟨t0, t1⟩, tf⟩ := box2 KX.out
              go_wp2_with fail
              refine (scan_n _ _ _ _ _ _ X _ HXN.out.1 HXN.out.2 HDX.out).mono ?_
              intro e w9 hP9
              obtain ⟨xva, xvc, rfl, hS9, hb9⟩ := hP9.found
              have HS9 := hide hS9
              have KF3 := hide (boxKeep hb9 hs2f KF2.out)
              have KT3 := hide (boxKeep hb9 hs2b KT2.out)
              have HL3 := hide (HL2.out.below hb9)
              have HT3 := hide (HT2.out.below hb9)
              have HB3 := hide (bthen HB2.out hb9)
              have hs9 : w3.heap.size < w9.heap.size := Nat.lt_of_lt_of_le hs2f hb9.size
              have hs9b : w.heap.size + 1 < w9.heap.size := Nat.lt_of_lt_of_le hs2b hb9.size
              have hx9 := fndL_len X
              clear hP9 hS9 hb9 KX KF2 KT2 HL2 HT2 HB2 HDX t0 t1 tf hs2f hs2b hTl hTw
              rw [HSE.out]
              generalize fndN X = NX
              generalize fndP X = PX
              obtain ⟨LX, hLX⟩ : ∃ LX, LX = fndL X := ⟨_, rfl⟩
              rw [← hLX] at HS9 HCS hx9 ⊢
              clear hLX HSE HXN
              obtain ⟨hl1, hl2, HEQ⟩ : L.length ≤ LX.length ∧ LX.length ≤ L.length + 1 ∧ Hid (∀ i, i < L.length → LX.getD i txz = L.getD i txz) := by
                rcases HCS.out with ⟨e, _⟩ | ⟨e, _⟩
                · rw [e]; exact ⟨Nat.le_refl _, Nat.le_succ _, fun i _ => rfl⟩
                · rw [e]
                  refine ⟨by simp, by simp, fun i hi => ?_⟩
                  rw [List.getD, List.getD, List.getElem?_append_left hi]
              have hlI1 : decide (LX.length < L.length) = false := by simp; omega
              have hlI2 : decide ((1 : Int) < (LX.length : Int) - (L.length : Int)) = false := by simp; omega
              obtain ⟨⟨z0, z1, z2⟩, zf⟩ := box3 KF3.out
              go_wp2
              obtain ⟨W9, hW9⟩ : ∃ W9, W9 = w9.alloc (.cells #[.slice xva LX.length xvc, .int .i64 NX, .int .i64 PX] 62) := ⟨_, rfl⟩
              have KG : Hid (W9.heap[w9.heap.size]? = some (.cells #[.slice xva LX.length xvc, .int .i64 NX, .int .i64 PX] 62 (0, 0))) := by rw [hW9]; exact heap_alloc_new _ _
              have hb1 : Below w9.heap.size w9 W9 := by rw [hW9]; exact below1 _ _
              have HSX := hide (HS9.out.below hb1)
              have KF4 := hide (boxKeep hb1 hs9 KF3.out)
              have KT4 := hide (boxKeep hb1 hs9b KT3.out)
              have HL4 := hide (HL3.out.below hb1)
              have HT4 := hide (HT3.out.below hb1)
              have HB4 := hide (bthen HB3.out hb1)
              have hsG : w9.heap.size < W9.heap.size := by rw [hW9]; simp
              rw [← hW9]
              clear hW9 hb1 HS9 KF3 KT3 HL3 HT3 HB3 z0 z1 z2 zf
              generalize hG9 : w9.heap.size = G at *
              clear hG9
              go_loopw [113] (fun i wr => ∃ k : Nat, k ≤ L.length ∧ i = .int .i64 (k : Int) ∧ Hid (Below W9.heap.size W9 wr)) (fun i _ => L.length - (intOf i).toNat)
              case atStart => exact ⟨0, Nat.zero_le _, rfl, Below.refl _ _⟩
              case round =>
                obtain ⟨k, hk, rfl, HBR⟩ := hrel
                have hsr := HBR.out.size
                have KFR := hide (boxKeep HBR.out (show w3.heap.size < W9.heap.size by omega) KF4.out)
                have KGR := hide (boxKeep HBR.out hsG KG.out)
                obtain ⟨⟨z0, z1, z2⟩, zf⟩ := box3 KFR.out
                obtain ⟨⟨r0, r1, r2⟩, rf⟩ := box3 KGR.out
                by_cases hlt : k < L.length
                · obtain ⟨b2, off, rfl, hb2, hc2⟩ := HL4.out.resolve_left (by intro e; rw [e] at hlt; simp at hlt)
                  obtain ⟨b3, off3, rfl, hb3, hc3⟩ := HSX.out.resolve_left (by intro e; rw [e] at hl1; simp at hl1; rw [hl1] at hlt; simp at hlt)
                  have hcj := (hc2 k hlt).below HBR.out hb2
                  have hcx := (hc3 k (by omega)).below HBR.out hb3
                  rw [HEQ.out k hlt] at hcx
                  obtain ⟨tk, htk⟩ : ∃ tk, tk = L.getD k txz := ⟨_, rfl⟩
                  rw [← htk] at hcj hcx
                  clear htk hc2 hc3
                  obtain ⟨i0, j0, i1, j1, i2, j2, ⟨x0, x1, x2, x3, x4, x5, x6, x7, x8, x9⟩, hTk⟩ := hcj
                  obtain ⟨m0, n0', m1, n1', m2, n2', ⟨y0, y1, y2, y3, y4, y5, y6, y7, y8, y9⟩, hTx⟩ := hcx
                  have HTK := hide hTk
                  have HTX := hide hTx
                  have hlt' : (k : Int) < (L.length : Int) := by omega
                  have hltx : (k : Int) < (LX.length : Int) := by omega
                  have hk0 : (0 : Int) ≤ (k : Int) := by omega
                  have hb2r : b2 < wr.heap.size := by omega
                  have hb3r : b3 < wr.heap.size := by omega
                  have hFr : w3.heap.size < wr.heap.size := by omega
                  have hGr : G < wr.heap.size := by omega
                  have HALL : Hid (∀ w', Below wr.heap.size wr w' → Hid (Below wr.heap.size wr w') ∧ w'.cell? ⟨w3.heap.size, 0, none⟩ = some (.slice (some ⟨b2, off, none⟩) L.length vc) ∧ w'.cell? ⟨G, 0, none⟩ = some (.slice (some ⟨b3, off3, none⟩) LX.length xvc) ∧ w'.cell? ⟨b2, off + k * 10, none⟩ = some (.int .i64 tk.seq) ∧ w'.cell? ⟨b2, off + k * 10 + 1, none⟩ = some (.slice i0 tk.info.length j0) ∧ w'.cell? ⟨b2, off + k * 10 + 2, none⟩ = some (.slice i1 tk.data.length j1) ∧ w'.cell? ⟨b2, off + k * 10 + 3, none⟩ = some (.slice i2 tk.rev.length j2) ∧ w'.cell? ⟨b2, off + k * 10 + 4, none⟩ = some (.bool tk.h0.on) ∧ w'.cell? ⟨b2, off + k * 10 + 5, none⟩ = some (.int .i64 tk.h0.left) ∧ w'.cell? ⟨b2, off + k * 10 + 6, none⟩ = some (.bool tk.h1.on) ∧ w'.cell? ⟨b2, off + k * 10 + 7, none⟩ = some (.int .i64 tk.h1.left) ∧ w'.cell? ⟨b2, off + k * 10 + 8, none⟩ = some (.bool tk.h2.on) ∧ w'.cell? ⟨b2, off + k * 10 + 9, none⟩ = some (.int .i64 tk.h2.left) ∧ w'.cell? ⟨b3, off3 + k * 10, none⟩ = some (.int .i64 tk.seq) ∧ w'.cell? ⟨b3, off3 + k * 10 + 1, none⟩ = some (.slice m0 tk.info.length n0') ∧ w'.cell? ⟨b3, off3 + k * 10 + 2, none⟩ = some (.slice m1 tk.data.length n1') ∧ w'.cell? ⟨b3, off3 + k * 10 + 3, none⟩ = some (.slice m2 tk.rev.length n2') ∧ w'.cell? ⟨b3, off3 + k * 10 + 4, none⟩ = some (.bool tk.h0.on) ∧ w'.cell? ⟨b3, off3 + k * 10 + 5, none⟩ = some (.int .i64 tk.h0.left) ∧ w'.cell? ⟨b3, off3 + k * 10 + 6, none⟩ = some (.bool tk.h1.on) ∧ w'.cell? ⟨b3, off3 + k * 10 + 7, none⟩ = some (.int .i64 tk.h1.left) ∧ w'.cell? ⟨b3, off3 + k * 10 + 8, none⟩ = some (.bool tk.h2.on) ∧ w'.cell? ⟨b3, off3 + k * 10 + 9, none⟩ = some (.int .i64 tk.h2.left)) := fun w' hb => ⟨hb, cellKeep hb hFr z0, cellKeep hb hGr r0, cellKeep hb hb2r x0, cellKeep hb hb2r x1, cellKeep hb hb2r x2, cellKeep hb hb2r x3, cellKeep hb hb2r x4, cellKeep hb hb2r x5, cellKeep hb hb2r x6, cellKeep hb hb2r x7, cellKeep hb hb2r x8, cellKeep hb hb2r x9, cellKeep hb hb3r y0, cellKeep hb hb3r y1, cellKeep hb hb3r y2, cellKeep hb hb3r y3, cellKeep hb hb3r y4, cellKeep hb hb3r y5, cellKeep hb hb3r y6, cellKeep hb hb3r y7, cellKeep hb hb3r y8, cellKeep hb hb3r y9⟩
                  clear hTk hTx z0 z1 z2 zf r0 r1 r2 rf x0 x1 x2 x3 x4 x5 x6 x7 x8 x9 y0 y1 y2 y3 y4 y5 y6 y7 y8 y9
                  go_wp2
                  go_region_held3 (fun w' => Hid (Below wr.heap.size wr w') ∧ w'.cell? ⟨w3.heap.size, 0, none⟩ = some (.slice (some ⟨b2, off, none⟩) L.length vc) ∧ w'.cell? ⟨G, 0, none⟩ = some (.slice (some ⟨b3, off3, none⟩) LX.length xvc) ∧ w'.cell? ⟨b2, off + k * 10, none⟩ = some (.int .i64 tk.seq) ∧ w'.cell? ⟨b2, off + k * 10 + 1, none⟩ = some (.slice i0 tk.info.length j0) ∧ w'.cell? ⟨b2, off + k * 10 + 2, none⟩ = some (.slice i1 tk.data.length j1) ∧ w'.cell? ⟨b2, off + k * 10 + 3, none⟩ = some (.slice i2 tk.rev.length j2) ∧ w'.cell? ⟨b2, off + k * 10 + 4, none⟩ = some (.bool tk.h0.on) ∧ w'.cell? ⟨b2, off + k * 10 + 5, none⟩ = some (.int .i64 tk.h0.left) ∧ w'.cell? ⟨b2, off + k * 10 + 6, none⟩ = some (.bool tk.h1.on) ∧ w'.cell? ⟨b2, off + k * 10 + 7, none⟩ = some (.int .i64 tk.h1.left) ∧ w'.cell? ⟨b2, off + k * 10 + 8, none⟩ = some (.bool tk.h2.on) ∧ w'.cell? ⟨b2, off + k * 10 + 9, none⟩ = some (.int .i64 tk.h2.left) ∧ w'.cell? ⟨b3, off3 + k * 10, none⟩ = some (.int .i64 tk.seq) ∧ w'.cell? ⟨b3, off3 + k * 10 + 1, none⟩ = some (.slice m0 tk.info.length n0') ∧ w'.cell? ⟨b3, off3 + k * 10 + 2, none⟩ = some (.slice m1 tk.data.length n1') ∧ w'.cell? ⟨b3, off3 + k * 10 + 3, none⟩ = some (.slice m2 tk.rev.length n2') ∧ w'.cell? ⟨b3, off3 + k * 10 + 4, none⟩ = some (.bool tk.h0.on) ∧ w'.cell? ⟨b3, off3 + k * 10 + 5, none⟩ = some (.int .i64 tk.h0.left) ∧ w'.cell? ⟨b3, off3 + k * 10 + 6, none⟩ = some (.bool tk.h1.on) ∧ w'.cell? ⟨b3, off3 + k * 10 + 7, none⟩ = some (.int .i64 tk.h1.left) ∧ w'.cell? ⟨b3, off3 + k * 10 + 8, none⟩ = some (.bool tk.h2.on) ∧ w'.cell? ⟨b3, off3 + k * 10 + 9, none⟩ = some (.int .i64 tk.h2.left))
                    (first | exact HALL.out _ ((Below.refl _ _).drew) | (refine HALL.out _ ?_; assumption))
                    (first | (go_at_call 35; (have hnow := (‹Hid (Below wr.heap.size wr _) ∧ _›).1); have HNOW := hide hnow.out; refine (alike_any _ _ tk tk _ (HTK.out.below hnow.out) (HTX.out.below hnow.out) rfl rfl rfl).mono ?_; clear hnow; rintro e w10 ⟨rfl, hb10⟩; have hbN := bthen HNOW.out hb10; clear hb10 HNOW; dsimp only))
                  rename_i hHeldX
                  clear hHeldX
                  go_wp2
                  go_roundw
                  case rel => exact ⟨k + 1, by omega, by go_num, bthen HBR.out hbN⟩
                  case measure => simp [intOf]; omega
                · have e : k = L.length := by omega
                  subst e
                  have hFr : w3.heap.size < wr.heap.size := by omega
                  have hGr : G < wr.heap.size := by omega
                  have hwr : IntKind.i64.wrap ((ST.length : Int) - 1) = (ST.length : Int) - 1 := by rw [IntKind.wrap_i64]; omega
                  have Z0 := hide z0
                  have R0 := hide r0
                  rcases HCS.out with ⟨hLX, hk9⟩ | ⟨hLX, hk9⟩
                  · have hmore : ¬ (L.length : Int) < (LX.length : Int) := by rw [hLX]; omega
                    clear hLX
                    go_wp2
                    rename_i K9 hK9
                    by_cases hge : ST.length ≤ kn + 1
                    · have hge' : (ST.length : Int) - 1 ≤ (kn : Int) := by omega
                      have hlt9 : (kn : Int) < (ST.length : Int) := by omega
                      have TAIL9 : ∀ (g0 g1 g2 g3 g4 g5 g6 g7 g9 g10 g11 g12 g13 g14 g15 g16 g17 g18 g19 g20 g21 g22 g23 g24 g25 g26 g27 g28 g29 g30 g31 g32 g33 g34 g35 g36 g37 g38 g39 g40 g41 g42 g43 g44 g45 g46 g47 g48 g49 g50 g51 g52 g53 g54 g55 g56 g57 g58 g59 g60 g61 g62 g63 g64 g65 g66 g67 g68 g69 g70 g71 g72 g73 g74 g75 g76 g77 g78 g79 g80 g81 g82 g83 g84 g85 g86 g87 g88 g89 g90 g91 g92 g93 g94 g95 g96 g97 g98 g99 g100 g101 g102 g103 g104 g105 g106 g107 g108 g109 g110 g111 g112 g113 g114 g115 g116 g117 g118 g119 g120 g121 g122 g123 g124 g125 g126 g127 g128 g129 g130 g131 g132 g133 g134 g135 g136 g137 g138 g139 g140 g141 g142 g143 g144 g145 g146 g147 g148 g149 g150 g151 g152 g153 g154 g155 g156 g157 g158 g159 g160 g161 g162 g163 g164 g165 g166 g167 g168 : Value) (W5 : World), Below wr.heap.size wr W5 → K9 ⟨#[g0, g1, g2, g3, g4, g5, g6, g7, .bool true, g9, g10, g11, g12, g13, g14, g15, g16, g17, g18, g19, g20, g21, g22, g23, g24, g25, g26, g27, g28, g29, g30, g31, g32, g33, g34, g35, g36, g37, g38, g39, g40, g41, g42, g43, g44, g45, g46, g47, g48, g49, g50, g51, g52, g53, g54, g55, g56, g57, g58, g59, g60, g61, g62, g63, g64, g65, g66, g67, g68, g69, g70, g71, g72, g73, g74, g75, g76, g77, g78, g79, g80, g81, g82, g83, g84, g85, g86, g87, g88, g89, g90, g91, g92, g93, g94, g95, g96, g97, g98, g99, g100, g101, g102, g103, g104, g105, g106, g107, g108, g109, g110, g111, g112, g113, g114, g115, g116, g117, g118, g119, g120, g121, g122, g123, g124, g125, g126, g127, g128, g129, g130, g131, g132, g133, g134, g135, g136, g137, g138, g139, g140, g141, g142, g143, g144, g145, g146, g147, g148, g149, g150, g151, g152, g153, g154, g155, g156, g157, g158, g159, g160, g161, g162, g163, g164, g165, g166, g167, g168], []⟩ W5 := by
                        intro g0 g1 g2 g3 g4 g5 g6 g7 g9 g10 g11 g12 g13 g14 g15 g16 g17 g18 g19 g20 g21 g22 g23 g24 g25 g26 g27 g28 g29 g30 g31 g32 g33 g34 g35 g36 g37 g38 g39 g40 g41 g42 g43 g44 g45 g46 g47 g48 g49 g50 g51 g52 g53 g54 g55 g56 g57 g58 g59 g60 g61 g62 g63 g64 g65 g66 g67 g68 g69 g70 g71 g72 g73 g74 g75 g76 g77 g78 g79 g80 g81 g82 g83 g84 g85 g86 g87 g88 g89 g90 g91 g92 g93 g94 g95 g96 g97 g98 g99 g100 g101 g102 g103 g104 g105 g106 g107 g108 g109 g110 g111 g112 g113 g114 g115 g116 g117 g118 g119 g120 g121 g122 g123 g124 g125 g126 g127 g128 g129 g130 g131 g132 g133 g134 g135 g136 g137 g138 g139 g140 g141 g142 g143 g144 g145 g146 g147 g148 g149 g150 g151 g152 g153 g154 g155 g156 g157 g158 g159 g160 g161 g162 g163 g164 g165 g166 g167 g168 W5 hb5
                        apply hK9
                        clear hK9
                        go_wp2
                        go_ret
                        exact ⟨rfl, bthen (bthen HB4.out HBR.out) hb5⟩
                      have HTAIL9 := hide TAIL9
                      clear TAIL9 hK9
                      refine (show ∀ A0 : Act, A0 = _ → Code.wp Tryz.prog _ _ A0 _ from fun A0 hA0 => ?_) _ rfl
                      have hsz : A0.tmps.size = 169 := by rw [hA0]; rfl
                      have hdf : A0.defers = [] := by rw [hA0]
                      have v5 : A0.eval (.tmp 5) = .pointer (some ⟨w.heap.size + 1, 0, none⟩) := by rw [hA0]; rfl
                      have v9 : A0.eval (.tmp 9) = .pointer (some ⟨w3.heap.size, 0, none⟩) := by rw [hA0]; rfl
                      have v12 : A0.eval (.tmp 12) = .slice sa ST.length sc := by rw [hA0]; rfl
                      have v13 : A0.eval (.tmp 13) = .int .i64 (kn : Int) := by rw [hA0]; rfl
                      have v15 : A0.eval (.tmp 15) = .pointer (some ⟨G, 0, none⟩) := by rw [hA0]; rfl
                      have v18 : A0.eval (.tmp 18) = .bool false := by rw [hA0]; rfl
                      clear hA0
                      refine wp_region_slots (fun w' => Below wr.heap.size wr w') [136, 137, 138, 139, 140, 141, 142, 143, 144, 145, 146, 147, 148, 149, 150, 151, 152, 153, 154, 155, 156, 157, 158, 159, 160, 161, 162, 163, 164, 165, 166, 167, 168, 8] (endPsiFTT (.slice sa ST.length sc) (kn : Int) (ST.length : Int)) (by kernel_rfl) (by kernel_rfl) (by kernel_rfl) ((Below.refl _ _).drew) ⟨?_, ?_, ?_, ?_, ?_, ?_, ?_, ?_, ?_, ?_, ?_, ?_, ?_, ?_, ?_, ?_, ?_, ?_, ?_, ?_, ?_, ?_, ?_, ?_, ?_, ?_, ?_, ?_, ?_, ?_, ?_, ?_, ?_, ?_, trivial⟩ ?_
                      · intro a w' hF hR hp
                        have z18 := (hF.other 18 rfl).trans v18
                        refine op_yields (.bool false) rfl rfl (by revert z18; generalize a.eval = ρ; intro z18; simp only [execOp]; go_simp) ⟨_, rfl, hR, ?_, fun _ _ _ h => h⟩
                        show endPsiFTT _ _ _ _ ((a.put (some 136) _).eval (.tmp 136)) w'
                        rw [at_slot hF hsz (by decide)]
                        exact rfl
                      · intro a w' hF hR hp
                        have p0 : a.eval (.tmp 136) = .bool false := hp ⟨0, Ground.data⟩ (by simp) rfl
                        refine op_yields (.bool true) rfl rfl (by revert p0; generalize a.eval = ρ; intro p0; simp only [execOp]; go_simp) ⟨_, rfl, hR, ?_, fun _ _ _ h => h⟩
                        show endPsiFTT _ _ _ _ ((a.put (some 137) _).eval (.tmp 137)) w'
                        rw [at_slot hF hsz (by decide)]
                        exact rfl
                      · intro a w' hF hR hp
                        have p1 : a.eval (.tmp 137) = .bool true := hp ⟨1, Ground.data⟩ (by simp) rfl
                        refine op_yields (.bool true) rfl rfl (by revert p1; generalize a.eval = ρ; intro p1; simp only [execOp]; go_simp) ⟨_, rfl, hR, ?_, fun _ _ _ h => h⟩
                        show endPsiFTT _ _ _ _ ((a.put (some 138) _).eval (.tmp 138)) w'
                        rw [at_slot hF hsz (by decide)]
                        exact rfl
                      · intro a w' hF hR hp
                        have g2 : a.eval (.tmp 138) = .bool true := hp ⟨2, Ground.guard⟩ (by simp) rfl
                        refine op_no rfl rfl rfl g2 ⟨_, rfl, hR, trivial, fun _ _ _ h => h⟩
                      · intro a w' hF hR hp
                        have g2 : a.eval (.tmp 138) = .bool true := hp ⟨2, Ground.guard⟩ (by simp) rfl
                        refine op_no rfl rfl rfl g2 ⟨_, rfl, hR, trivial, fun _ _ _ h => h⟩
                      · intro a w' hF hR hp
                        have g2 : a.eval (.tmp 138) = .bool true := hp ⟨2, Ground.guard⟩ (by simp) rfl
                        refine op_no rfl rfl rfl g2 ⟨_, rfl, hR, trivial, fun _ _ _ h => h⟩
                      · intro a w' hF hR hp
                        have g2 : a.eval (.tmp 138) = .bool true := hp ⟨2, Ground.guard⟩ (by simp) rfl
                        refine op_no rfl rfl rfl g2 ⟨_, rfl, hR, trivial, fun _ _ _ h => h⟩
                      · intro a w' hF hR hp
                        have g2 : a.eval (.tmp 138) = .bool true := hp ⟨2, Ground.guard⟩ (by simp) rfl
                        refine op_no rfl rfl rfl g2 ⟨_, rfl, hR, trivial, fun _ _ _ h => h⟩
                      · intro a w' hF hR hp
                        have g2 : a.eval (.tmp 138) = .bool true := hp ⟨2, Ground.guard⟩ (by simp) rfl
                        refine op_no rfl rfl rfl g2 ⟨_, rfl, hR, trivial, fun _ _ _ h => h⟩
                      · intro a w' hF hR hp
                        have g2 : a.eval (.tmp 138) = .bool true := hp ⟨2, Ground.guard⟩ (by simp) rfl
                        refine op_no rfl rfl rfl g2 ⟨_, rfl, hR, trivial, fun _ _ _ h => h⟩
                      · intro a w' hF hR hp
                        have g2 : a.eval (.tmp 138) = .bool true := hp ⟨2, Ground.guard⟩ (by simp) rfl
                        refine op_no rfl rfl rfl g2 ⟨_, rfl, hR, trivial, fun _ _ _ h => h⟩
                      · intro a w' hF hR hp
                        have g2 : a.eval (.tmp 138) = .bool true := hp ⟨2, Ground.guard⟩ (by simp) rfl
                        refine op_no rfl rfl rfl g2 ⟨_, rfl, hR, trivial, fun _ _ _ h => h⟩
                      · intro a w' hF hR hp
                        have p2 : a.eval (.tmp 138) = .bool true := hp ⟨2, Ground.data⟩ (by simp) rfl
                        refine op_yields (.bool true) rfl rfl (by have pc0 := Act.eval_const a (.bool true); revert p2 pc0; generalize a.eval = ρ; intro p2 pc0; simp only [execOp]; go_simp) ⟨_, rfl, hR, ?_, fun _ _ _ h => h⟩
                        show endPsiFTT _ _ _ _ ((a.put (some 148) _).eval (.tmp 148)) w'
                        rw [at_slot hF hsz (by decide)]
                        exact rfl
                      · intro a w' hF hR hp
                        have p12 : a.eval (.tmp 148) = .bool true := hp ⟨12, Ground.data⟩ (by simp) rfl
                        refine op_yields (.bool true) rfl rfl (by revert p12; generalize a.eval = ρ; intro p12; simp only [execOp]; go_simp) ⟨_, rfl, hR, ?_, fun _ _ _ h => h⟩
                        show endPsiFTT _ _ _ _ ((a.put (some 149) _).eval (.tmp 149)) w'
                        rw [at_slot hF hsz (by decide)]
                        exact rfl
                      · intro a w' hF hR hp
                        have g13 : a.eval (.tmp 149) = .bool true := hp ⟨13, Ground.guard⟩ (by simp) rfl
                        have z13 := (hF.other 13 rfl).trans v13
                        refine op_yields_g (.int .i64 (kn : Int)) rfl (wanted_yes (b := true) rfl rfl g13) (by revert z13; generalize a.eval = ρ; intro z13; simp only [execOp]; go_simp) ⟨_, rfl, hR, ?_, fun _ _ _ h => h⟩
                        show endPsiFTT _ _ _ _ ((a.put (some 150) _).eval (.tmp 150)) w'
                        rw [at_slot hF hsz (by decide)]
                        exact rfl
                      · intro a w' hF hR hp
                        have g13 : a.eval (.tmp 149) = .bool true := hp ⟨13, Ground.guard⟩ (by simp) rfl
                        have z12 := (hF.other 12 rfl).trans v12
                        refine op_yields_g (.slice sa ST.length sc) rfl (wanted_yes (b := true) rfl rfl g13) (by revert z12; generalize a.eval = ρ; intro z12; simp only [execOp]; go_simp) ⟨_, rfl, hR, ?_, fun _ _ _ h => h⟩
                        show endPsiFTT _ _ _ _ ((a.put (some 151) _).eval (.tmp 151)) w'
                        rw [at_slot hF hsz (by decide)]
                        exact rfl
                      · intro a w' hF hR hp
                        have g13 : a.eval (.tmp 149) = .bool true := hp ⟨13, Ground.guard⟩ (by simp) rfl
                        have p15 : a.eval (.tmp 151) = .slice sa ST.length sc := hp ⟨15, Ground.data⟩ (by simp) rfl
                        refine op_yields_g (.int .i64 (ST.length : Int)) rfl (wanted_yes (b := true) rfl rfl g13) (by revert p15; generalize a.eval = ρ; intro p15; simp only [execOp]; go_simp) ⟨_, rfl, hR, ?_, fun _ _ _ h => h⟩
                        show endPsiFTT _ _ _ _ ((a.put (some 152) _).eval (.tmp 152)) w'
                        rw [at_slot hF hsz (by decide)]
                        exact rfl
                      · intro a w' hF hR hp
                        have g13 : a.eval (.tmp 149) = .bool true := hp ⟨13, Ground.guard⟩ (by simp) rfl
                        have p14 : a.eval (.tmp 150) = .int .i64 (kn : Int) := hp ⟨14, Ground.data⟩ (by simp) rfl
                        have p16 : a.eval (.tmp 152) = .int .i64 (ST.length : Int) := hp ⟨16, Ground.data⟩ (by simp) rfl
                        refine op_yields_g (.bool true) rfl (wanted_yes (b := true) rfl rfl g13) (by revert p14 p16; generalize a.eval = ρ; intro p14 p16; simp only [execOp]; go_simp) ⟨_, rfl, hR, ?_, fun _ _ _ h => h⟩
                        show endPsiFTT _ _ _ _ ((a.put (some 153) _).eval (.tmp 153)) w'
                        rw [at_slot hF hsz (by decide)]
                        exact rfl
                      · intro a w' hF hR hp
                        have g13 : a.eval (.tmp 149) = .bool true := hp ⟨13, Ground.guard⟩ (by simp) rfl
                        have p17 : a.eval (.tmp 153) = .bool true := hp ⟨17, Ground.data⟩ (by simp) rfl
                        refine op_yields_g (.bool true) rfl (wanted_yes (b := true) rfl rfl g13) (by revert p17; generalize a.eval = ρ; intro p17; simp only [execOp]; go_simp) ⟨_, rfl, hR, ?_, fun _ _ _ h => h⟩
                        show endPsiFTT _ _ _ _ ((a.put (some 154) _).eval (.tmp 154)) w'
                        rw [at_slot hF hsz (by decide)]
                        exact rfl
                      · intro a w' hF hR hp
                        have g18 : a.eval (.tmp 154) = .bool true := hp ⟨18, Ground.guard⟩ (by simp) rfl
                        refine op_no rfl rfl rfl g18 ⟨_, rfl, hR, trivial, fun _ _ _ h => h⟩
                      · intro a w' hF hR hp
                        have g13 : a.eval (.tmp 149) = .bool true := hp ⟨13, Ground.guard⟩ (by simp) rfl
                        have p18 : a.eval (.tmp 154) = .bool true := hp ⟨18, Ground.data⟩ (by simp) rfl
                        refine op_yields_g (.bool true) rfl (wanted_yes (b := true) rfl rfl g13) (by have pc0 := Act.eval_const a (.bool true); revert p18 pc0; generalize a.eval = ρ; intro p18 pc0; simp only [execOp]; go_simp) ⟨_, rfl, hR, ?_, fun _ _ _ h => h⟩
                        show endPsiFTT _ _ _ _ ((a.put (some 156) _).eval (.tmp 156)) w'
                        rw [at_slot hF hsz (by decide)]
                        exact rfl
                      · intro a w' hF hR hp
                        have p13 : a.eval (.tmp 149) = .bool true := hp ⟨13, Ground.data⟩ (by simp) rfl
                        have p20 : a.eval (.tmp 156) = .bool true := hp ⟨20, Ground.data⟩ (by simp) rfl
                        refine op_yields (.bool true) rfl rfl (by have pc0 := Act.eval_const a (.bool false); revert p13 p20 pc0; generalize a.eval = ρ; intro p13 p20 pc0; simp only [execOp]; go_simp) ⟨_, rfl, hR, ?_, fun _ _ _ h => h⟩
                        show endPsiFTT _ _ _ _ ((a.put (some 157) _).eval (.tmp 157)) w'
                        rw [at_slot hF hsz (by decide)]
                        exact rfl
                      · intro a w' hF hR hp
                        have p21 : a.eval (.tmp 157) = .bool true := hp ⟨21, Ground.data⟩ (by simp) rfl
                        refine op_yields (.bool true) rfl rfl (by revert p21; generalize a.eval = ρ; intro p21; simp only [execOp]; go_simp) ⟨_, rfl, hR, ?_, fun _ _ _ h => h⟩
                        show endPsiFTT _ _ _ _ ((a.put (some 158) _).eval (.tmp 158)) w'
                        rw [at_slot hF hsz (by decide)]
                        exact rfl
                      · intro a w' hF hR hp
                        have g22 : a.eval (.tmp 158) = .bool true := hp ⟨22, Ground.guard⟩ (by simp) rfl
                        have z13 := (hF.other 13 rfl).trans v13
                        refine op_yields_g (.int .i64 (kn : Int)) rfl (wanted_yes (b := true) rfl rfl g22) (by revert z13; generalize a.eval = ρ; intro z13; simp only [execOp]; go_simp) ⟨_, rfl, hR, ?_, fun _ _ _ h => h⟩
                        show endPsiFTT _ _ _ _ ((a.put (some 159) _).eval (.tmp 159)) w'
                        rw [at_slot hF hsz (by decide)]
                        exact rfl
                      · intro a w' hF hR hp
                        have g22 : a.eval (.tmp 158) = .bool true := hp ⟨22, Ground.guard⟩ (by simp) rfl
                        have z12 := (hF.other 12 rfl).trans v12
                        refine op_yields_g (.slice sa ST.length sc) rfl (wanted_yes (b := true) rfl rfl g22) (by revert z12; generalize a.eval = ρ; intro z12; simp only [execOp]; go_simp) ⟨_, rfl, hR, ?_, fun _ _ _ h => h⟩
                        show endPsiFTT _ _ _ _ ((a.put (some 160) _).eval (.tmp 160)) w'
                        rw [at_slot hF hsz (by decide)]
                        exact rfl
                      · intro a w' hF hR hp
                        have g22 : a.eval (.tmp 158) = .bool true := hp ⟨22, Ground.guard⟩ (by simp) rfl
                        have p24 : a.eval (.tmp 160) = .slice sa ST.length sc := hp ⟨24, Ground.data⟩ (by simp) rfl
                        refine op_yields_g (.int .i64 (ST.length : Int)) rfl (wanted_yes (b := true) rfl rfl g22) (by revert p24; generalize a.eval = ρ; intro p24; simp only [execOp]; go_simp) ⟨_, rfl, hR, ?_, fun _ _ _ h => h⟩
                        show endPsiFTT _ _ _ _ ((a.put (some 161) _).eval (.tmp 161)) w'
                        rw [at_slot hF hsz (by decide)]
                        exact rfl
                      · intro a w' hF hR hp
                        have g22 : a.eval (.tmp 158) = .bool true := hp ⟨22, Ground.guard⟩ (by simp) rfl
                        have p25 : a.eval (.tmp 161) = .int .i64 (ST.length : Int) := hp ⟨25, Ground.data⟩ (by simp) rfl
                        refine op_yields_g (.int .i64 ((ST.length : Int) - 1)) rfl (wanted_yes (b := true) rfl rfl g22) (by have pc0 := Act.eval_const a (.int .i64 1); revert p25 pc0; generalize a.eval = ρ; intro p25 pc0; simp only [execOp]; go_simp) ⟨_, rfl, hR, ?_, fun _ _ _ h => h⟩
                        show endPsiFTT _ _ _ _ ((a.put (some 162) _).eval (.tmp 162)) w'
                        rw [at_slot hF hsz (by decide)]
                        exact rfl
                      · intro a w' hF hR hp
                        have g22 : a.eval (.tmp 158) = .bool true := hp ⟨22, Ground.guard⟩ (by simp) rfl
                        have p23 : a.eval (.tmp 159) = .int .i64 (kn : Int) := hp ⟨23, Ground.data⟩ (by simp) rfl
                        have p26 : a.eval (.tmp 162) = .int .i64 ((ST.length : Int) - 1) := hp ⟨26, Ground.data⟩ (by simp) rfl
                        refine op_yields_g (.bool true) rfl (wanted_yes (b := true) rfl rfl g22) (by revert p23 p26; generalize a.eval = ρ; intro p23 p26; simp only [execOp]; go_simp) ⟨_, rfl, hR, ?_, fun _ _ _ h => h⟩
                        show endPsiFTT _ _ _ _ ((a.put (some 163) _).eval (.tmp 163)) w'
                        rw [at_slot hF hsz (by decide)]
                        exact rfl
                      · intro a w' hF hR hp
                        have g22 : a.eval (.tmp 158) = .bool true := hp ⟨22, Ground.guard⟩ (by simp) rfl
                        have p27 : a.eval (.tmp 163) = .bool true := hp ⟨27, Ground.data⟩ (by simp) rfl
                        refine op_yields_g (.bool true) rfl (wanted_yes (b := true) rfl rfl g22) (by revert p27; generalize a.eval = ρ; intro p27; simp only [execOp]; go_simp) ⟨_, rfl, hR, ?_, fun _ _ _ h => h⟩
                        show endPsiFTT _ _ _ _ ((a.put (some 164) _).eval (.tmp 164)) w'
                        rw [at_slot hF hsz (by decide)]
                        exact rfl
                      · intro a w' hF hR hp
                        have g28 : a.eval (.tmp 164) = .bool true := hp ⟨28, Ground.guard⟩ (by simp) rfl
                        refine op_no rfl rfl rfl g28 ⟨_, rfl, hR, trivial, fun _ _ _ h => h⟩
                      · intro a w' hF hR hp
                        have g28 : a.eval (.tmp 164) = .bool true := hp ⟨28, Ground.guard⟩ (by simp) rfl
                        refine op_no rfl rfl rfl g28 ⟨_, rfl, hR, trivial, fun _ _ _ h => h⟩
                      · intro a w' hF hR hp
                        have g22 : a.eval (.tmp 158) = .bool true := hp ⟨22, Ground.guard⟩ (by simp) rfl
                        have p28 : a.eval (.tmp 164) = .bool true := hp ⟨28, Ground.data⟩ (by simp) rfl
                        refine op_yields_g (.bool true) rfl (wanted_yes (b := true) rfl rfl g22) (by have pc0 := Act.eval_const a (.bool true); revert p28 pc0; generalize a.eval = ρ; intro p28 pc0; simp only [execOp]; go_simp) ⟨_, rfl, hR, ?_, fun _ _ _ h => h⟩
                        show endPsiFTT _ _ _ _ ((a.put (some 167) _).eval (.tmp 167)) w'
                        rw [at_slot hF hsz (by decide)]
                        exact rfl
                      · intro a w' hF hR hp
                        have p22 : a.eval (.tmp 158) = .bool true := hp ⟨22, Ground.data⟩ (by simp) rfl
                        have p31 : a.eval (.tmp 167) = .bool true := hp ⟨31, Ground.data⟩ (by simp) rfl
                        refine op_yields (.bool true) rfl rfl (by have pc0 := Act.eval_const a (.bool false); revert p22 p31 pc0; generalize a.eval = ρ; intro p22 p31 pc0; simp only [execOp]; go_simp) ⟨_, rfl, hR, ?_, fun _ _ _ h => h⟩
                        show endPsiFTT _ _ _ _ ((a.put (some 168) _).eval (.tmp 168)) w'
                        rw [at_slot hF hsz (by decide)]
                        exact rfl
                      · intro a w' hF hR hp
                        have p32 : a.eval (.tmp 168) = .bool true := hp ⟨32, Ground.data⟩ (by simp) rfl
                        refine op_yields (.bool true) rfl rfl (by revert p32; generalize a.eval = ρ; intro p32; simp only [execOp]; go_simp) ⟨_, rfl, hR, ?_, fun _ _ _ h => h⟩
                        show endPsiFTT _ _ _ _ ((a.put (some 8) _).eval (.tmp 8)) w'
                        rw [at_slot hF hsz (by decide)]
                        exact rfl
                      · intro a W5 hF hR hp
                        have p33 : a.eval (.tmp 8) = .bool true := hp 33 (by decide)
                        have hlit : a = ⟨#[a.eval (.tmp 0), a.eval (.tmp 1), a.eval (.tmp 2), a.eval (.tmp 3), a.eval (.tmp 4), a.eval (.tmp 5), a.eval (.tmp 6), a.eval (.tmp 7), a.eval (.tmp 8), a.eval (.tmp 9), a.eval (.tmp 10), a.eval (.tmp 11), a.eval (.tmp 12), a.eval (.tmp 13), a.eval (.tmp 14), a.eval (.tmp 15), a.eval (.tmp 16), a.eval (.tmp 17), a.eval (.tmp 18), a.eval (.tmp 19), a.eval (.tmp 20), a.eval (.tmp 21), a.eval (.tmp 22), a.eval (.tmp 23), a.eval (.tmp 24), a.eval (.tmp 25), a.eval (.tmp 26), a.eval (.tmp 27), a.eval (.tmp 28), a.eval (.tmp 29), a.eval (.tmp 30), a.eval (.tmp 31), a.eval (.tmp 32), a.eval (.tmp 33), a.eval (.tmp 34), a.eval (.tmp 35), a.eval (.tmp 36), a.eval (.tmp 37), a.eval (.tmp 38), a.eval (.tmp 39), a.eval (.tmp 40), a.eval (.tmp 41), a.eval (.tmp 42), a.eval (.tmp 43), a.eval (.tmp 44), a.eval (.tmp 45), a.eval (.tmp 46), a.eval (.tmp 47), a.eval (.tmp 48), a.eval (.tmp 49), a.eval (.tmp 50), a.eval (.tmp 51), a.eval (.tmp 52), a.eval (.tmp 53), a.eval (.tmp 54), a.eval (.tmp 55), a.eval (.tmp 56), a.eval (.tmp 57), a.eval (.tmp 58), a.eval (.tmp 59), a.eval (.tmp 60), a.eval (.tmp 61), a.eval (.tmp 62), a.eval (.tmp 63), a.eval (.tmp 64), a.eval (.tmp 65), a.eval (.tmp 66), a.eval (.tmp 67), a.eval (.tmp 68), a.eval (.tmp 69), a.eval (.tmp 70), a.eval (.tmp 71), a.eval (.tmp 72), a.eval (.tmp 73), a.eval (.tmp 74), a.eval (.tmp 75), a.eval (.tmp 76), a.eval (.tmp 77), a.eval (.tmp 78), a.eval (.tmp 79), a.eval (.tmp 80), a.eval (.tmp 81), a.eval (.tmp 82), a.eval (.tmp 83), a.eval (.tmp 84), a.eval (.tmp 85), a.eval (.tmp 86), a.eval (.tmp 87), a.eval (.tmp 88), a.eval (.tmp 89), a.eval (.tmp 90), a.eval (.tmp 91), a.eval (.tmp 92), a.eval (.tmp 93), a.eval (.tmp 94), a.eval (.tmp 95), a.eval (.tmp 96), a.eval (.tmp 97), a.eval (.tmp 98), a.eval (.tmp 99), a.eval (.tmp 100), a.eval (.tmp 101), a.eval (.tmp 102), a.eval (.tmp 103), a.eval (.tmp 104), a.eval (.tmp 105), a.eval (.tmp 106), a.eval (.tmp 107), a.eval (.tmp 108), a.eval (.tmp 109), a.eval (.tmp 110), a.eval (.tmp 111), a.eval (.tmp 112), a.eval (.tmp 113), a.eval (.tmp 114), a.eval (.tmp 115), a.eval (.tmp 116), a.eval (.tmp 117), a.eval (.tmp 118), a.eval (.tmp 119), a.eval (.tmp 120), a.eval (.tmp 121), a.eval (.tmp 122), a.eval (.tmp 123), a.eval (.tmp 124), a.eval (.tmp 125), a.eval (.tmp 126), a.eval (.tmp 127), a.eval (.tmp 128), a.eval (.tmp 129), a.eval (.tmp 130), a.eval (.tmp 131), a.eval (.tmp 132), a.eval (.tmp 133), a.eval (.tmp 134), a.eval (.tmp 135), a.eval (.tmp 136), a.eval (.tmp 137), a.eval (.tmp 138), a.eval (.tmp 139), a.eval (.tmp 140), a.eval (.tmp 141), a.eval (.tmp 142), a.eval (.tmp 143), a.eval (.tmp 144), a.eval (.tmp 145), a.eval (.tmp 146), a.eval (.tmp 147), a.eval (.tmp 148), a.eval (.tmp 149), a.eval (.tmp 150), a.eval (.tmp 151), a.eval (.tmp 152), a.eval (.tmp 153), a.eval (.tmp 154), a.eval (.tmp 155), a.eval (.tmp 156), a.eval (.tmp 157), a.eval (.tmp 158), a.eval (.tmp 159), a.eval (.tmp 160), a.eval (.tmp 161), a.eval (.tmp 162), a.eval (.tmp 163), a.eval (.tmp 164), a.eval (.tmp 165), a.eval (.tmp 166), a.eval (.tmp 167), a.eval (.tmp 168)], []⟩ := act_lit a 169 (hF.size.trans hsz) (hF.defers.trans hdf)
                        rw [p33] at hlit
                        exact (congrArg (fun x => K9 x W5) hlit).mpr (HTAIL9.out (a.eval (.tmp 0)) (a.eval (.tmp 1)) (a.eval (.tmp 2)) (a.eval (.tmp 3)) (a.eval (.tmp 4)) (a.eval (.tmp 5)) (a.eval (.tmp 6)) (a.eval (.tmp 7)) (a.eval (.tmp 9)) (a.eval (.tmp 10)) (a.eval (.tmp 11)) (a.eval (.tmp 12)) (a.eval (.tmp 13)) (a.eval (.tmp 14)) (a.eval (.tmp 15)) (a.eval (.tmp 16)) (a.eval (.tmp 17)) (a.eval (.tmp 18)) (a.eval (.tmp 19)) (a.eval (.tmp 20)) (a.eval (.tmp 21)) (a.eval (.tmp 22)) (a.eval (.tmp 23)) (a.eval (.tmp 24)) (a.eval (.tmp 25)) (a.eval (.tmp 26)) (a.eval (.tmp 27)) (a.eval (.tmp 28)) (a.eval (.tmp 29)) (a.eval (.tmp 30)) (a.eval (.tmp 31)) (a.eval (.tmp 32)) (a.eval (.tmp 33)) (a.eval (.tmp 34)) (a.eval (.tmp 35)) (a.eval (.tmp 36)) (a.eval (.tmp 37)) (a.eval (.tmp 38)) (a.eval (.tmp 39)) (a.eval (.tmp 40)) (a.eval (.tmp 41)) (a.eval (.tmp 42)) (a.eval (.tmp 43)) (a.eval (.tmp 44)) (a.eval (.tmp 45)) (a.eval (.tmp 46)) (a.eval (.tmp 47)) (a.eval (.tmp 48)) (a.eval (.tmp 49)) (a.eval (.tmp 50)) (a.eval (.tmp 51)) (a.eval (.tmp 52)) (a.eval (.tmp 53)) (a.eval (.tmp 54)) (a.eval (.tmp 55)) (a.eval (.tmp 56)) (a.eval (.tmp 57)) (a.eval (.tmp 58)) (a.eval (.tmp 59)) (a.eval (.tmp 60)) (a.eval (.tmp 61)) (a.eval (.tmp 62)) (a.eval (.tmp 63)) (a.eval (.tmp 64)) (a.eval (.tmp 65)) (a.eval (.tmp 66)) (a.eval (.tmp 67)) (a.eval (.tmp 68)) (a.eval (.tmp 69)) (a.eval (.tmp 70)) (a.eval (.tmp 71)) (a.eval (.tmp 72)) (a.eval (.tmp 73)) (a.eval (.tmp 74)) (a.eval (.tmp 75)) (a.eval (.tmp 76)) (a.eval (.tmp 77)) (a.eval (.tmp 78)) (a.eval (.tmp 79)) (a.eval (.tmp 80)) (a.eval (.tmp 81)) (a.eval (.tmp 82)) (a.eval (.tmp 83)) (a.eval (.tmp 84)) (a.eval (.tmp 85)) (a.eval (.tmp 86)) (a.eval (.tmp 87)) (a.eval (.tmp 88)) (a.eval (.tmp 89)) (a.eval (.tmp 90)) (a.eval (.tmp 91)) (a.eval (.tmp 92)) (a.eval (.tmp 93)) (a.eval (.tmp 94)) (a.eval (.tmp 95)) (a.eval (.tmp 96)) (a.eval (.tmp 97)) (a.eval (.tmp 98)) (a.eval (.tmp 99)) (a.eval (.tmp 100)) (a.eval (.tmp 101)) (a.eval (.tmp 102)) (a.eval (.tmp 103)) (a.eval (.tmp 104)) (a.eval (.tmp 105)) (a.eval (.tmp 106)) (a.eval (.tmp 107)) (a.eval (.tmp 108)) (a.eval (.tmp 109)) (a.eval (.tmp 110)) (a.eval (.tmp 111)) (a.eval (.tmp 112)) (a.eval (.tmp 113)) (a.eval (.tmp 114)) (a.eval (.tmp 115)) (a.eval (.tmp 116)) (a.eval (.tmp 117)) (a.eval (.tmp 118)) (a.eval (.tmp 119)) (a.eval (.tmp 120)) (a.eval (.tmp 121)) (a.eval (.tmp 122)) (a.eval (.tmp 123)) (a.eval (.tmp 124)) (a.eval (.tmp 125)) (a.eval (.tmp 126)) (a.eval (.tmp 127)) (a.eval (.tmp 128)) (a.eval (.tmp 129)) (a.eval (.tmp 130)) (a.eval (.tmp 131)) (a.eval (.tmp 132)) (a.eval (.tmp 133)) (a.eval (.tmp 134)) (a.eval (.tmp 135)) (a.eval (.tmp 136)) (a.eval (.tmp 137)) (a.eval (.tmp 138)) (a.eval (.tmp 139)) (a.eval (.tmp 140)) (a.eval (.tmp 141)) (a.eval (.tmp 142)) (a.eval (.tmp 143)) (a.eval (.tmp 144)) (a.eval (.tmp 145)) (a.eval (.tmp 146)) (a.eval (.tmp 147)) (a.eval (.tmp 148)) (a.eval (.tmp 149)) (a.eval (.tmp 150)) (a.eval (.tmp 151)) (a.eval (.tmp 152)) (a.eval (.tmp 153)) (a.eval (.tmp 154)) (a.eval (.tmp 155)) (a.eval (.tmp 156)) (a.eval (.tmp 157)) (a.eval (.tmp 158)) (a.eval (.tmp 159)) (a.eval (.tmp 160)) (a.eval (.tmp 161)) (a.eval (.tmp 162)) (a.eval (.tmp 163)) (a.eval (.tmp 164)) (a.eval (.tmp 165)) (a.eval (.tmp 166)) (a.eval (.tmp 167)) (a.eval (.tmp 168)) W5 hR)
                    · have hge' : ¬ (ST.length : Int) - 1 ≤ (kn : Int) := by omega
                      have hlt9 : (kn : Int) < (ST.length : Int) := by omega
                      have TAIL9 : ∀ (g0 g1 g2 g3 g4 g5 g6 g7 g9 g10 g11 g12 g13 g14 g15 g16 g17 g18 g19 g20 g21 g22 g23 g24 g25 g26 g27 g28 g29 g30 g31 g32 g33 g34 g35 g36 g37 g38 g39 g40 g41 g42 g43 g44 g45 g46 g47 g48 g49 g50 g51 g52 g53 g54 g55 g56 g57 g58 g59 g60 g61 g62 g63 g64 g65 g66 g67 g68 g69 g70 g71 g72 g73 g74 g75 g76 g77 g78 g79 g80 g81 g82 g83 g84 g85 g86 g87 g88 g89 g90 g91 g92 g93 g94 g95 g96 g97 g98 g99 g100 g101 g102 g103 g104 g105 g106 g107 g108 g109 g110 g111 g112 g113 g114 g115 g116 g117 g118 g119 g120 g121 g122 g123 g124 g125 g126 g127 g128 g129 g130 g131 g132 g133 g134 g135 g136 g137 g138 g139 g140 g141 g142 g143 g144 g145 g146 g147 g148 g149 g150 g151 g152 g153 g154 g155 g156 g157 g158 g159 g160 g161 g162 g163 g164 g165 g166 g167 g168 : Value) (W5 : World), Below wr.heap.size wr W5 → K9 ⟨#[g0, g1, g2, g3, g4, g5, g6, g7, .bool true, g9, g10, g11, g12, g13, g14, g15, g16, g17, g18, g19, g20, g21, g22, g23, g24, g25, g26, g27, g28, g29, g30, g31, g32, g33, g34, g35, g36, g37, g38, g39, g40, g41, g42, g43, g44, g45, g46, g47, g48, g49, g50, g51, g52, g53, g54, g55, g56, g57, g58, g59, g60, g61, g62, g63, g64, g65, g66, g67, g68, g69, g70, g71, g72, g73, g74, g75, g76, g77, g78, g79, g80, g81, g82, g83, g84, g85, g86, g87, g88, g89, g90, g91, g92, g93, g94, g95, g96, g97, g98, g99, g100, g101, g102, g103, g104, g105, g106, g107, g108, g109, g110, g111, g112, g113, g114, g115, g116, g117, g118, g119, g120, g121, g122, g123, g124, g125, g126, g127, g128, g129, g130, g131, g132, g133, g134, g135, g136, g137, g138, g139, g140, g141, g142, g143, g144, g145, g146, g147, g148, g149, g150, g151, g152, g153, g154, g155, g156, g157, g158, g159, g160, g161, g162, g163, g164, g165, g166, g167, g168], []⟩ W5 := by
                        intro g0 g1 g2 g3 g4 g5 g6 g7 g9 g10 g11 g12 g13 g14 g15 g16 g17 g18 g19 g20 g21 g22 g23 g24 g25 g26 g27 g28 g29 g30 g31 g32 g33 g34 g35 g36 g37 g38 g39 g40 g41 g42 g43 g44 g45 g46 g47 g48 g49 g50 g51 g52 g53 g54 g55 g56 g57 g58 g59 g60 g61 g62 g63 g64 g65 g66 g67 g68 g69 g70 g71 g72 g73 g74 g75 g76 g77 g78 g79 g80 g81 g82 g83 g84 g85 g86 g87 g88 g89 g90 g91 g92 g93 g94 g95 g96 g97 g98 g99 g100 g101 g102 g103 g104 g105 g106 g107 g108 g109 g110 g111 g112 g113 g114 g115 g116 g117 g118 g119 g120 g121 g122 g123 g124 g125 g126 g127 g128 g129 g130 g131 g132 g133 g134 g135 g136 g137 g138 g139 g140 g141 g142 g143 g144 g145 g146 g147 g148 g149 g150 g151 g152 g153 g154 g155 g156 g157 g158 g159 g160 g161 g162 g163 g164 g165 g166 g167 g168 W5 hb5
                        apply hK9
                        clear hK9
                        go_wp2
                        go_ret
                        exact ⟨rfl, bthen (bthen HB4.out HBR.out) hb5⟩
                      have HTAIL9 := hide TAIL9
                      clear TAIL9 hK9
                      refine (show ∀ A0 : Act, A0 = _ → Code.wp Tryz.prog _ _ A0 _ from fun A0 hA0 => ?_) _ rfl
                      have hsz : A0.tmps.size = 169 := by rw [hA0]; rfl
                      have hdf : A0.defers = [] := by rw [hA0]
                      have v5 : A0.eval (.tmp 5) = .pointer (some ⟨w.heap.size + 1, 0, none⟩) := by rw [hA0]; rfl
                      have v9 : A0.eval (.tmp 9) = .pointer (some ⟨w3.heap.size, 0, none⟩) := by rw [hA0]; rfl
                      have v12 : A0.eval (.tmp 12) = .slice sa ST.length sc := by rw [hA0]; rfl
                      have v13 : A0.eval (.tmp 13) = .int .i64 (kn : Int) := by rw [hA0]; rfl
                      have v15 : A0.eval (.tmp 15) = .pointer (some ⟨G, 0, none⟩) := by rw [hA0]; rfl
                      have v18 : A0.eval (.tmp 18) = .bool false := by rw [hA0]; rfl
                      clear hA0
                      refine wp_region_slots (fun w' => Below wr.heap.size wr w') [136, 137, 138, 139, 140, 141, 142, 143, 144, 145, 146, 147, 148, 149, 150, 151, 152, 153, 154, 155, 156, 157, 158, 159, 160, 161, 162, 163, 164, 165, 166, 167, 168, 8] (endPsiFTF (.slice sa ST.length sc) (kn : Int) (ST.length : Int)) (by kernel_rfl) (by kernel_rfl) (by kernel_rfl) ((Below.refl _ _).drew) ⟨?_, ?_, ?_, ?_, ?_, ?_, ?_, ?_, ?_, ?_, ?_, ?_, ?_, ?_, ?_, ?_, ?_, ?_, ?_, ?_, ?_, ?_, ?_, ?_, ?_, ?_, ?_, ?_, ?_, ?_, ?_, ?_, ?_, ?_, trivial⟩ ?_
                      · intro a w' hF hR hp
                        have z18 := (hF.other 18 rfl).trans v18
                        refine op_yields (.bool false) rfl rfl (by revert z18; generalize a.eval = ρ; intro z18; simp only [execOp]; go_simp) ⟨_, rfl, hR, ?_, fun _ _ _ h => h⟩
                        show endPsiFTF _ _ _ _ ((a.put (some 136) _).eval (.tmp 136)) w'
                        rw [at_slot hF hsz (by decide)]
                        exact rfl
                      · intro a w' hF hR hp
                        have p0 : a.eval (.tmp 136) = .bool false := hp ⟨0, Ground.data⟩ (by simp) rfl
                        refine op_yields (.bool true) rfl rfl (by revert p0; generalize a.eval = ρ; intro p0; simp only [execOp]; go_simp) ⟨_, rfl, hR, ?_, fun _ _ _ h => h⟩
                        show endPsiFTF _ _ _ _ ((a.put (some 137) _).eval (.tmp 137)) w'
                        rw [at_slot hF hsz (by decide)]
                        exact rfl
                      · intro a w' hF hR hp
                        have p1 : a.eval (.tmp 137) = .bool true := hp ⟨1, Ground.data⟩ (by simp) rfl
                        refine op_yields (.bool true) rfl rfl (by revert p1; generalize a.eval = ρ; intro p1; simp only [execOp]; go_simp) ⟨_, rfl, hR, ?_, fun _ _ _ h => h⟩
                        show endPsiFTF _ _ _ _ ((a.put (some 138) _).eval (.tmp 138)) w'
                        rw [at_slot hF hsz (by decide)]
                        exact rfl
                      · intro a w' hF hR hp
                        have g2 : a.eval (.tmp 138) = .bool true := hp ⟨2, Ground.guard⟩ (by simp) rfl
                        refine op_no rfl rfl rfl g2 ⟨_, rfl, hR, trivial, fun _ _ _ h => h⟩
                      · intro a w' hF hR hp
                        have g2 : a.eval (.tmp 138) = .bool true := hp ⟨2, Ground.guard⟩ (by simp) rfl
                        refine op_no rfl rfl rfl g2 ⟨_, rfl, hR, trivial, fun _ _ _ h => h⟩
                      · intro a w' hF hR hp
                        have g2 : a.eval (.tmp 138) = .bool true := hp ⟨2, Ground.guard⟩ (by simp) rfl
                        refine op_no rfl rfl rfl g2 ⟨_, rfl, hR, trivial, fun _ _ _ h => h⟩
                      · intro a w' hF hR hp
                        have g2 : a.eval (.tmp 138) = .bool true := hp ⟨2, Ground.guard⟩ (by simp) rfl
                        refine op_no rfl rfl rfl g2 ⟨_, rfl, hR, trivial, fun _ _ _ h => h⟩
                      · intro a w' hF hR hp
                        have g2 : a.eval (.tmp 138) = .bool true := hp ⟨2, Ground.guard⟩ (by simp) rfl
                        refine op_no rfl rfl rfl g2 ⟨_, rfl, hR, trivial, fun _ _ _ h => h⟩
                      · intro a w' hF hR hp
                        have g2 : a.eval (.tmp 138) = .bool true := hp ⟨2, Ground.guard⟩ (by simp) rfl
                        refine op_no rfl rfl rfl g2 ⟨_, rfl, hR, trivial, fun _ _ _ h => h⟩
                      · intro a w' hF hR hp
                        have g2 : a.eval (.tmp 138) = .bool true := hp ⟨2, Ground.guard⟩ (by simp) rfl
                        refine op_no rfl rfl rfl g2 ⟨_, rfl, hR, trivial, fun _ _ _ h => h⟩
                      · intro a w' hF hR hp
                        have g2 : a.eval (.tmp 138) = .bool true := hp ⟨2, Ground.guard⟩ (by simp) rfl
                        refine op_no rfl rfl rfl g2 ⟨_, rfl, hR, trivial, fun _ _ _ h => h⟩
                      · intro a w' hF hR hp
                        have g2 : a.eval (.tmp 138) = .bool true := hp ⟨2, Ground.guard⟩ (by simp) rfl
                        refine op_no rfl rfl rfl g2 ⟨_, rfl, hR, trivial, fun _ _ _ h => h⟩
                      · intro a w' hF hR hp
                        have p2 : a.eval (.tmp 138) = .bool true := hp ⟨2, Ground.data⟩ (by simp) rfl
                        refine op_yields (.bool true) rfl rfl (by have pc0 := Act.eval_const a (.bool true); revert p2 pc0; generalize a.eval = ρ; intro p2 pc0; simp only [execOp]; go_simp) ⟨_, rfl, hR, ?_, fun _ _ _ h => h⟩
                        show endPsiFTF _ _ _ _ ((a.put (some 148) _).eval (.tmp 148)) w'
                        rw [at_slot hF hsz (by decide)]
                        exact rfl
                      · intro a w' hF hR hp
                        have p12 : a.eval (.tmp 148) = .bool true := hp ⟨12, Ground.data⟩ (by simp) rfl
                        refine op_yields (.bool true) rfl rfl (by revert p12; generalize a.eval = ρ; intro p12; simp only [execOp]; go_simp) ⟨_, rfl, hR, ?_, fun _ _ _ h => h⟩
                        show endPsiFTF _ _ _ _ ((a.put (some 149) _).eval (.tmp 149)) w'
                        rw [at_slot hF hsz (by decide)]
                        exact rfl
                      · intro a w' hF hR hp
                        have g13 : a.eval (.tmp 149) = .bool true := hp ⟨13, Ground.guard⟩ (by simp) rfl
                        have z13 := (hF.other 13 rfl).trans v13
                        refine op_yields_g (.int .i64 (kn : Int)) rfl (wanted_yes (b := true) rfl rfl g13) (by revert z13; generalize a.eval = ρ; intro z13; simp only [execOp]; go_simp) ⟨_, rfl, hR, ?_, fun _ _ _ h => h⟩
                        show endPsiFTF _ _ _ _ ((a.put (some 150) _).eval (.tmp 150)) w'
                        rw [at_slot hF hsz (by decide)]
                        exact rfl
                      · intro a w' hF hR hp
                        have g13 : a.eval (.tmp 149) = .bool true := hp ⟨13, Ground.guard⟩ (by simp) rfl
                        have z12 := (hF.other 12 rfl).trans v12
                        refine op_yields_g (.slice sa ST.length sc) rfl (wanted_yes (b := true) rfl rfl g13) (by revert z12; generalize a.eval = ρ; intro z12; simp only [execOp]; go_simp) ⟨_, rfl, hR, ?_, fun _ _ _ h => h⟩
                        show endPsiFTF _ _ _ _ ((a.put (some 151) _).eval (.tmp 151)) w'
                        rw [at_slot hF hsz (by decide)]
                        exact rfl
                      · intro a w' hF hR hp
                        have g13 : a.eval (.tmp 149) = .bool true := hp ⟨13, Ground.guard⟩ (by simp) rfl
                        have p15 : a.eval (.tmp 151) = .slice sa ST.length sc := hp ⟨15, Ground.data⟩ (by simp) rfl
                        refine op_yields_g (.int .i64 (ST.length : Int)) rfl (wanted_yes (b := true) rfl rfl g13) (by revert p15; generalize a.eval = ρ; intro p15; simp only [execOp]; go_simp) ⟨_, rfl, hR, ?_, fun _ _ _ h => h⟩
                        show endPsiFTF _ _ _ _ ((a.put (some 152) _).eval (.tmp 152)) w'
                        rw [at_slot hF hsz (by decide)]
                        exact rfl
                      · intro a w' hF hR hp
                        have g13 : a.eval (.tmp 149) = .bool true := hp ⟨13, Ground.guard⟩ (by simp) rfl
                        have p14 : a.eval (.tmp 150) = .int .i64 (kn : Int) := hp ⟨14, Ground.data⟩ (by simp) rfl
                        have p16 : a.eval (.tmp 152) = .int .i64 (ST.length : Int) := hp ⟨16, Ground.data⟩ (by simp) rfl
                        refine op_yields_g (.bool true) rfl (wanted_yes (b := true) rfl rfl g13) (by revert p14 p16; generalize a.eval = ρ; intro p14 p16; simp only [execOp]; go_simp) ⟨_, rfl, hR, ?_, fun _ _ _ h => h⟩
                        show endPsiFTF _ _ _ _ ((a.put (some 153) _).eval (.tmp 153)) w'
                        rw [at_slot hF hsz (by decide)]
                        exact rfl
                      · intro a w' hF hR hp
                        have g13 : a.eval (.tmp 149) = .bool true := hp ⟨13, Ground.guard⟩ (by simp) rfl
                        have p17 : a.eval (.tmp 153) = .bool true := hp ⟨17, Ground.data⟩ (by simp) rfl
                        refine op_yields_g (.bool true) rfl (wanted_yes (b := true) rfl rfl g13) (by revert p17; generalize a.eval = ρ; intro p17; simp only [execOp]; go_simp) ⟨_, rfl, hR, ?_, fun _ _ _ h => h⟩
                        show endPsiFTF _ _ _ _ ((a.put (some 154) _).eval (.tmp 154)) w'
                        rw [at_slot hF hsz (by decide)]
                        exact rfl
                      · intro a w' hF hR hp
                        have g18 : a.eval (.tmp 154) = .bool true := hp ⟨18, Ground.guard⟩ (by simp) rfl
                        refine op_no rfl rfl rfl g18 ⟨_, rfl, hR, trivial, fun _ _ _ h => h⟩
                      · intro a w' hF hR hp
                        have g13 : a.eval (.tmp 149) = .bool true := hp ⟨13, Ground.guard⟩ (by simp) rfl
                        have p18 : a.eval (.tmp 154) = .bool true := hp ⟨18, Ground.data⟩ (by simp) rfl
                        refine op_yields_g (.bool true) rfl (wanted_yes (b := true) rfl rfl g13) (by have pc0 := Act.eval_const a (.bool true); revert p18 pc0; generalize a.eval = ρ; intro p18 pc0; simp only [execOp]; go_simp) ⟨_, rfl, hR, ?_, fun _ _ _ h => h⟩
                        show endPsiFTF _ _ _ _ ((a.put (some 156) _).eval (.tmp 156)) w'
                        rw [at_slot hF hsz (by decide)]
                        exact rfl
                      · intro a w' hF hR hp
                        have p13 : a.eval (.tmp 149) = .bool true := hp ⟨13, Ground.data⟩ (by simp) rfl
                        have p20 : a.eval (.tmp 156) = .bool true := hp ⟨20, Ground.data⟩ (by simp) rfl
                        refine op_yields (.bool true) rfl rfl (by have pc0 := Act.eval_const a (.bool false); revert p13 p20 pc0; generalize a.eval = ρ; intro p13 p20 pc0; simp only [execOp]; go_simp) ⟨_, rfl, hR, ?_, fun _ _ _ h => h⟩
                        show endPsiFTF _ _ _ _ ((a.put (some 157) _).eval (.tmp 157)) w'
                        rw [at_slot hF hsz (by decide)]
                        exact rfl
                      · intro a w' hF hR hp
                        have p21 : a.eval (.tmp 157) = .bool true := hp ⟨21, Ground.data⟩ (by simp) rfl
                        refine op_yields (.bool true) rfl rfl (by revert p21; generalize a.eval = ρ; intro p21; simp only [execOp]; go_simp) ⟨_, rfl, hR, ?_, fun _ _ _ h => h⟩
                        show endPsiFTF _ _ _ _ ((a.put (some 158) _).eval (.tmp 158)) w'
                        rw [at_slot hF hsz (by decide)]
                        exact rfl
                      · intro a w' hF hR hp
                        have g22 : a.eval (.tmp 158) = .bool true := hp ⟨22, Ground.guard⟩ (by simp) rfl
                        have z13 := (hF.other 13 rfl).trans v13
                        refine op_yields_g (.int .i64 (kn : Int)) rfl (wanted_yes (b := true) rfl rfl g22) (by revert z13; generalize a.eval = ρ; intro z13; simp only [execOp]; go_simp) ⟨_, rfl, hR, ?_, fun _ _ _ h => h⟩
                        show endPsiFTF _ _ _ _ ((a.put (some 159) _).eval (.tmp 159)) w'
                        rw [at_slot hF hsz (by decide)]
                        exact rfl
                      · intro a w' hF hR hp
                        have g22 : a.eval (.tmp 158) = .bool true := hp ⟨22, Ground.guard⟩ (by simp) rfl
                        have z12 := (hF.other 12 rfl).trans v12
                        refine op_yields_g (.slice sa ST.length sc) rfl (wanted_yes (b := true) rfl rfl g22) (by revert z12; generalize a.eval = ρ; intro z12; simp only [execOp]; go_simp) ⟨_, rfl, hR, ?_, fun _ _ _ h => h⟩
                        show endPsiFTF _ _ _ _ ((a.put (some 160) _).eval (.tmp 160)) w'
                        rw [at_slot hF hsz (by decide)]
                        exact rfl
                      · intro a w' hF hR hp
                        have g22 : a.eval (.tmp 158) = .bool true := hp ⟨22, Ground.guard⟩ (by simp) rfl
                        have p24 : a.eval (.tmp 160) = .slice sa ST.length sc := hp ⟨24, Ground.data⟩ (by simp) rfl
                        refine op_yields_g (.int .i64 (ST.length : Int)) rfl (wanted_yes (b := true) rfl rfl g22) (by revert p24; generalize a.eval = ρ; intro p24; simp only [execOp]; go_simp) ⟨_, rfl, hR, ?_, fun _ _ _ h => h⟩
                        show endPsiFTF _ _ _ _ ((a.put (some 161) _).eval (.tmp 161)) w'
                        rw [at_slot hF hsz (by decide)]
                        exact rfl
                      · intro a w' hF hR hp
                        have g22 : a.eval (.tmp 158) = .bool true := hp ⟨22, Ground.guard⟩ (by simp) rfl
                        have p25 : a.eval (.tmp 161) = .int .i64 (ST.length : Int) := hp ⟨25, Ground.data⟩ (by simp) rfl
                        refine op_yields_g (.int .i64 ((ST.length : Int) - 1)) rfl (wanted_yes (b := true) rfl rfl g22) (by have pc0 := Act.eval_const a (.int .i64 1); revert p25 pc0; generalize a.eval = ρ; intro p25 pc0; simp only [execOp]; go_simp) ⟨_, rfl, hR, ?_, fun _ _ _ h => h⟩
                        show endPsiFTF _ _ _ _ ((a.put (some 162) _).eval (.tmp 162)) w'
                        rw [at_slot hF hsz (by decide)]
                        exact rfl
                      · intro a w' hF hR hp
                        have g22 : a.eval (.tmp 158) = .bool true := hp ⟨22, Ground.guard⟩ (by simp) rfl
                        have p23 : a.eval (.tmp 159) = .int .i64 (kn : Int) := hp ⟨23, Ground.data⟩ (by simp) rfl
                        have p26 : a.eval (.tmp 162) = .int .i64 ((ST.length : Int) - 1) := hp ⟨26, Ground.data⟩ (by simp) rfl
                        refine op_yields_g (.bool false) rfl (wanted_yes (b := true) rfl rfl g22) (by revert p23 p26; generalize a.eval = ρ; intro p23 p26; simp only [execOp]; go_simp) ⟨_, rfl, hR, ?_, fun _ _ _ h => h⟩
                        show endPsiFTF _ _ _ _ ((a.put (some 163) _).eval (.tmp 163)) w'
                        rw [at_slot hF hsz (by decide)]
                        exact rfl
                      · intro a w' hF hR hp
                        have g22 : a.eval (.tmp 158) = .bool true := hp ⟨22, Ground.guard⟩ (by simp) rfl
                        have p27 : a.eval (.tmp 163) = .bool false := hp ⟨27, Ground.data⟩ (by simp) rfl
                        refine op_yields_g (.bool false) rfl (wanted_yes (b := true) rfl rfl g22) (by revert p27; generalize a.eval = ρ; intro p27; simp only [execOp]; go_simp) ⟨_, rfl, hR, ?_, fun _ _ _ h => h⟩
                        show endPsiFTF _ _ _ _ ((a.put (some 164) _).eval (.tmp 164)) w'
                        rw [at_slot hF hsz (by decide)]
                        exact rfl
                      · intro a w' hF hR hp
                        have g28 : a.eval (.tmp 164) = .bool false := hp ⟨28, Ground.guard⟩ (by simp) rfl
                        have z18 := (hF.other 18 rfl).trans v18
                        refine op_yields_g (.bool false) rfl (wanted_yes (b := false) rfl rfl g28) (by revert z18; generalize a.eval = ρ; intro z18; simp only [execOp]; go_simp) ⟨_, rfl, hR, ?_, fun _ _ _ h => h⟩
                        show endPsiFTF _ _ _ _ ((a.put (some 165) _).eval (.tmp 165)) w'
                        rw [at_slot hF hsz (by decide)]
                        exact rfl
                      · intro a w' hF hR hp
                        have g28 : a.eval (.tmp 164) = .bool false := hp ⟨28, Ground.guard⟩ (by simp) rfl
                        have p29 : a.eval (.tmp 165) = .bool false := hp ⟨29, Ground.data⟩ (by simp) rfl
                        refine op_yields_g (.bool true) rfl (wanted_yes (b := false) rfl rfl g28) (by revert p29; generalize a.eval = ρ; intro p29; simp only [execOp]; go_simp) ⟨_, rfl, hR, ?_, fun _ _ _ h => h⟩
                        show endPsiFTF _ _ _ _ ((a.put (some 166) _).eval (.tmp 166)) w'
                        rw [at_slot hF hsz (by decide)]
                        exact rfl
                      · intro a w' hF hR hp
                        have g22 : a.eval (.tmp 158) = .bool true := hp ⟨22, Ground.guard⟩ (by simp) rfl
                        have p28 : a.eval (.tmp 164) = .bool false := hp ⟨28, Ground.data⟩ (by simp) rfl
                        have p30 : a.eval (.tmp 166) = .bool true := hp ⟨30, Ground.data⟩ (by simp) rfl
                        refine op_yields_g (.bool true) rfl (wanted_yes (b := true) rfl rfl g22) (by have pc0 := Act.eval_const a (.bool true); revert p28 p30 pc0; generalize a.eval = ρ; intro p28 p30 pc0; simp only [execOp]; go_simp) ⟨_, rfl, hR, ?_, fun _ _ _ h => h⟩
                        show endPsiFTF _ _ _ _ ((a.put (some 167) _).eval (.tmp 167)) w'
                        rw [at_slot hF hsz (by decide)]
                        exact rfl
                      · intro a w' hF hR hp
                        have p22 : a.eval (.tmp 158) = .bool true := hp ⟨22, Ground.data⟩ (by simp) rfl
                        have p31 : a.eval (.tmp 167) = .bool true := hp ⟨31, Ground.data⟩ (by simp) rfl
                        refine op_yields (.bool true) rfl rfl (by have pc0 := Act.eval_const a (.bool false); revert p22 p31 pc0; generalize a.eval = ρ; intro p22 p31 pc0; simp only [execOp]; go_simp) ⟨_, rfl, hR, ?_, fun _ _ _ h => h⟩
                        show endPsiFTF _ _ _ _ ((a.put (some 168) _).eval (.tmp 168)) w'
                        rw [at_slot hF hsz (by decide)]
                        exact rfl
                      · intro a w' hF hR hp
                        have p32 : a.eval (.tmp 168) = .bool true := hp ⟨32, Ground.data⟩ (by simp) rfl
                        refine op_yields (.bool true) rfl rfl (by revert p32; generalize a.eval = ρ; intro p32; simp only [execOp]; go_simp) ⟨_, rfl, hR, ?_, fun _ _ _ h => h⟩
                        show endPsiFTF _ _ _ _ ((a.put (some 8) _).eval (.tmp 8)) w'
                        rw [at_slot hF hsz (by decide)]
                        exact rfl
                      · intro a W5 hF hR hp
                        have p33 : a.eval (.tmp 8) = .bool true := hp 33 (by decide)
                        have hlit : a = ⟨#[a.eval (.tmp 0), a.eval (.tmp 1), a.eval (.tmp 2), a.eval (.tmp 3), a.eval (.tmp 4), a.eval (.tmp 5), a.eval (.tmp 6), a.eval (.tmp 7), a.eval (.tmp 8), a.eval (.tmp 9), a.eval (.tmp 10), a.eval (.tmp 11), a.eval (.tmp 12), a.eval (.tmp 13), a.eval (.tmp 14), a.eval (.tmp 15), a.eval (.tmp 16), a.eval (.tmp 17), a.eval (.tmp 18), a.eval (.tmp 19), a.eval (.tmp 20), a.eval (.tmp 21), a.eval (.tmp 22), a.eval (.tmp 23), a.eval (.tmp 24), a.eval (.tmp 25), a.eval (.tmp 26), a.eval (.tmp 27), a.eval (.tmp 28), a.eval (.tmp 29), a.eval (.tmp 30), a.eval (.tmp 31), a.eval (.tmp 32), a.eval (.tmp 33), a.eval (.tmp 34), a.eval (.tmp 35), a.eval (.tmp 36), a.eval (.tmp 37), a.eval (.tmp 38), a.eval (.tmp 39), a.eval (.tmp 40), a.eval (.tmp 41), a.eval (.tmp 42), a.eval (.tmp 43), a.eval (.tmp 44), a.eval (.tmp 45), a.eval (.tmp 46), a.eval (.tmp 47), a.eval (.tmp 48), a.eval (.tmp 49), a.eval (.tmp 50), a.eval (.tmp 51), a.eval (.tmp 52), a.eval (.tmp 53), a.eval (.tmp 54), a.eval (.tmp 55), a.eval (.tmp 56), a.eval (.tmp 57), a.eval (.tmp 58), a.eval (.tmp 59), a.eval (.tmp 60), a.eval (.tmp 61), a.eval (.tmp 62), a.eval (.tmp 63), a.eval (.tmp 64), a.eval (.tmp 65), a.eval (.tmp 66), a.eval (.tmp 67), a.eval (.tmp 68), a.eval (.tmp 69), a.eval (.tmp 70), a.eval (.tmp 71), a.eval (.tmp 72), a.eval (.tmp 73), a.eval (.tmp 74), a.eval (.tmp 75), a.eval (.tmp 76), a.eval (.tmp 77), a.eval (.tmp 78), a.eval (.tmp 79), a.eval (.tmp 80), a.eval (.tmp 81), a.eval (.tmp 82), a.eval (.tmp 83), a.eval (.tmp 84), a.eval (.tmp 85), a.eval (.tmp 86), a.eval (.tmp 87), a.eval (.tmp 88), a.eval (.tmp 89), a.eval (.tmp 90), a.eval (.tmp 91), a.eval (.tmp 92), a.eval (.tmp 93), a.eval (.tmp 94), a.eval (.tmp 95), a.eval (.tmp 96), a.eval (.tmp 97), a.eval (.tmp 98), a.eval (.tmp 99), a.eval (.tmp 100), a.eval (.tmp 101), a.eval (.tmp 102), a.eval (.tmp 103), a.eval (.tmp 104), a.eval (.tmp 105), a.eval (.tmp 106), a.eval (.tmp 107), a.eval (.tmp 108), a.eval (.tmp 109), a.eval (.tmp 110), a.eval (.tmp 111), a.eval (.tmp 112), a.eval (.tmp 113), a.eval (.tmp 114), a.eval (.tmp 115), a.eval (.tmp 116), a.eval (.tmp 117), a.eval (.tmp 118), a.eval (.tmp 119), a.eval (.tmp 120), a.eval (.tmp 121), a.eval (.tmp 122), a.eval (.tmp 123), a.eval (.tmp 124), a.eval (.tmp 125), a.eval (.tmp 126), a.eval (.tmp 127), a.eval (.tmp 128), a.eval (.tmp 129), a.eval (.tmp 130), a.eval (.tmp 131), a.eval (.tmp 132), a.eval (.tmp 133), a.eval (.tmp 134), a.eval (.tmp 135), a.eval (.tmp 136), a.eval (.tmp 137), a.eval (.tmp 138), a.eval (.tmp 139), a.eval (.tmp 140), a.eval (.tmp 141), a.eval (.tmp 142), a.eval (.tmp 143), a.eval (.tmp 144), a.eval (.tmp 145), a.eval (.tmp 146), a.eval (.tmp 147), a.eval (.tmp 148), a.eval (.tmp 149), a.eval (.tmp 150), a.eval (.tmp 151), a.eval (.tmp 152), a.eval (.tmp 153), a.eval (.tmp 154), a.eval (.tmp 155), a.eval (.tmp 156), a.eval (.tmp 157), a.eval (.tmp 158), a.eval (.tmp 159), a.eval (.tmp 160), a.eval (.tmp 161), a.eval (.tmp 162), a.eval (.tmp 163), a.eval (.tmp 164), a.eval (.tmp 165), a.eval (.tmp 166), a.eval (.tmp 167), a.eval (.tmp 168)], []⟩ := act_lit a 169 (hF.size.trans hsz) (hF.defers.trans hdf)
                        rw [p33] at hlit
                        exact (congrArg (fun x => K9 x W5) hlit).mpr (HTAIL9.out (a.eval (.tmp 0)) (a.eval (.tmp 1)) (a.eval (.tmp 2)) (a.eval (.tmp 3)) (a.eval (.tmp 4)) (a.eval (.tmp 5)) (a.eval (.tmp 6)) (a.eval (.tmp 7)) (a.eval (.tmp 9)) (a.eval (.tmp 10)) (a.eval (.tmp 11)) (a.eval (.tmp 12)) (a.eval (.tmp 13)) (a.eval (.tmp 14)) (a.eval (.tmp 15)) (a.eval (.tmp 16)) (a.eval (.tmp 17)) (a.eval (.tmp 18)) (a.eval (.tmp 19)) (a.eval (.tmp 20)) (a.eval (.tmp 21)) (a.eval (.tmp 22)) (a.eval (.tmp 23)) (a.eval (.tmp 24)) (a.eval (.tmp 25)) (a.eval (.tmp 26)) (a.eval (.tmp 27)) (a.eval (.tmp 28)) (a.eval (.tmp 29)) (a.eval (.tmp 30)) (a.eval (.tmp 31)) (a.eval (.tmp 32)) (a.eval (.tmp 33)) (a.eval (.tmp 34)) (a.eval (.tmp 35)) (a.eval (.tmp 36)) (a.eval (.tmp 37)) (a.eval (.tmp 38)) (a.eval (.tmp 39)) (a.eval (.tmp 40)) (a.eval (.tmp 41)) (a.eval (.tmp 42)) (a.eval (.tmp 43)) (a.eval (.tmp 44)) (a.eval (.tmp 45)) (a.eval (.tmp 46)) (a.eval (.tmp 47)) (a.eval (.tmp 48)) (a.eval (.tmp 49)) (a.eval (.tmp 50)) (a.eval (.tmp 51)) (a.eval (.tmp 52)) (a.eval (.tmp 53)) (a.eval (.tmp 54)) (a.eval (.tmp 55)) (a.eval (.tmp 56)) (a.eval (.tmp 57)) (a.eval (.tmp 58)) (a.eval (.tmp 59)) (a.eval (.tmp 60)) (a.eval (.tmp 61)) (a.eval (.tmp 62)) (a.eval (.tmp 63)) (a.eval (.tmp 64)) (a.eval (.tmp 65)) (a.eval (.tmp 66)) (a.eval (.tmp 67)) (a.eval (.tmp 68)) (a.eval (.tmp 69)) (a.eval (.tmp 70)) (a.eval (.tmp 71)) (a.eval (.tmp 72)) (a.eval (.tmp 73)) (a.eval (.tmp 74)) (a.eval (.tmp 75)) (a.eval (.tmp 76)) (a.eval (.tmp 77)) (a.eval (.tmp 78)) (a.eval (.tmp 79)) (a.eval (.tmp 80)) (a.eval (.tmp 81)) (a.eval (.tmp 82)) (a.eval (.tmp 83)) (a.eval (.tmp 84)) (a.eval (.tmp 85)) (a.eval (.tmp 86)) (a.eval (.tmp 87)) (a.eval (.tmp 88)) (a.eval (.tmp 89)) (a.eval (.tmp 90)) (a.eval (.tmp 91)) (a.eval (.tmp 92)) (a.eval (.tmp 93)) (a.eval (.tmp 94)) (a.eval (.tmp 95)) (a.eval (.tmp 96)) (a.eval (.tmp 97)) (a.eval (.tmp 98)) (a.eval (.tmp 99)) (a.eval (.tmp 100)) (a.eval (.tmp 101)) (a.eval (.tmp 102)) (a.eval (.tmp 103)) (a.eval (.tmp 104)) (a.eval (.tmp 105)) (a.eval (.tmp 106)) (a.eval (.tmp 107)) (a.eval (.tmp 108)) (a.eval (.tmp 109)) (a.eval (.tmp 110)) (a.eval (.tmp 111)) (a.eval (.tmp 112)) (a.eval (.tmp 113)) (a.eval (.tmp 114)) (a.eval (.tmp 115)) (a.eval (.tmp 116)) (a.eval (.tmp 117)) (a.eval (.tmp 118)) (a.eval (.tmp 119)) (a.eval (.tmp 120)) (a.eval (.tmp 121)) (a.eval (.tmp 122)) (a.eval (.tmp 123)) (a.eval (.tmp 124)) (a.eval (.tmp 125)) (a.eval (.tmp 126)) (a.eval (.tmp 127)) (a.eval (.tmp 128)) (a.eval (.tmp 129)) (a.eval (.tmp 130)) (a.eval (.tmp 131)) (a.eval (.tmp 132)) (a.eval (.tmp 133)) (a.eval (.tmp 134)) (a.eval (.tmp 135)) (a.eval (.tmp 136)) (a.eval (.tmp 137)) (a.eval (.tmp 138)) (a.eval (.tmp 139)) (a.eval (.tmp 140)) (a.eval (.tmp 141)) (a.eval (.tmp 142)) (a.eval (.tmp 143)) (a.eval (.tmp 144)) (a.eval (.tmp 145)) (a.eval (.tmp 146)) (a.eval (.tmp 147)) (a.eval (.tmp 148)) (a.eval (.tmp 149)) (a.eval (.tmp 150)) (a.eval (.tmp 151)) (a.eval (.tmp 152)) (a.eval (.tmp 153)) (a.eval (.tmp 154)) (a.eval (.tmp 155)) (a.eval (.tmp 156)) (a.eval (.tmp 157)) (a.eval (.tmp 158)) (a.eval (.tmp 159)) (a.eval (.tmp 160)) (a.eval (.tmp 161)) (a.eval (.tmp 162)) (a.eval (.tmp 163)) (a.eval (.tmp 164)) (a.eval (.tmp 165)) (a.eval (.tmp 166)) (a.eval (.tmp 167)) (a.eval (.tmp 168)) W5 hR)
                  · have hmore : (L.length : Int) < (LX.length : Int) := by rw [hLX]; simp; omega
                    have hge' : (ST.length : Int) - 1 ≤ (kn : Int) := by omega
                    have hlx : L.length < LX.length := by rw [hLX]; simp
                    obtain ⟨b3, off3, rfl, hb3, hc3⟩ := HSX.out.resolve_left (by intro e; rw [e] at hlx; simp at hlx)
                    have hcx := (hc3 L.length hlx).below HBR.out hb3
                    have htl : LX.getD L.length txz = toldOf u := by rw [hLX, List.getD, List.getElem?_append_right (Nat.le_refl _)]; simp
                    rw [htl] at hcx
                    have htq : (toldOf u).seq = N ∧ (toldOf u).info = u.info ∧ (toldOf u).rev = u.rev := ⟨HUQ.out, rfl, rfl⟩
                    obtain ⟨tk, htk⟩ : ∃ tk, tk = toldOf u := ⟨_, rfl⟩
                    rw [← htk] at hcx htq
                    have HTQ := hide htq
                    clear htk htl hc3 htq hLX
                    obtain ⟨m0, n0', m1, n1', m2, n2', ⟨y0, y1, y2, y3, y4, y5, y6, y7, y8, y9⟩, hTx⟩ := hcx
                    have HTX := hide hTx
                    have KTR := hide (boxKeep HBR.out (show w.heap.size + 1 < W9.heap.size by omega) KT4.out)
                    obtain ⟨⟨t0, t1, t2, t3, t4, t5, t6, t7, t8, t9⟩, tf⟩ := box10 KTR.out
                    have HTR := hide (HT4.out.below HBR.out)
                    have hb3r : b3 < wr.heap.size := by omega
                    have hbtr : w.heap.size + 1 < wr.heap.size := by omega
                    have Y0 := hide y0
                    have Y1 := hide y1
                    have Y2 := hide y2
                    have Y3 := hide y3
                    have Y4 := hide y4
                    have Y5 := hide y5
                    have Y6 := hide y6
                    have Y7 := hide y7
                    have Y8 := hide y8
                    have Y9 := hide y9
                    have T0 := hide t0
                    have T1 := hide t1
                    have T2 := hide t2
                    have T3 := hide t3
                    have T4 := hide t4
                    have T5 := hide t5
                    have T6 := hide t6
                    have T7 := hide t7
                    have T8 := hide t8
                    have T9 := hide t9
                    clear hTx y0 y1 y2 y3 y4 y5 y6 y7 y8 y9 t0 t1 t2 t3 t4 t5 t6 t7 t8 t9 tf
                    go_wp2
                    rename_i K9 hK9
                    by_cases hlt9 : (kn : Int) < (ST.length : Int)
                    · skip
                      have TAIL9 : ∀ (g0 g1 g2 g3 g4 g5 g6 g7 g9 g10 g11 g12 g13 g14 g15 g16 g17 g18 g19 g20 g21 g22 g23 g24 g25 g26 g27 g28 g29 g30 g31 g32 g33 g34 g35 g36 g37 g38 g39 g40 g41 g42 g43 g44 g45 g46 g47 g48 g49 g50 g51 g52 g53 g54 g55 g56 g57 g58 g59 g60 g61 g62 g63 g64 g65 g66 g67 g68 g69 g70 g71 g72 g73 g74 g75 g76 g77 g78 g79 g80 g81 g82 g83 g84 g85 g86 g87 g88 g89 g90 g91 g92 g93 g94 g95 g96 g97 g98 g99 g100 g101 g102 g103 g104 g105 g106 g107 g108 g109 g110 g111 g112 g113 g114 g115 g116 g117 g118 g119 g120 g121 g122 g123 g124 g125 g126 g127 g128 g129 g130 g131 g132 g133 g134 g135 g136 g137 g138 g139 g140 g141 g142 g143 g144 g145 g146 g147 g148 g149 g150 g151 g152 g153 g154 g155 g156 g157 g158 g159 g160 g161 g162 g163 g164 g165 g166 g167 g168 : Value) (W5 : World), Below wr.heap.size wr W5 → K9 ⟨#[g0, g1, g2, g3, g4, g5, g6, g7, .bool true, g9, g10, g11, g12, g13, g14, g15, g16, g17, g18, g19, g20, g21, g22, g23, g24, g25, g26, g27, g28, g29, g30, g31, g32, g33, g34, g35, g36, g37, g38, g39, g40, g41, g42, g43, g44, g45, g46, g47, g48, g49, g50, g51, g52, g53, g54, g55, g56, g57, g58, g59, g60, g61, g62, g63, g64, g65, g66, g67, g68, g69, g70, g71, g72, g73, g74, g75, g76, g77, g78, g79, g80, g81, g82, g83, g84, g85, g86, g87, g88, g89, g90, g91, g92, g93, g94, g95, g96, g97, g98, g99, g100, g101, g102, g103, g104, g105, g106, g107, g108, g109, g110, g111, g112, g113, g114, g115, g116, g117, g118, g119, g120, g121, g122, g123, g124, g125, g126, g127, g128, g129, g130, g131, g132, g133, g134, g135, g136, g137, g138, g139, g140, g141, g142, g143, g144, g145, g146, g147, g148, g149, g150, g151, g152, g153, g154, g155, g156, g157, g158, g159, g160, g161, g162, g163, g164, g165, g166, g167, g168], []⟩ W5 := by
                        intro g0 g1 g2 g3 g4 g5 g6 g7 g9 g10 g11 g12 g13 g14 g15 g16 g17 g18 g19 g20 g21 g22 g23 g24 g25 g26 g27 g28 g29 g30 g31 g32 g33 g34 g35 g36 g37 g38 g39 g40 g41 g42 g43 g44 g45 g46 g47 g48 g49 g50 g51 g52 g53 g54 g55 g56 g57 g58 g59 g60 g61 g62 g63 g64 g65 g66 g67 g68 g69 g70 g71 g72 g73 g74 g75 g76 g77 g78 g79 g80 g81 g82 g83 g84 g85 g86 g87 g88 g89 g90 g91 g92 g93 g94 g95 g96 g97 g98 g99 g100 g101 g102 g103 g104 g105 g106 g107 g108 g109 g110 g111 g112 g113 g114 g115 g116 g117 g118 g119 g120 g121 g122 g123 g124 g125 g126 g127 g128 g129 g130 g131 g132 g133 g134 g135 g136 g137 g138 g139 g140 g141 g142 g143 g144 g145 g146 g147 g148 g149 g150 g151 g152 g153 g154 g155 g156 g157 g158 g159 g160 g161 g162 g163 g164 g165 g166 g167 g168 W5 hb5
                        apply hK9
                        clear hK9
                        go_wp2
                        go_ret
                        exact ⟨rfl, bthen (bthen HB4.out HBR.out) hb5⟩
                      have HTAIL9 := hide TAIL9
                      clear TAIL9 hK9
                      refine (show ∀ A0 : Act, A0 = _ → Code.wp Tryz.prog _ _ A0 _ from fun A0 hA0 => ?_) _ rfl
                      have hsz : A0.tmps.size = 169 := by rw [hA0]; rfl
                      have hdf : A0.defers = [] := by rw [hA0]
                      have v5 : A0.eval (.tmp 5) = .pointer (some ⟨w.heap.size + 1, 0, none⟩) := by rw [hA0]; rfl
                      have v9 : A0.eval (.tmp 9) = .pointer (some ⟨w3.heap.size, 0, none⟩) := by rw [hA0]; rfl
                      have v12 : A0.eval (.tmp 12) = .slice sa ST.length sc := by rw [hA0]; rfl
                      have v13 : A0.eval (.tmp 13) = .int .i64 (kn : Int) := by rw [hA0]; rfl
                      have v15 : A0.eval (.tmp 15) = .pointer (some ⟨G, 0, none⟩) := by rw [hA0]; rfl
                      have v18 : A0.eval (.tmp 18) = .bool true := by rw [hA0]; rfl
                      clear hA0
                      refine wp_region_slots (fun w' => Below wr.heap.size wr w') [136, 137, 138, 139, 140, 141, 142, 143, 144, 145, 146, 147, 148, 149, 150, 151, 152, 153, 154, 155, 156, 157, 158, 159, 160, 161, 162, 163, 164, 165, 166, 167, 168, 8] (endPsiTTT (.slice (some ⟨b3, off3, none⟩) LX.length xvc) (.slice va L.length vc) (.agg #[.int .i64 tk.seq, .slice m0 tk.info.length n0', .slice m1 tk.data.length n1', .slice m2 tk.rev.length n2', .bool tk.h0.on, .int .i64 tk.h0.left, .bool tk.h1.on, .int .i64 tk.h1.left, .bool tk.h2.on, .int .i64 tk.h2.left]) (.agg #[.int .i64 N, .slice a0 t.info.length a1, .slice a2 t.data.length a3, .slice a4 t.rev.length a5, .bool t.h0.on, .int .i64 t.h0.left, .bool t.h1.on, .int .i64 t.h1.left, .bool t.h2.on, .int .i64 t.h2.left]) (.slice sa ST.length sc) (.pointer (some ⟨b3, off3 + L.length * 10, none⟩)) (L.length : Int) (kn : Int) (ST.length : Int) G w3.heap.size) (by kernel_rfl) (by kernel_rfl) (by kernel_rfl) ((Below.refl _ _).drew) ⟨?_, ?_, ?_, ?_, ?_, ?_, ?_, ?_, ?_, ?_, ?_, ?_, ?_, ?_, ?_, ?_, ?_, ?_, ?_, ?_, ?_, ?_, ?_, ?_, ?_, ?_, ?_, ?_, ?_, ?_, ?_, ?_, ?_, ?_, trivial⟩ ?_
                      · intro a w' hF hR hp
                        have z18 := (hF.other 18 rfl).trans v18
                        refine op_yields (.bool true) rfl rfl (by revert z18; generalize a.eval = ρ; intro z18; simp only [execOp]; go_simp) ⟨_, rfl, hR, ?_, fun _ _ _ h => h⟩
                        show endPsiTTT _ _ _ _ _ _ _ _ _ _ _ _ ((a.put (some 136) _).eval (.tmp 136)) w'
                        rw [at_slot hF hsz (by decide)]
                        exact rfl
                      · intro a w' hF hR hp
                        have p0 : a.eval (.tmp 136) = .bool true := hp ⟨0, Ground.data⟩ (by simp) rfl
                        refine op_yields (.bool false) rfl rfl (by revert p0; generalize a.eval = ρ; intro p0; simp only [execOp]; go_simp) ⟨_, rfl, hR, ?_, fun _ _ _ h => h⟩
                        show endPsiTTT _ _ _ _ _ _ _ _ _ _ _ _ ((a.put (some 137) _).eval (.tmp 137)) w'
                        rw [at_slot hF hsz (by decide)]
                        exact rfl
                      · intro a w' hF hR hp
                        have p1 : a.eval (.tmp 137) = .bool false := hp ⟨1, Ground.data⟩ (by simp) rfl
                        refine op_yields (.bool false) rfl rfl (by revert p1; generalize a.eval = ρ; intro p1; simp only [execOp]; go_simp) ⟨_, rfl, hR, ?_, fun _ _ _ h => h⟩
                        show endPsiTTT _ _ _ _ _ _ _ _ _ _ _ _ ((a.put (some 138) _).eval (.tmp 138)) w'
                        rw [at_slot hF hsz (by decide)]
                        exact rfl
                      · intro a w' hF hR hp
                        have g2 : a.eval (.tmp 138) = .bool false := hp ⟨2, Ground.guard⟩ (by simp) rfl
                        have z15 := (hF.other 15 rfl).trans v15
                        refine op_yields_g (.pointer (some ⟨G, 0, none⟩)) rfl (wanted_yes (b := false) rfl rfl g2) (by revert z15; generalize a.eval = ρ; intro z15; simp only [execOp]; go_simp) ⟨_, rfl, hR, ?_, fun _ _ _ h => h⟩
                        show endPsiTTT _ _ _ _ _ _ _ _ _ _ _ _ ((a.put (some 139) _).eval (.tmp 139)) w'
                        rw [at_slot hF hsz (by decide)]
                        exact rfl
                      · intro a w' hF hR hp
                        have g2 : a.eval (.tmp 138) = .bool false := hp ⟨2, Ground.guard⟩ (by simp) rfl
                        have p3 : a.eval (.tmp 139) = .pointer (some ⟨G, 0, none⟩) := hp ⟨3, Ground.data⟩ (by simp) rfl
                        have c0 := cellKeep hR hGr R0.out
                        refine op_yields_g (.slice (some ⟨b3, off3, none⟩) LX.length xvc) rfl (wanted_yes (b := false) rfl rfl g2) (by revert p3; generalize a.eval = ρ; intro p3; simp only [execOp]; go_simp) ⟨_, rfl, hR, ?_, fun _ _ _ h => h⟩
                        show endPsiTTT _ _ _ _ _ _ _ _ _ _ _ _ ((a.put (some 140) _).eval (.tmp 140)) w'
                        rw [at_slot hF hsz (by decide)]
                        exact rfl
                      · intro a w' hF hR hp
                        have g2 : a.eval (.tmp 138) = .bool false := hp ⟨2, Ground.guard⟩ (by simp) rfl
                        have z9 := (hF.other 9 rfl).trans v9
                        refine op_yields_g (.pointer (some ⟨w3.heap.size, 0, none⟩)) rfl (wanted_yes (b := false) rfl rfl g2) (by revert z9; generalize a.eval = ρ; intro z9; simp only [execOp]; go_simp) ⟨_, rfl, hR, ?_, fun _ _ _ h => h⟩
                        show endPsiTTT _ _ _ _ _ _ _ _ _ _ _ _ ((a.put (some 141) _).eval (.tmp 141)) w'
                        rw [at_slot hF hsz (by decide)]
                        exact rfl
                      · intro a w' hF hR hp
                        have g2 : a.eval (.tmp 138) = .bool false := hp ⟨2, Ground.guard⟩ (by simp) rfl
                        have p5 : a.eval (.tmp 141) = .pointer (some ⟨w3.heap.size, 0, none⟩) := hp ⟨5, Ground.data⟩ (by simp) rfl
                        have c0 := cellKeep hR hFr Z0.out
                        refine op_yields_g (.slice va L.length vc) rfl (wanted_yes (b := false) rfl rfl g2) (by revert p5; generalize a.eval = ρ; intro p5; simp only [execOp]; go_simp) ⟨_, rfl, hR, ?_, fun _ _ _ h => h⟩
                        show endPsiTTT _ _ _ _ _ _ _ _ _ _ _ _ ((a.put (some 142) _).eval (.tmp 142)) w'
                        rw [at_slot hF hsz (by decide)]
                        exact rfl
                      · intro a w' hF hR hp
                        have g2 : a.eval (.tmp 138) = .bool false := hp ⟨2, Ground.guard⟩ (by simp) rfl
                        have p6 : a.eval (.tmp 142) = .slice va L.length vc := hp ⟨6, Ground.data⟩ (by simp) rfl
                        refine op_yields_g (.int .i64 (L.length : Int)) rfl (wanted_yes (b := false) rfl rfl g2) (by revert p6; generalize a.eval = ρ; intro p6; simp only [execOp]; go_simp) ⟨_, rfl, hR, ?_, fun _ _ _ h => h⟩
                        show endPsiTTT _ _ _ _ _ _ _ _ _ _ _ _ ((a.put (some 143) _).eval (.tmp 143)) w'
                        rw [at_slot hF hsz (by decide)]
                        exact rfl
                      · intro a w' hF hR hp
                        have g2 : a.eval (.tmp 138) = .bool false := hp ⟨2, Ground.guard⟩ (by simp) rfl
                        have p4 : a.eval (.tmp 140) = .slice (some ⟨b3, off3, none⟩) LX.length xvc := hp ⟨4, Ground.data⟩ (by simp) rfl
                        have p7 : a.eval (.tmp 143) = .int .i64 (L.length : Int) := hp ⟨7, Ground.data⟩ (by simp) rfl
                        have hk0 : (0 : Int) ≤ (L.length : Int) := by omega
                        refine op_yields_g (.pointer (some ⟨b3, off3 + L.length * 10, none⟩)) rfl (wanted_yes (b := false) rfl rfl g2) (by revert p4 p7; generalize a.eval = ρ; intro p4 p7; simp only [execOp]; go_simp) ⟨_, rfl, hR, ?_, fun _ _ _ h => h⟩
                        show endPsiTTT _ _ _ _ _ _ _ _ _ _ _ _ ((a.put (some 144) _).eval (.tmp 144)) w'
                        rw [at_slot hF hsz (by decide)]
                        exact rfl
                      · intro a w' hF hR hp
                        have g2 : a.eval (.tmp 138) = .bool false := hp ⟨2, Ground.guard⟩ (by simp) rfl
                        have p8 : a.eval (.tmp 144) = .pointer (some ⟨b3, off3 + L.length * 10, none⟩) := hp ⟨8, Ground.data⟩ (by simp) rfl
                        have c0 := cellKeep hR hb3r Y0.out
                        have c1 := cellKeep hR hb3r Y1.out
                        have c2 := cellKeep hR hb3r Y2.out
                        have c3 := cellKeep hR hb3r Y3.out
                        have c4 := cellKeep hR hb3r Y4.out
                        have c5 := cellKeep hR hb3r Y5.out
                        have c6 := cellKeep hR hb3r Y6.out
                        have c7 := cellKeep hR hb3r Y7.out
                        have c8 := cellKeep hR hb3r Y8.out
                        have c9 := cellKeep hR hb3r Y9.out
                        refine op_yields_g (.agg #[.int .i64 tk.seq, .slice m0 tk.info.length n0', .slice m1 tk.data.length n1', .slice m2 tk.rev.length n2', .bool tk.h0.on, .int .i64 tk.h0.left, .bool tk.h1.on, .int .i64 tk.h1.left, .bool tk.h2.on, .int .i64 tk.h2.left]) rfl (wanted_yes (b := false) rfl rfl g2) (by revert p8; generalize a.eval = ρ; intro p8; simp only [execOp]; go_simp) ⟨_, rfl, hR, ?_, fun _ _ _ h => h⟩
                        show endPsiTTT _ _ _ _ _ _ _ _ _ _ _ _ ((a.put (some 145) _).eval (.tmp 145)) w'
                        rw [at_slot hF hsz (by decide)]
                        exact rfl
                      · intro a w' hF hR hp
                        have g2 : a.eval (.tmp 138) = .bool false := hp ⟨2, Ground.guard⟩ (by simp) rfl
                        have z5 := (hF.other 5 rfl).trans v5
                        have c0 := cellKeep hR hbtr T0.out
                        have c1 := cellKeep hR hbtr T1.out
                        have c2 := cellKeep hR hbtr T2.out
                        have c3 := cellKeep hR hbtr T3.out
                        have c4 := cellKeep hR hbtr T4.out
                        have c5 := cellKeep hR hbtr T5.out
                        have c6 := cellKeep hR hbtr T6.out
                        have c7 := cellKeep hR hbtr T7.out
                        have c8 := cellKeep hR hbtr T8.out
                        have c9 := cellKeep hR hbtr T9.out
                        refine op_yields_g (.agg #[.int .i64 N, .slice a0 t.info.length a1, .slice a2 t.data.length a3, .slice a4 t.rev.length a5, .bool t.h0.on, .int .i64 t.h0.left, .bool t.h1.on, .int .i64 t.h1.left, .bool t.h2.on, .int .i64 t.h2.left]) rfl (wanted_yes (b := false) rfl rfl g2) (by revert z5; generalize a.eval = ρ; intro z5; simp only [execOp]; go_simp) ⟨_, rfl, hR, ?_, fun _ _ _ h => h⟩
                        show endPsiTTT _ _ _ _ _ _ _ _ _ _ _ _ ((a.put (some 146) _).eval (.tmp 146)) w'
                        rw [at_slot hF hsz (by decide)]
                        exact rfl
                      · intro a w' hF hR hp
                        have g2 : a.eval (.tmp 138) = .bool false := hp ⟨2, Ground.guard⟩ (by simp) rfl
                        have p9 : a.eval (.tmp 145) = .agg #[.int .i64 tk.seq, .slice m0 tk.info.length n0', .slice m1 tk.data.length n1', .slice m2 tk.rev.length n2', .bool tk.h0.on, .int .i64 tk.h0.left, .bool tk.h1.on, .int .i64 tk.h1.left, .bool tk.h2.on, .int .i64 tk.h2.left] := hp ⟨9, Ground.data⟩ (by simp) rfl
                        have p10 : a.eval (.tmp 146) = .agg #[.int .i64 N, .slice a0 t.info.length a1, .slice a2 t.data.length a3, .slice a4 t.rev.length a5, .bool t.h0.on, .int .i64 t.h0.left, .bool t.h1.on, .int .i64 t.h1.left, .bool t.h2.on, .int .i64 t.h2.left] := hp ⟨10, Ground.data⟩ (by simp) rfl
                        refine op_calls_g 35 #[.agg #[.int .i64 tk.seq, .slice m0 tk.info.length n0', .slice m1 tk.data.length n1', .slice m2 tk.rev.length n2', .bool tk.h0.on, .int .i64 tk.h0.left, .bool tk.h1.on, .int .i64 tk.h1.left, .bool tk.h2.on, .int .i64 tk.h2.left], .agg #[.int .i64 N, .slice a0 t.info.length a1, .slice a2 t.data.length a3, .slice a4 t.rev.length a5, .bool t.h0.on, .int .i64 t.h0.left, .bool t.h1.on, .int .i64 t.h1.left, .bool t.h2.on, .int .i64 t.h2.left]] rfl (wanted_yes (b := false) rfl rfl g2) (by have pf := Act.eval_func a 35; revert p9 p10 pf; generalize a.eval = ρ; intro p9 p10 pf; simp only [execOp]; go_simp) _ (alike_any _ _ tk u _ (HTX.out.below hR) (HTR.out.below hR) (HUQ.out.trans HTQ.out.1.symm) HTQ.out.2.1.symm HTQ.out.2.2.symm) ?_
                        rintro e w2 ⟨rfl, hb2⟩
                        refine ⟨_, rfl, _, rfl, bthen hR hb2, ?_, endPsiTTT_below hb2⟩
                        show endPsiTTT _ _ _ _ _ _ _ _ _ _ _ _ ((a.put (some 147) _).eval (.tmp 147)) w2
                        rw [at_slot hF hsz (by decide)]
                        exact rfl
                      · intro a w' hF hR hp
                        have p2 : a.eval (.tmp 138) = .bool false := hp ⟨2, Ground.data⟩ (by simp) rfl
                        have p11 : a.eval (.tmp 147) = .bool true := hp ⟨11, Ground.data⟩ (by simp) rfl
                        refine op_yields (.bool true) rfl rfl (by have pc0 := Act.eval_const a (.bool true); revert p2 p11 pc0; generalize a.eval = ρ; intro p2 p11 pc0; simp only [execOp]; go_simp) ⟨_, rfl, hR, ?_, fun _ _ _ h => h⟩
                        show endPsiTTT _ _ _ _ _ _ _ _ _ _ _ _ ((a.put (some 148) _).eval (.tmp 148)) w'
                        rw [at_slot hF hsz (by decide)]
                        exact rfl
                      · intro a w' hF hR hp
                        have p12 : a.eval (.tmp 148) = .bool true := hp ⟨12, Ground.data⟩ (by simp) rfl
                        refine op_yields (.bool true) rfl rfl (by revert p12; generalize a.eval = ρ; intro p12; simp only [execOp]; go_simp) ⟨_, rfl, hR, ?_, fun _ _ _ h => h⟩
                        show endPsiTTT _ _ _ _ _ _ _ _ _ _ _ _ ((a.put (some 149) _).eval (.tmp 149)) w'
                        rw [at_slot hF hsz (by decide)]
                        exact rfl
                      · intro a w' hF hR hp
                        have g13 : a.eval (.tmp 149) = .bool true := hp ⟨13, Ground.guard⟩ (by simp) rfl
                        have z13 := (hF.other 13 rfl).trans v13
                        refine op_yields_g (.int .i64 (kn : Int)) rfl (wanted_yes (b := true) rfl rfl g13) (by revert z13; generalize a.eval = ρ; intro z13; simp only [execOp]; go_simp) ⟨_, rfl, hR, ?_, fun _ _ _ h => h⟩
                        show endPsiTTT _ _ _ _ _ _ _ _ _ _ _ _ ((a.put (some 150) _).eval (.tmp 150)) w'
                        rw [at_slot hF hsz (by decide)]
                        exact rfl
                      · intro a w' hF hR hp
                        have g13 : a.eval (.tmp 149) = .bool true := hp ⟨13, Ground.guard⟩ (by simp) rfl
                        have z12 := (hF.other 12 rfl).trans v12
                        refine op_yields_g (.slice sa ST.length sc) rfl (wanted_yes (b := true) rfl rfl g13) (by revert z12; generalize a.eval = ρ; intro z12; simp only [execOp]; go_simp) ⟨_, rfl, hR, ?_, fun _ _ _ h => h⟩
                        show endPsiTTT _ _ _ _ _ _ _ _ _ _ _ _ ((a.put (some 151) _).eval (.tmp 151)) w'
                        rw [at_slot hF hsz (by decide)]
                        exact rfl
                      · intro a w' hF hR hp
                        have g13 : a.eval (.tmp 149) = .bool true := hp ⟨13, Ground.guard⟩ (by simp) rfl
                        have p15 : a.eval (.tmp 151) = .slice sa ST.length sc := hp ⟨15, Ground.data⟩ (by simp) rfl
                        refine op_yields_g (.int .i64 (ST.length : Int)) rfl (wanted_yes (b := true) rfl rfl g13) (by revert p15; generalize a.eval = ρ; intro p15; simp only [execOp]; go_simp) ⟨_, rfl, hR, ?_, fun _ _ _ h => h⟩
                        show endPsiTTT _ _ _ _ _ _ _ _ _ _ _ _ ((a.put (some 152) _).eval (.tmp 152)) w'
                        rw [at_slot hF hsz (by decide)]
                        exact rfl
                      · intro a w' hF hR hp
                        have g13 : a.eval (.tmp 149) = .bool true := hp ⟨13, Ground.guard⟩ (by simp) rfl
                        have p14 : a.eval (.tmp 150) = .int .i64 (kn : Int) := hp ⟨14, Ground.data⟩ (by simp) rfl
                        have p16 : a.eval (.tmp 152) = .int .i64 (ST.length : Int) := hp ⟨16, Ground.data⟩ (by simp) rfl
                        refine op_yields_g (.bool true) rfl (wanted_yes (b := true) rfl rfl g13) (by revert p14 p16; generalize a.eval = ρ; intro p14 p16; simp only [execOp]; go_simp) ⟨_, rfl, hR, ?_, fun _ _ _ h => h⟩
                        show endPsiTTT _ _ _ _ _ _ _ _ _ _ _ _ ((a.put (some 153) _).eval (.tmp 153)) w'
                        rw [at_slot hF hsz (by decide)]
                        exact rfl
                      · intro a w' hF hR hp
                        have g13 : a.eval (.tmp 149) = .bool true := hp ⟨13, Ground.guard⟩ (by simp) rfl
                        have p17 : a.eval (.tmp 153) = .bool true := hp ⟨17, Ground.data⟩ (by simp) rfl
                        refine op_yields_g (.bool true) rfl (wanted_yes (b := true) rfl rfl g13) (by revert p17; generalize a.eval = ρ; intro p17; simp only [execOp]; go_simp) ⟨_, rfl, hR, ?_, fun _ _ _ h => h⟩
                        show endPsiTTT _ _ _ _ _ _ _ _ _ _ _ _ ((a.put (some 154) _).eval (.tmp 154)) w'
                        rw [at_slot hF hsz (by decide)]
                        exact rfl
                      · intro a w' hF hR hp
                        have g18 : a.eval (.tmp 154) = .bool true := hp ⟨18, Ground.guard⟩ (by simp) rfl
                        refine op_no rfl rfl rfl g18 ⟨_, rfl, hR, trivial, fun _ _ _ h => h⟩
                      · intro a w' hF hR hp
                        have g13 : a.eval (.tmp 149) = .bool true := hp ⟨13, Ground.guard⟩ (by simp) rfl
                        have p18 : a.eval (.tmp 154) = .bool true := hp ⟨18, Ground.data⟩ (by simp) rfl
                        refine op_yields_g (.bool true) rfl (wanted_yes (b := true) rfl rfl g13) (by have pc0 := Act.eval_const a (.bool true); revert p18 pc0; generalize a.eval = ρ; intro p18 pc0; simp only [execOp]; go_simp) ⟨_, rfl, hR, ?_, fun _ _ _ h => h⟩
                        show endPsiTTT _ _ _ _ _ _ _ _ _ _ _ _ ((a.put (some 156) _).eval (.tmp 156)) w'
                        rw [at_slot hF hsz (by decide)]
                        exact rfl
                      · intro a w' hF hR hp
                        have p13 : a.eval (.tmp 149) = .bool true := hp ⟨13, Ground.data⟩ (by simp) rfl
                        have p20 : a.eval (.tmp 156) = .bool true := hp ⟨20, Ground.data⟩ (by simp) rfl
                        refine op_yields (.bool true) rfl rfl (by have pc0 := Act.eval_const a (.bool false); revert p13 p20 pc0; generalize a.eval = ρ; intro p13 p20 pc0; simp only [execOp]; go_simp) ⟨_, rfl, hR, ?_, fun _ _ _ h => h⟩
                        show endPsiTTT _ _ _ _ _ _ _ _ _ _ _ _ ((a.put (some 157) _).eval (.tmp 157)) w'
                        rw [at_slot hF hsz (by decide)]
                        exact rfl
                      · intro a w' hF hR hp
                        have p21 : a.eval (.tmp 157) = .bool true := hp ⟨21, Ground.data⟩ (by simp) rfl
                        refine op_yields (.bool true) rfl rfl (by revert p21; generalize a.eval = ρ; intro p21; simp only [execOp]; go_simp) ⟨_, rfl, hR, ?_, fun _ _ _ h => h⟩
                        show endPsiTTT _ _ _ _ _ _ _ _ _ _ _ _ ((a.put (some 158) _).eval (.tmp 158)) w'
                        rw [at_slot hF hsz (by decide)]
                        exact rfl
                      · intro a w' hF hR hp
                        have g22 : a.eval (.tmp 158) = .bool true := hp ⟨22, Ground.guard⟩ (by simp) rfl
                        have z13 := (hF.other 13 rfl).trans v13
                        refine op_yields_g (.int .i64 (kn : Int)) rfl (wanted_yes (b := true) rfl rfl g22) (by revert z13; generalize a.eval = ρ; intro z13; simp only [execOp]; go_simp) ⟨_, rfl, hR, ?_, fun _ _ _ h => h⟩
                        show endPsiTTT _ _ _ _ _ _ _ _ _ _ _ _ ((a.put (some 159) _).eval (.tmp 159)) w'
                        rw [at_slot hF hsz (by decide)]
                        exact rfl
                      · intro a w' hF hR hp
                        have g22 : a.eval (.tmp 158) = .bool true := hp ⟨22, Ground.guard⟩ (by simp) rfl
                        have z12 := (hF.other 12 rfl).trans v12
                        refine op_yields_g (.slice sa ST.length sc) rfl (wanted_yes (b := true) rfl rfl g22) (by revert z12; generalize a.eval = ρ; intro z12; simp only [execOp]; go_simp) ⟨_, rfl, hR, ?_, fun _ _ _ h => h⟩
                        show endPsiTTT _ _ _ _ _ _ _ _ _ _ _ _ ((a.put (some 160) _).eval (.tmp 160)) w'
                        rw [at_slot hF hsz (by decide)]
                        exact rfl
                      · intro a w' hF hR hp
                        have g22 : a.eval (.tmp 158) = .bool true := hp ⟨22, Ground.guard⟩ (by simp) rfl
                        have p24 : a.eval (.tmp 160) = .slice sa ST.length sc := hp ⟨24, Ground.data⟩ (by simp) rfl
                        refine op_yields_g (.int .i64 (ST.length : Int)) rfl (wanted_yes (b := true) rfl rfl g22) (by revert p24; generalize a.eval = ρ; intro p24; simp only [execOp]; go_simp) ⟨_, rfl, hR, ?_, fun _ _ _ h => h⟩
                        show endPsiTTT _ _ _ _ _ _ _ _ _ _ _ _ ((a.put (some 161) _).eval (.tmp 161)) w'
                        rw [at_slot hF hsz (by decide)]
                        exact rfl
                      · intro a w' hF hR hp
                        have g22 : a.eval (.tmp 158) = .bool true := hp ⟨22, Ground.guard⟩ (by simp) rfl
                        have p25 : a.eval (.tmp 161) = .int .i64 (ST.length : Int) := hp ⟨25, Ground.data⟩ (by simp) rfl
                        refine op_yields_g (.int .i64 ((ST.length : Int) - 1)) rfl (wanted_yes (b := true) rfl rfl g22) (by have pc0 := Act.eval_const a (.int .i64 1); revert p25 pc0; generalize a.eval = ρ; intro p25 pc0; simp only [execOp]; go_simp) ⟨_, rfl, hR, ?_, fun _ _ _ h => h⟩
                        show endPsiTTT _ _ _ _ _ _ _ _ _ _ _ _ ((a.put (some 162) _).eval (.tmp 162)) w'
                        rw [at_slot hF hsz (by decide)]
                        exact rfl
                      · intro a w' hF hR hp
                        have g22 : a.eval (.tmp 158) = .bool true := hp ⟨22, Ground.guard⟩ (by simp) rfl
                        have p23 : a.eval (.tmp 159) = .int .i64 (kn : Int) := hp ⟨23, Ground.data⟩ (by simp) rfl
                        have p26 : a.eval (.tmp 162) = .int .i64 ((ST.length : Int) - 1) := hp ⟨26, Ground.data⟩ (by simp) rfl
                        refine op_yields_g (.bool true) rfl (wanted_yes (b := true) rfl rfl g22) (by revert p23 p26; generalize a.eval = ρ; intro p23 p26; simp only [execOp]; go_simp) ⟨_, rfl, hR, ?_, fun _ _ _ h => h⟩
                        show endPsiTTT _ _ _ _ _ _ _ _ _ _ _ _ ((a.put (some 163) _).eval (.tmp 163)) w'
                        rw [at_slot hF hsz (by decide)]
                        exact rfl
                      · intro a w' hF hR hp
                        have g22 : a.eval (.tmp 158) = .bool true := hp ⟨22, Ground.guard⟩ (by simp) rfl
                        have p27 : a.eval (.tmp 163) = .bool true := hp ⟨27, Ground.data⟩ (by simp) rfl
                        refine op_yields_g (.bool true) rfl (wanted_yes (b := true) rfl rfl g22) (by revert p27; generalize a.eval = ρ; intro p27; simp only [execOp]; go_simp) ⟨_, rfl, hR, ?_, fun _ _ _ h => h⟩
                        show endPsiTTT _ _ _ _ _ _ _ _ _ _ _ _ ((a.put (some 164) _).eval (.tmp 164)) w'
                        rw [at_slot hF hsz (by decide)]
                        exact rfl
                      · intro a w' hF hR hp
                        have g28 : a.eval (.tmp 164) = .bool true := hp ⟨28, Ground.guard⟩ (by simp) rfl
                        refine op_no rfl rfl rfl g28 ⟨_, rfl, hR, trivial, fun _ _ _ h => h⟩
                      · intro a w' hF hR hp
                        have g28 : a.eval (.tmp 164) = .bool true := hp ⟨28, Ground.guard⟩ (by simp) rfl
                        refine op_no rfl rfl rfl g28 ⟨_, rfl, hR, trivial, fun _ _ _ h => h⟩
                      · intro a w' hF hR hp
                        have g22 : a.eval (.tmp 158) = .bool true := hp ⟨22, Ground.guard⟩ (by simp) rfl
                        have p28 : a.eval (.tmp 164) = .bool true := hp ⟨28, Ground.data⟩ (by simp) rfl
                        refine op_yields_g (.bool true) rfl (wanted_yes (b := true) rfl rfl g22) (by have pc0 := Act.eval_const a (.bool true); revert p28 pc0; generalize a.eval = ρ; intro p28 pc0; simp only [execOp]; go_simp) ⟨_, rfl, hR, ?_, fun _ _ _ h => h⟩
                        show endPsiTTT _ _ _ _ _ _ _ _ _ _ _ _ ((a.put (some 167) _).eval (.tmp 167)) w'
                        rw [at_slot hF hsz (by decide)]
                        exact rfl
                      · intro a w' hF hR hp
                        have p22 : a.eval (.tmp 158) = .bool true := hp ⟨22, Ground.data⟩ (by simp) rfl
                        have p31 : a.eval (.tmp 167) = .bool true := hp ⟨31, Ground.data⟩ (by simp) rfl
                        refine op_yields (.bool true) rfl rfl (by have pc0 := Act.eval_const a (.bool false); revert p22 p31 pc0; generalize a.eval = ρ; intro p22 p31 pc0; simp only [execOp]; go_simp) ⟨_, rfl, hR, ?_, fun _ _ _ h => h⟩
                        show endPsiTTT _ _ _ _ _ _ _ _ _ _ _ _ ((a.put (some 168) _).eval (.tmp 168)) w'
                        rw [at_slot hF hsz (by decide)]
                        exact rfl
                      · intro a w' hF hR hp
                        have p32 : a.eval (.tmp 168) = .bool true := hp ⟨32, Ground.data⟩ (by simp) rfl
                        refine op_yields (.bool true) rfl rfl (by revert p32; generalize a.eval = ρ; intro p32; simp only [execOp]; go_simp) ⟨_, rfl, hR, ?_, fun _ _ _ h => h⟩
                        show endPsiTTT _ _ _ _ _ _ _ _ _ _ _ _ ((a.put (some 8) _).eval (.tmp 8)) w'
                        rw [at_slot hF hsz (by decide)]
                        exact rfl
                      · intro a W5 hF hR hp
                        have p33 : a.eval (.tmp 8) = .bool true := hp 33 (by decide)
                        have hlit : a = ⟨#[a.eval (.tmp 0), a.eval (.tmp 1), a.eval (.tmp 2), a.eval (.tmp 3), a.eval (.tmp 4), a.eval (.tmp 5), a.eval (.tmp 6), a.eval (.tmp 7), a.eval (.tmp 8), a.eval (.tmp 9), a.eval (.tmp 10), a.eval (.tmp 11), a.eval (.tmp 12), a.eval (.tmp 13), a.eval (.tmp 14), a.eval (.tmp 15), a.eval (.tmp 16), a.eval (.tmp 17), a.eval (.tmp 18), a.eval (.tmp 19), a.eval (.tmp 20), a.eval (.tmp 21), a.eval (.tmp 22), a.eval (.tmp 23), a.eval (.tmp 24), a.eval (.tmp 25), a.eval (.tmp 26), a.eval (.tmp 27), a.eval (.tmp 28), a.eval (.tmp 29), a.eval (.tmp 30), a.eval (.tmp 31), a.eval (.tmp 32), a.eval (.tmp 33), a.eval (.tmp 34), a.eval (.tmp 35), a.eval (.tmp 36), a.eval (.tmp 37), a.eval (.tmp 38), a.eval (.tmp 39), a.eval (.tmp 40), a.eval (.tmp 41), a.eval (.tmp 42), a.eval (.tmp 43), a.eval (.tmp 44), a.eval (.tmp 45), a.eval (.tmp 46), a.eval (.tmp 47), a.eval (.tmp 48), a.eval (.tmp 49), a.eval (.tmp 50), a.eval (.tmp 51), a.eval (.tmp 52), a.eval (.tmp 53), a.eval (.tmp 54), a.eval (.tmp 55), a.eval (.tmp 56), a.eval (.tmp 57), a.eval (.tmp 58), a.eval (.tmp 59), a.eval (.tmp 60), a.eval (.tmp 61), a.eval (.tmp 62), a.eval (.tmp 63), a.eval (.tmp 64), a.eval (.tmp 65), a.eval (.tmp 66), a.eval (.tmp 67), a.eval (.tmp 68), a.eval (.tmp 69), a.eval (.tmp 70), a.eval (.tmp 71), a.eval (.tmp 72), a.eval (.tmp 73), a.eval (.tmp 74), a.eval (.tmp 75), a.eval (.tmp 76), a.eval (.tmp 77), a.eval (.tmp 78), a.eval (.tmp 79), a.eval (.tmp 80), a.eval (.tmp 81), a.eval (.tmp 82), a.eval (.tmp 83), a.eval (.tmp 84), a.eval (.tmp 85), a.eval (.tmp 86), a.eval (.tmp 87), a.eval (.tmp 88), a.eval (.tmp 89), a.eval (.tmp 90), a.eval (.tmp 91), a.eval (.tmp 92), a.eval (.tmp 93), a.eval (.tmp 94), a.eval (.tmp 95), a.eval (.tmp 96), a.eval (.tmp 97), a.eval (.tmp 98), a.eval (.tmp 99), a.eval (.tmp 100), a.eval (.tmp 101), a.eval (.tmp 102), a.eval (.tmp 103), a.eval (.tmp 104), a.eval (.tmp 105), a.eval (.tmp 106), a.eval (.tmp 107), a.eval (.tmp 108), a.eval (.tmp 109), a.eval (.tmp 110), a.eval (.tmp 111), a.eval (.tmp 112), a.eval (.tmp 113), a.eval (.tmp 114), a.eval (.tmp 115), a.eval (.tmp 116), a.eval (.tmp 117), a.eval (.tmp 118), a.eval (.tmp 119), a.eval (.tmp 120), a.eval (.tmp 121), a.eval (.tmp 122), a.eval (.tmp 123), a.eval (.tmp 124), a.eval (.tmp 125), a.eval (.tmp 126), a.eval (.tmp 127), a.eval (.tmp 128), a.eval (.tmp 129), a.eval (.tmp 130), a.eval (.tmp 131), a.eval (.tmp 132), a.eval (.tmp 133), a.eval (.tmp 134), a.eval (.tmp 135), a.eval (.tmp 136), a.eval (.tmp 137), a.eval (.tmp 138), a.eval (.tmp 139), a.eval (.tmp 140), a.eval (.tmp 141), a.eval (.tmp 142), a.eval (.tmp 143), a.eval (.tmp 144), a.eval (.tmp 145), a.eval (.tmp 146), a.eval (.tmp 147), a.eval (.tmp 148), a.eval (.tmp 149), a.eval (.tmp 150), a.eval (.tmp 151), a.eval (.tmp 152), a.eval (.tmp 153), a.eval (.tmp 154), a.eval (.tmp 155), a.eval (.tmp 156), a.eval (.tmp 157), a.eval (.tmp 158), a.eval (.tmp 159), a.eval (.tmp 160), a.eval (.tmp 161), a.eval (.tmp 162), a.eval (.tmp 163), a.eval (.tmp 164), a.eval (.tmp 165), a.eval (.tmp 166), a.eval (.tmp 167), a.eval (.tmp 168)], []⟩ := act_lit a 169 (hF.size.trans hsz) (hF.defers.trans hdf)
                        rw [p33] at hlit
                        exact (congrArg (fun x => K9 x W5) hlit).mpr (HTAIL9.out (a.eval (.tmp 0)) (a.eval (.tmp 1)) (a.eval (.tmp 2)) (a.eval (.tmp 3)) (a.eval (.tmp 4)) (a.eval (.tmp 5)) (a.eval (.tmp 6)) (a.eval (.tmp 7)) (a.eval (.tmp 9)) (a.eval (.tmp 10)) (a.eval (.tmp 11)) (a.eval (.tmp 12)) (a.eval (.tmp 13)) (a.eval (.tmp 14)) (a.eval (.tmp 15)) (a.eval (.tmp 16)) (a.eval (.tmp 17)) (a.eval (.tmp 18)) (a.eval (.tmp 19)) (a.eval (.tmp 20)) (a.eval (.tmp 21)) (a.eval (.tmp 22)) (a.eval (.tmp 23)) (a.eval (.tmp 24)) (a.eval (.tmp 25)) (a.eval (.tmp 26)) (a.eval (.tmp 27)) (a.eval (.tmp 28)) (a.eval (.tmp 29)) (a.eval (.tmp 30)) (a.eval (.tmp 31)) (a.eval (.tmp 32)) (a.eval (.tmp 33)) (a.eval (.tmp 34)) (a.eval (.tmp 35)) (a.eval (.tmp 36)) (a.eval (.tmp 37)) (a.eval (.tmp 38)) (a.eval (.tmp 39)) (a.eval (.tmp 40)) (a.eval (.tmp 41)) (a.eval (.tmp 42)) (a.eval (.tmp 43)) (a.eval (.tmp 44)) (a.eval (.tmp 45)) (a.eval (.tmp 46)) (a.eval (.tmp 47)) (a.eval (.tmp 48)) (a.eval (.tmp 49)) (a.eval (.tmp 50)) (a.eval (.tmp 51)) (a.eval (.tmp 52)) (a.eval (.tmp 53)) (a.eval (.tmp 54)) (a.eval (.tmp 55)) (a.eval (.tmp 56)) (a.eval (.tmp 57)) (a.eval (.tmp 58)) (a.eval (.tmp 59)) (a.eval (.tmp 60)) (a.eval (.tmp 61)) (a.eval (.tmp 62)) (a.eval (.tmp 63)) (a.eval (.tmp 64)) (a.eval (.tmp 65)) (a.eval (.tmp 66)) (a.eval (.tmp 67)) (a.eval (.tmp 68)) (a.eval (.tmp 69)) (a.eval (.tmp 70)) (a.eval (.tmp 71)) (a.eval (.tmp 72)) (a.eval (.tmp 73)) (a.eval (.tmp 74)) (a.eval (.tmp 75)) (a.eval (.tmp 76)) (a.eval (.tmp 77)) (a.eval (.tmp 78)) (a.eval (.tmp 79)) (a.eval (.tmp 80)) (a.eval (.tmp 81)) (a.eval (.tmp 82)) (a.eval (.tmp 83)) (a.eval (.tmp 84)) (a.eval (.tmp 85)) (a.eval (.tmp 86)) (a.eval (.tmp 87)) (a.eval (.tmp 88)) (a.eval (.tmp 89)) (a.eval (.tmp 90)) (a.eval (.tmp 91)) (a.eval (.tmp 92)) (a.eval (.tmp 93)) (a.eval (.tmp 94)) (a.eval (.tmp 95)) (a.eval (.tmp 96)) (a.eval (.tmp 97)) (a.eval (.tmp 98)) (a.eval (.tmp 99)) (a.eval (.tmp 100)) (a.eval (.tmp 101)) (a.eval (.tmp 102)) (a.eval (.tmp 103)) (a.eval (.tmp 104)) (a.eval (.tmp 105)) (a.eval (.tmp 106)) (a.eval (.tmp 107)) (a.eval (.tmp 108)) (a.eval (.tmp 109)) (a.eval (.tmp 110)) (a.eval (.tmp 111)) (a.eval (.tmp 112)) (a.eval (.tmp 113)) (a.eval (.tmp 114)) (a.eval (.tmp 115)) (a.eval (.tmp 116)) (a.eval (.tmp 117)) (a.eval (.tmp 118)) (a.eval (.tmp 119)) (a.eval (.tmp 120)) (a.eval (.tmp 121)) (a.eval (.tmp 122)) (a.eval (.tmp 123)) (a.eval (.tmp 124)) (a.eval (.tmp 125)) (a.eval (.tmp 126)) (a.eval (.tmp 127)) (a.eval (.tmp 128)) (a.eval (.tmp 129)) (a.eval (.tmp 130)) (a.eval (.tmp 131)) (a.eval (.tmp 132)) (a.eval (.tmp 133)) (a.eval (.tmp 134)) (a.eval (.tmp 135)) (a.eval (.tmp 136)) (a.eval (.tmp 137)) (a.eval (.tmp 138)) (a.eval (.tmp 139)) (a.eval (.tmp 140)) (a.eval (.tmp 141)) (a.eval (.tmp 142)) (a.eval (.tmp 143)) (a.eval (.tmp 144)) (a.eval (.tmp 145)) (a.eval (.tmp 146)) (a.eval (.tmp 147)) (a.eval (.tmp 148)) (a.eval (.tmp 149)) (a.eval (.tmp 150)) (a.eval (.tmp 151)) (a.eval (.tmp 152)) (a.eval (.tmp 153)) (a.eval (.tmp 154)) (a.eval (.tmp 155)) (a.eval (.tmp 156)) (a.eval (.tmp 157)) (a.eval (.tmp 158)) (a.eval (.tmp 159)) (a.eval (.tmp 160)) (a.eval (.tmp 161)) (a.eval (.tmp 162)) (a.eval (.tmp 163)) (a.eval (.tmp 164)) (a.eval (.tmp 165)) (a.eval (.tmp 166)) (a.eval (.tmp 167)) (a.eval (.tmp 168)) W5 hR)
                    · skip
                      have TAIL9 : ∀ (g0 g1 g2 g3 g4 g5 g6 g7 g9 g10 g11 g12 g13 g14 g15 g16 g17 g18 g19 g20 g21 g22 g23 g24 g25 g26 g27 g28 g29 g30 g31 g32 g33 g34 g35 g36 g37 g38 g39 g40 g41 g42 g43 g44 g45 g46 g47 g48 g49 g50 g51 g52 g53 g54 g55 g56 g57 g58 g59 g60 g61 g62 g63 g64 g65 g66 g67 g68 g69 g70 g71 g72 g73 g74 g75 g76 g77 g78 g79 g80 g81 g82 g83 g84 g85 g86 g87 g88 g89 g90 g91 g92 g93 g94 g95 g96 g97 g98 g99 g100 g101 g102 g103 g104 g105 g106 g107 g108 g109 g110 g111 g112 g113 g114 g115 g116 g117 g118 g119 g120 g121 g122 g123 g124 g125 g126 g127 g128 g129 g130 g131 g132 g133 g134 g135 g136 g137 g138 g139 g140 g141 g142 g143 g144 g145 g146 g147 g148 g149 g150 g151 g152 g153 g154 g155 g156 g157 g158 g159 g160 g161 g162 g163 g164 g165 g166 g167 g168 : Value) (W5 : World), Below wr.heap.size wr W5 → K9 ⟨#[g0, g1, g2, g3, g4, g5, g6, g7, .bool true, g9, g10, g11, g12, g13, g14, g15, g16, g17, g18, g19, g20, g21, g22, g23, g24, g25, g26, g27, g28, g29, g30, g31, g32, g33, g34, g35, g36, g37, g38, g39, g40, g41, g42, g43, g44, g45, g46, g47, g48, g49, g50, g51, g52, g53, g54, g55, g56, g57, g58, g59, g60, g61, g62, g63, g64, g65, g66, g67, g68, g69, g70, g71, g72, g73, g74, g75, g76, g77, g78, g79, g80, g81, g82, g83, g84, g85, g86, g87, g88, g89, g90, g91, g92, g93, g94, g95, g96, g97, g98, g99, g100, g101, g102, g103, g104, g105, g106, g107, g108, g109, g110, g111, g112, g113, g114, g115, g116, g117, g118, g119, g120, g121, g122, g123, g124, g125, g126, g127, g128, g129, g130, g131, g132, g133, g134, g135, g136, g137, g138, g139, g140, g141, g142, g143, g144, g145, g146, g147, g148, g149, g150, g151, g152, g153, g154, g155, g156, g157, g158, g159, g160, g161, g162, g163, g164, g165, g166, g167, g168], []⟩ W5 := by
                        intro g0 g1 g2 g3 g4 g5 g6 g7 g9 g10 g11 g12 g13 g14 g15 g16 g17 g18 g19 g20 g21 g22 g23 g24 g25 g26 g27 g28 g29 g30 g31 g32 g33 g34 g35 g36 g37 g38 g39 g40 g41 g42 g43 g44 g45 g46 g47 g48 g49 g50 g51 g52 g53 g54 g55 g56 g57 g58 g59 g60 g61 g62 g63 g64 g65 g66 g67 g68 g69 g70 g71 g72 g73 g74 g75 g76 g77 g78 g79 g80 g81 g82 g83 g84 g85 g86 g87 g88 g89 g90 g91 g92 g93 g94 g95 g96 g97 g98 g99 g100 g101 g102 g103 g104 g105 g106 g107 g108 g109 g110 g111 g112 g113 g114 g115 g116 g117 g118 g119 g120 g121 g122 g123 g124 g125 g126 g127 g128 g129 g130 g131 g132 g133 g134 g135 g136 g137 g138 g139 g140 g141 g142 g143 g144 g145 g146 g147 g148 g149 g150 g151 g152 g153 g154 g155 g156 g157 g158 g159 g160 g161 g162 g163 g164 g165 g166 g167 g168 W5 hb5
                        apply hK9
                        clear hK9
                        go_wp2
                        go_ret
                        exact ⟨rfl, bthen (bthen HB4.out HBR.out) hb5⟩
                      have HTAIL9 := hide TAIL9
                      clear TAIL9 hK9
                      refine (show ∀ A0 : Act, A0 = _ → Code.wp Tryz.prog _ _ A0 _ from fun A0 hA0 => ?_) _ rfl
                      have hsz : A0.tmps.size = 169 := by rw [hA0]; rfl
                      have hdf : A0.defers = [] := by rw [hA0]
                      have v5 : A0.eval (.tmp 5) = .pointer (some ⟨w.heap.size + 1, 0, none⟩) := by rw [hA0]; rfl
                      have v9 : A0.eval (.tmp 9) = .pointer (some ⟨w3.heap.size, 0, none⟩) := by rw [hA0]; rfl
                      have v12 : A0.eval (.tmp 12) = .slice sa ST.length sc := by rw [hA0]; rfl
                      have v13 : A0.eval (.tmp 13) = .int .i64 (kn : Int) := by rw [hA0]; rfl
                      have v15 : A0.eval (.tmp 15) = .pointer (some ⟨G, 0, none⟩) := by rw [hA0]; rfl
                      have v18 : A0.eval (.tmp 18) = .bool true := by rw [hA0]; rfl
                      clear hA0
                      refine wp_region_slots (fun w' => Below wr.heap.size wr w') [136, 137, 138, 139, 140, 141, 142, 143, 144, 145, 146, 147, 148, 149, 150, 151, 152, 153, 154, 155, 156, 157, 158, 159, 160, 161, 162, 163, 164, 165, 166, 167, 168, 8] (endPsiTFT (.slice (some ⟨b3, off3, none⟩) LX.length xvc) (.slice va L.length vc) (.agg #[.int .i64 tk.seq, .slice m0 tk.info.length n0', .slice m1 tk.data.length n1', .slice m2 tk.rev.length n2', .bool tk.h0.on, .int .i64 tk.h0.left, .bool tk.h1.on, .int .i64 tk.h1.left, .bool tk.h2.on, .int .i64 tk.h2.left]) (.agg #[.int .i64 N, .slice a0 t.info.length a1, .slice a2 t.data.length a3, .slice a4 t.rev.length a5, .bool t.h0.on, .int .i64 t.h0.left, .bool t.h1.on, .int .i64 t.h1.left, .bool t.h2.on, .int .i64 t.h2.left]) (.slice sa ST.length sc) (.pointer (some ⟨b3, off3 + L.length * 10, none⟩)) (L.length : Int) (kn : Int) (ST.length : Int) G w3.heap.size) (by kernel_rfl) (by kernel_rfl) (by kernel_rfl) ((Below.refl _ _).drew) ⟨?_, ?_, ?_, ?_, ?_, ?_, ?_, ?_, ?_, ?_, ?_, ?_, ?_, ?_, ?_, ?_, ?_, ?_, ?_, ?_, ?_, ?_, ?_, ?_, ?_, ?_, ?_, ?_, ?_, ?_, ?_, ?_, ?_, ?_, trivial⟩ ?_
                      · intro a w' hF hR hp
                        have z18 := (hF.other 18 rfl).trans v18
                        refine op_yields (.bool true) rfl rfl (by revert z18; generalize a.eval = ρ; intro z18; simp only [execOp]; go_simp) ⟨_, rfl, hR, ?_, fun _ _ _ h => h⟩
                        show endPsiTFT _ _ _ _ _ _ _ _ _ _ _ _ ((a.put (some 136) _).eval (.tmp 136)) w'
                        rw [at_slot hF hsz (by decide)]
                        exact rfl
                      · intro a w' hF hR hp
                        have p0 : a.eval (.tmp 136) = .bool true := hp ⟨0, Ground.data⟩ (by simp) rfl
                        refine op_yields (.bool false) rfl rfl (by revert p0; generalize a.eval = ρ; intro p0; simp only [execOp]; go_simp) ⟨_, rfl, hR, ?_, fun _ _ _ h => h⟩
                        show endPsiTFT _ _ _ _ _ _ _ _ _ _ _ _ ((a.put (some 137) _).eval (.tmp 137)) w'
                        rw [at_slot hF hsz (by decide)]
                        exact rfl
                      · intro a w' hF hR hp
                        have p1 : a.eval (.tmp 137) = .bool false := hp ⟨1, Ground.data⟩ (by simp) rfl
                        refine op_yields (.bool false) rfl rfl (by revert p1; generalize a.eval = ρ; intro p1; simp only [execOp]; go_simp) ⟨_, rfl, hR, ?_, fun _ _ _ h => h⟩
                        show endPsiTFT _ _ _ _ _ _ _ _ _ _ _ _ ((a.put (some 138) _).eval (.tmp 138)) w'
                        rw [at_slot hF hsz (by decide)]
                        exact rfl
                      · intro a w' hF hR hp
                        have g2 : a.eval (.tmp 138) = .bool false := hp ⟨2, Ground.guard⟩ (by simp) rfl
                        have z15 := (hF.other 15 rfl).trans v15
                        refine op_yields_g (.pointer (some ⟨G, 0, none⟩)) rfl (wanted_yes (b := false) rfl rfl g2) (by revert z15; generalize a.eval = ρ; intro z15; simp only [execOp]; go_simp) ⟨_, rfl, hR, ?_, fun _ _ _ h => h⟩
                        show endPsiTFT _ _ _ _ _ _ _ _ _ _ _ _ ((a.put (some 139) _).eval (.tmp 139)) w'
                        rw [at_slot hF hsz (by decide)]
                        exact rfl
                      · intro a w' hF hR hp
                        have g2 : a.eval (.tmp 138) = .bool false := hp ⟨2, Ground.guard⟩ (by simp) rfl
                        have p3 : a.eval (.tmp 139) = .pointer (some ⟨G, 0, none⟩) := hp ⟨3, Ground.data⟩ (by simp) rfl
                        have c0 := cellKeep hR hGr R0.out
                        refine op_yields_g (.slice (some ⟨b3, off3, none⟩) LX.length xvc) rfl (wanted_yes (b := false) rfl rfl g2) (by revert p3; generalize a.eval = ρ; intro p3; simp only [execOp]; go_simp) ⟨_, rfl, hR, ?_, fun _ _ _ h => h⟩
                        show endPsiTFT _ _ _ _ _ _ _ _ _ _ _ _ ((a.put (some 140) _).eval (.tmp 140)) w'
                        rw [at_slot hF hsz (by decide)]
                        exact rfl
                      · intro a w' hF hR hp
                        have g2 : a.eval (.tmp 138) = .bool false := hp ⟨2, Ground.guard⟩ (by simp) rfl
                        have z9 := (hF.other 9 rfl).trans v9
                        refine op_yields_g (.pointer (some ⟨w3.heap.size, 0, none⟩)) rfl (wanted_yes (b := false) rfl rfl g2) (by revert z9; generalize a.eval = ρ; intro z9; simp only [execOp]; go_simp) ⟨_, rfl, hR, ?_, fun _ _ _ h => h⟩
                        show endPsiTFT _ _ _ _ _ _ _ _ _ _ _ _ ((a.put (some 141) _).eval (.tmp 141)) w'
                        rw [at_slot hF hsz (by decide)]
                        exact rfl
                      · intro a w' hF hR hp
                        have g2 : a.eval (.tmp 138) = .bool false := hp ⟨2, Ground.guard⟩ (by simp) rfl
                        have p5 : a.eval (.tmp 141) = .pointer (some ⟨w3.heap.size, 0, none⟩) := hp ⟨5, Ground.data⟩ (by simp) rfl
                        have c0 := cellKeep hR hFr Z0.out
                        refine op_yields_g (.slice va L.length vc) rfl (wanted_yes (b := false) rfl rfl g2) (by revert p5; generalize a.eval = ρ; intro p5; simp only [execOp]; go_simp) ⟨_, rfl, hR, ?_, fun _ _ _ h => h⟩
                        show endPsiTFT _ _ _ _ _ _ _ _ _ _ _ _ ((a.put (some 142) _).eval (.tmp 142)) w'
                        rw [at_slot hF hsz (by decide)]
                        exact rfl
                      · intro a w' hF hR hp
                        have g2 : a.eval (.tmp 138) = .bool false := hp ⟨2, Ground.guard⟩ (by simp) rfl
                        have p6 : a.eval (.tmp 142) = .slice va L.length vc := hp ⟨6, Ground.data⟩ (by simp) rfl
                        refine op_yields_g (.int .i64 (L.length : Int)) rfl (wanted_yes (b := false) rfl rfl g2) (by revert p6; generalize a.eval = ρ; intro p6; simp only [execOp]; go_simp) ⟨_, rfl, hR, ?_, fun _ _ _ h => h⟩
                        show endPsiTFT _ _ _ _ _ _ _ _ _ _ _ _ ((a.put (some 143) _).eval (.tmp 143)) w'
                        rw [at_slot hF hsz (by decide)]
                        exact rfl
                      · intro a w' hF hR hp
                        have g2 : a.eval (.tmp 138) = .bool false := hp ⟨2, Ground.guard⟩ (by simp) rfl
                        have p4 : a.eval (.tmp 140) = .slice (some ⟨b3, off3, none⟩) LX.length xvc := hp ⟨4, Ground.data⟩ (by simp) rfl
                        have p7 : a.eval (.tmp 143) = .int .i64 (L.length : Int) := hp ⟨7, Ground.data⟩ (by simp) rfl
                        have hk0 : (0 : Int) ≤ (L.length : Int) := by omega
                        refine op_yields_g (.pointer (some ⟨b3, off3 + L.length * 10, none⟩)) rfl (wanted_yes (b := false) rfl rfl g2) (by revert p4 p7; generalize a.eval = ρ; intro p4 p7; simp only [execOp]; go_simp) ⟨_, rfl, hR, ?_, fun _ _ _ h => h⟩
                        show endPsiTFT _ _ _ _ _ _ _ _ _ _ _ _ ((a.put (some 144) _).eval (.tmp 144)) w'
                        rw [at_slot hF hsz (by decide)]
                        exact rfl
                      · intro a w' hF hR hp
                        have g2 : a.eval (.tmp 138) = .bool false := hp ⟨2, Ground.guard⟩ (by simp) rfl
                        have p8 : a.eval (.tmp 144) = .pointer (some ⟨b3, off3 + L.length * 10, none⟩) := hp ⟨8, Ground.data⟩ (by simp) rfl
                        have c0 := cellKeep hR hb3r Y0.out
                        have c1 := cellKeep hR hb3r Y1.out
                        have c2 := cellKeep hR hb3r Y2.out
                        have c3 := cellKeep hR hb3r Y3.out
                        have c4 := cellKeep hR hb3r Y4.out
                        have c5 := cellKeep hR hb3r Y5.out
                        have c6 := cellKeep hR hb3r Y6.out
                        have c7 := cellKeep hR hb3r Y7.out
                        have c8 := cellKeep hR hb3r Y8.out
                        have c9 := cellKeep hR hb3r Y9.out
                        refine op_yields_g (.agg #[.int .i64 tk.seq, .slice m0 tk.info.length n0', .slice m1 tk.data.length n1', .slice m2 tk.rev.length n2', .bool tk.h0.on, .int .i64 tk.h0.left, .bool tk.h1.on, .int .i64 tk.h1.left, .bool tk.h2.on, .int .i64 tk.h2.left]) rfl (wanted_yes (b := false) rfl rfl g2) (by revert p8; generalize a.eval = ρ; intro p8; simp only [execOp]; go_simp) ⟨_, rfl, hR, ?_, fun _ _ _ h => h⟩
                        show endPsiTFT _ _ _ _ _ _ _ _ _ _ _ _ ((a.put (some 145) _).eval (.tmp 145)) w'
                        rw [at_slot hF hsz (by decide)]
                        exact rfl
                      · intro a w' hF hR hp
                        have g2 : a.eval (.tmp 138) = .bool false := hp ⟨2, Ground.guard⟩ (by simp) rfl
                        have z5 := (hF.other 5 rfl).trans v5
                        have c0 := cellKeep hR hbtr T0.out
                        have c1 := cellKeep hR hbtr T1.out
                        have c2 := cellKeep hR hbtr T2.out
                        have c3 := cellKeep hR hbtr T3.out
                        have c4 := cellKeep hR hbtr T4.out
                        have c5 := cellKeep hR hbtr T5.out
                        have c6 := cellKeep hR hbtr T6.out
                        have c7 := cellKeep hR hbtr T7.out
                        have c8 := cellKeep hR hbtr T8.out
                        have c9 := cellKeep hR hbtr T9.out
                        refine op_yields_g (.agg #[.int .i64 N, .slice a0 t.info.length a1, .slice a2 t.data.length a3, .slice a4 t.rev.length a5, .bool t.h0.on, .int .i64 t.h0.left, .bool t.h1.on, .int .i64 t.h1.left, .bool t.h2.on, .int .i64 t.h2.left]) rfl (wanted_yes (b := false) rfl rfl g2) (by revert z5; generalize a.eval = ρ; intro z5; simp only [execOp]; go_simp) ⟨_, rfl, hR, ?_, fun _ _ _ h => h⟩
                        show endPsiTFT _ _ _ _ _ _ _ _ _ _ _ _ ((a.put (some 146) _).eval (.tmp 146)) w'
                        rw [at_slot hF hsz (by decide)]
                        exact rfl
                      · intro a w' hF hR hp
                        have g2 : a.eval (.tmp 138) = .bool false := hp ⟨2, Ground.guard⟩ (by simp) rfl
                        have p9 : a.eval (.tmp 145) = .agg #[.int .i64 tk.seq, .slice m0 tk.info.length n0', .slice m1 tk.data.length n1', .slice m2 tk.rev.length n2', .bool tk.h0.on, .int .i64 tk.h0.left, .bool tk.h1.on, .int .i64 tk.h1.left, .bool tk.h2.on, .int .i64 tk.h2.left] := hp ⟨9, Ground.data⟩ (by simp) rfl
                        have p10 : a.eval (.tmp 146) = .agg #[.int .i64 N, .slice a0 t.info.length a1, .slice a2 t.data.length a3, .slice a4 t.rev.length a5, .bool t.h0.on, .int .i64 t.h0.left, .bool t.h1.on, .int .i64 t.h1.left, .bool t.h2.on, .int .i64 t.h2.left] := hp ⟨10, Ground.data⟩ (by simp) rfl
                        refine op_calls_g 35 #[.agg #[.int .i64 tk.seq, .slice m0 tk.info.length n0', .slice m1 tk.data.length n1', .slice m2 tk.rev.length n2', .bool tk.h0.on, .int .i64 tk.h0.left, .bool tk.h1.on, .int .i64 tk.h1.left, .bool tk.h2.on, .int .i64 tk.h2.left], .agg #[.int .i64 N, .slice a0 t.info.length a1, .slice a2 t.data.length a3, .slice a4 t.rev.length a5, .bool t.h0.on, .int .i64 t.h0.left, .bool t.h1.on, .int .i64 t.h1.left, .bool t.h2.on, .int .i64 t.h2.left]] rfl (wanted_yes (b := false) rfl rfl g2) (by have pf := Act.eval_func a 35; revert p9 p10 pf; generalize a.eval = ρ; intro p9 p10 pf; simp only [execOp]; go_simp) _ (alike_any _ _ tk u _ (HTX.out.below hR) (HTR.out.below hR) (HUQ.out.trans HTQ.out.1.symm) HTQ.out.2.1.symm HTQ.out.2.2.symm) ?_
                        rintro e w2 ⟨rfl, hb2⟩
                        refine ⟨_, rfl, _, rfl, bthen hR hb2, ?_, endPsiTFT_below hb2⟩
                        show endPsiTFT _ _ _ _ _ _ _ _ _ _ _ _ ((a.put (some 147) _).eval (.tmp 147)) w2
                        rw [at_slot hF hsz (by decide)]
                        exact rfl
                      · intro a w' hF hR hp
                        have p2 : a.eval (.tmp 138) = .bool false := hp ⟨2, Ground.data⟩ (by simp) rfl
                        have p11 : a.eval (.tmp 147) = .bool true := hp ⟨11, Ground.data⟩ (by simp) rfl
                        refine op_yields (.bool true) rfl rfl (by have pc0 := Act.eval_const a (.bool true); revert p2 p11 pc0; generalize a.eval = ρ; intro p2 p11 pc0; simp only [execOp]; go_simp) ⟨_, rfl, hR, ?_, fun _ _ _ h => h⟩
                        show endPsiTFT _ _ _ _ _ _ _ _ _ _ _ _ ((a.put (some 148) _).eval (.tmp 148)) w'
                        rw [at_slot hF hsz (by decide)]
                        exact rfl
                      · intro a w' hF hR hp
                        have p12 : a.eval (.tmp 148) = .bool true := hp ⟨12, Ground.data⟩ (by simp) rfl
                        refine op_yields (.bool true) rfl rfl (by revert p12; generalize a.eval = ρ; intro p12; simp only [execOp]; go_simp) ⟨_, rfl, hR, ?_, fun _ _ _ h => h⟩
                        show endPsiTFT _ _ _ _ _ _ _ _ _ _ _ _ ((a.put (some 149) _).eval (.tmp 149)) w'
                        rw [at_slot hF hsz (by decide)]
                        exact rfl
                      · intro a w' hF hR hp
                        have g13 : a.eval (.tmp 149) = .bool true := hp ⟨13, Ground.guard⟩ (by simp) rfl
                        have z13 := (hF.other 13 rfl).trans v13
                        refine op_yields_g (.int .i64 (kn : Int)) rfl (wanted_yes (b := true) rfl rfl g13) (by revert z13; generalize a.eval = ρ; intro z13; simp only [execOp]; go_simp) ⟨_, rfl, hR, ?_, fun _ _ _ h => h⟩
                        show endPsiTFT _ _ _ _ _ _ _ _ _ _ _ _ ((a.put (some 150) _).eval (.tmp 150)) w'
                        rw [at_slot hF hsz (by decide)]
                        exact rfl
                      · intro a w' hF hR hp
                        have g13 : a.eval (.tmp 149) = .bool true := hp ⟨13, Ground.guard⟩ (by simp) rfl
                        have z12 := (hF.other 12 rfl).trans v12
                        refine op_yields_g (.slice sa ST.length sc) rfl (wanted_yes (b := true) rfl rfl g13) (by revert z12; generalize a.eval = ρ; intro z12; simp only [execOp]; go_simp) ⟨_, rfl, hR, ?_, fun _ _ _ h => h⟩
                        show endPsiTFT _ _ _ _ _ _ _ _ _ _ _ _ ((a.put (some 151) _).eval (.tmp 151)) w'
                        rw [at_slot hF hsz (by decide)]
                        exact rfl
                      · intro a w' hF hR hp
                        have g13 : a.eval (.tmp 149) = .bool true := hp ⟨13, Ground.guard⟩ (by simp) rfl
                        have p15 : a.eval (.tmp 151) = .slice sa ST.length sc := hp ⟨15, Ground.data⟩ (by simp) rfl
                        refine op_yields_g (.int .i64 (ST.length : Int)) rfl (wanted_yes (b := true) rfl rfl g13) (by revert p15; generalize a.eval = ρ; intro p15; simp only [execOp]; go_simp) ⟨_, rfl, hR, ?_, fun _ _ _ h => h⟩
                        show endPsiTFT _ _ _ _ _ _ _ _ _ _ _ _ ((a.put (some 152) _).eval (.tmp 152)) w'
                        rw [at_slot hF hsz (by decide)]
                        exact rfl
                      · intro a w' hF hR hp
                        have g13 : a.eval (.tmp 149) = .bool true := hp ⟨13, Ground.guard⟩ (by simp) rfl
                        have p14 : a.eval (.tmp 150) = .int .i64 (kn : Int) := hp ⟨14, Ground.data⟩ (by simp) rfl
                        have p16 : a.eval (.tmp 152) = .int .i64 (ST.length : Int) := hp ⟨16, Ground.data⟩ (by simp) rfl
                        refine op_yields_g (.bool false) rfl (wanted_yes (b := true) rfl rfl g13) (by revert p14 p16; generalize a.eval = ρ; intro p14 p16; simp only [execOp]; go_simp) ⟨_, rfl, hR, ?_, fun _ _ _ h => h⟩
                        show endPsiTFT _ _ _ _ _ _ _ _ _ _ _ _ ((a.put (some 153) _).eval (.tmp 153)) w'
                        rw [at_slot hF hsz (by decide)]
                        exact rfl
                      · intro a w' hF hR hp
                        have g13 : a.eval (.tmp 149) = .bool true := hp ⟨13, Ground.guard⟩ (by simp) rfl
                        have p17 : a.eval (.tmp 153) = .bool false := hp ⟨17, Ground.data⟩ (by simp) rfl
                        refine op_yields_g (.bool false) rfl (wanted_yes (b := true) rfl rfl g13) (by revert p17; generalize a.eval = ρ; intro p17; simp only [execOp]; go_simp) ⟨_, rfl, hR, ?_, fun _ _ _ h => h⟩
                        show endPsiTFT _ _ _ _ _ _ _ _ _ _ _ _ ((a.put (some 154) _).eval (.tmp 154)) w'
                        rw [at_slot hF hsz (by decide)]
                        exact rfl
                      · intro a w' hF hR hp
                        have g18 : a.eval (.tmp 154) = .bool false := hp ⟨18, Ground.guard⟩ (by simp) rfl
                        have z18 := (hF.other 18 rfl).trans v18
                        refine op_yields_g (.bool true) rfl (wanted_yes (b := false) rfl rfl g18) (by revert z18; generalize a.eval = ρ; intro z18; simp only [execOp]; go_simp) ⟨_, rfl, hR, ?_, fun _ _ _ h => h⟩
                        show endPsiTFT _ _ _ _ _ _ _ _ _ _ _ _ ((a.put (some 155) _).eval (.tmp 155)) w'
                        rw [at_slot hF hsz (by decide)]
                        exact rfl
                      · intro a w' hF hR hp
                        have g13 : a.eval (.tmp 149) = .bool true := hp ⟨13, Ground.guard⟩ (by simp) rfl
                        have p18 : a.eval (.tmp 154) = .bool false := hp ⟨18, Ground.data⟩ (by simp) rfl
                        have p19 : a.eval (.tmp 155) = .bool true := hp ⟨19, Ground.data⟩ (by simp) rfl
                        refine op_yields_g (.bool true) rfl (wanted_yes (b := true) rfl rfl g13) (by have pc0 := Act.eval_const a (.bool true); revert p18 p19 pc0; generalize a.eval = ρ; intro p18 p19 pc0; simp only [execOp]; go_simp) ⟨_, rfl, hR, ?_, fun _ _ _ h => h⟩
                        show endPsiTFT _ _ _ _ _ _ _ _ _ _ _ _ ((a.put (some 156) _).eval (.tmp 156)) w'
                        rw [at_slot hF hsz (by decide)]
                        exact rfl
                      · intro a w' hF hR hp
                        have p13 : a.eval (.tmp 149) = .bool true := hp ⟨13, Ground.data⟩ (by simp) rfl
                        have p20 : a.eval (.tmp 156) = .bool true := hp ⟨20, Ground.data⟩ (by simp) rfl
                        refine op_yields (.bool true) rfl rfl (by have pc0 := Act.eval_const a (.bool false); revert p13 p20 pc0; generalize a.eval = ρ; intro p13 p20 pc0; simp only [execOp]; go_simp) ⟨_, rfl, hR, ?_, fun _ _ _ h => h⟩
                        show endPsiTFT _ _ _ _ _ _ _ _ _ _ _ _ ((a.put (some 157) _).eval (.tmp 157)) w'
                        rw [at_slot hF hsz (by decide)]
                        exact rfl
                      · intro a w' hF hR hp
                        have p21 : a.eval (.tmp 157) = .bool true := hp ⟨21, Ground.data⟩ (by simp) rfl
                        refine op_yields (.bool true) rfl rfl (by revert p21; generalize a.eval = ρ; intro p21; simp only [execOp]; go_simp) ⟨_, rfl, hR, ?_, fun _ _ _ h => h⟩
                        show endPsiTFT _ _ _ _ _ _ _ _ _ _ _ _ ((a.put (some 158) _).eval (.tmp 158)) w'
                        rw [at_slot hF hsz (by decide)]
                        exact rfl
                      · intro a w' hF hR hp
                        have g22 : a.eval (.tmp 158) = .bool true := hp ⟨22, Ground.guard⟩ (by simp) rfl
                        have z13 := (hF.other 13 rfl).trans v13
                        refine op_yields_g (.int .i64 (kn : Int)) rfl (wanted_yes (b := true) rfl rfl g22) (by revert z13; generalize a.eval = ρ; intro z13; simp only [execOp]; go_simp) ⟨_, rfl, hR, ?_, fun _ _ _ h => h⟩
                        show endPsiTFT _ _ _ _ _ _ _ _ _ _ _ _ ((a.put (some 159) _).eval (.tmp 159)) w'
                        rw [at_slot hF hsz (by decide)]
                        exact rfl
                      · intro a w' hF hR hp
                        have g22 : a.eval (.tmp 158) = .bool true := hp ⟨22, Ground.guard⟩ (by simp) rfl
                        have z12 := (hF.other 12 rfl).trans v12
                        refine op_yields_g (.slice sa ST.length sc) rfl (wanted_yes (b := true) rfl rfl g22) (by revert z12; generalize a.eval = ρ; intro z12; simp only [execOp]; go_simp) ⟨_, rfl, hR, ?_, fun _ _ _ h => h⟩
                        show endPsiTFT _ _ _ _ _ _ _ _ _ _ _ _ ((a.put (some 160) _).eval (.tmp 160)) w'
                        rw [at_slot hF hsz (by decide)]
                        exact rfl
                      · intro a w' hF hR hp
                        have g22 : a.eval (.tmp 158) = .bool true := hp ⟨22, Ground.guard⟩ (by simp) rfl
                        have p24 : a.eval (.tmp 160) = .slice sa ST.length sc := hp ⟨24, Ground.data⟩ (by simp) rfl
                        refine op_yields_g (.int .i64 (ST.length : Int)) rfl (wanted_yes (b := true) rfl rfl g22) (by revert p24; generalize a.eval = ρ; intro p24; simp only [execOp]; go_simp) ⟨_, rfl, hR, ?_, fun _ _ _ h => h⟩
                        show endPsiTFT _ _ _ _ _ _ _ _ _ _ _ _ ((a.put (some 161) _).eval (.tmp 161)) w'
                        rw [at_slot hF hsz (by decide)]
                        exact rfl
                      · intro a w' hF hR hp
                        have g22 : a.eval (.tmp 158) = .bool true := hp ⟨22, Ground.guard⟩ (by simp) rfl
                        have p25 : a.eval (.tmp 161) = .int .i64 (ST.length : Int) := hp ⟨25, Ground.data⟩ (by simp) rfl
                        refine op_yields_g (.int .i64 ((ST.length : Int) - 1)) rfl (wanted_yes (b := true) rfl rfl g22) (by have pc0 := Act.eval_const a (.int .i64 1); revert p25 pc0; generalize a.eval = ρ; intro p25 pc0; simp only [execOp]; go_simp) ⟨_, rfl, hR, ?_, fun _ _ _ h => h⟩
                        show endPsiTFT _ _ _ _ _ _ _ _ _ _ _ _ ((a.put (some 162) _).eval (.tmp 162)) w'
                        rw [at_slot hF hsz (by decide)]
                        exact rfl
                      · intro a w' hF hR hp
                        have g22 : a.eval (.tmp 158) = .bool true := hp ⟨22, Ground.guard⟩ (by simp) rfl
                        have p23 : a.eval (.tmp 159) = .int .i64 (kn : Int) := hp ⟨23, Ground.data⟩ (by simp) rfl
                        have p26 : a.eval (.tmp 162) = .int .i64 ((ST.length : Int) - 1) := hp ⟨26, Ground.data⟩ (by simp) rfl
                        refine op_yields_g (.bool true) rfl (wanted_yes (b := true) rfl rfl g22) (by revert p23 p26; generalize a.eval = ρ; intro p23 p26; simp only [execOp]; go_simp) ⟨_, rfl, hR, ?_, fun _ _ _ h => h⟩
                        show endPsiTFT _ _ _ _ _ _ _ _ _ _ _ _ ((a.put (some 163) _).eval (.tmp 163)) w'
                        rw [at_slot hF hsz (by decide)]
                        exact rfl
                      · intro a w' hF hR hp
                        have g22 : a.eval (.tmp 158) = .bool true := hp ⟨22, Ground.guard⟩ (by simp) rfl
                        have p27 : a.eval (.tmp 163) = .bool true := hp ⟨27, Ground.data⟩ (by simp) rfl
                        refine op_yields_g (.bool true) rfl (wanted_yes (b := true) rfl rfl g22) (by revert p27; generalize a.eval = ρ; intro p27; simp only [execOp]; go_simp) ⟨_, rfl, hR, ?_, fun _ _ _ h => h⟩
                        show endPsiTFT _ _ _ _ _ _ _ _ _ _ _ _ ((a.put (some 164) _).eval (.tmp 164)) w'
                        rw [at_slot hF hsz (by decide)]
                        exact rfl
                      · intro a w' hF hR hp
                        have g28 : a.eval (.tmp 164) = .bool true := hp ⟨28, Ground.guard⟩ (by simp) rfl
                        refine op_no rfl rfl rfl g28 ⟨_, rfl, hR, trivial, fun _ _ _ h => h⟩
                      · intro a w' hF hR hp
                        have g28 : a.eval (.tmp 164) = .bool true := hp ⟨28, Ground.guard⟩ (by simp) rfl
                        refine op_no rfl rfl rfl g28 ⟨_, rfl, hR, trivial, fun _ _ _ h => h⟩
                      · intro a w' hF hR hp
                        have g22 : a.eval (.tmp 158) = .bool true := hp ⟨22, Ground.guard⟩ (by simp) rfl
                        have p28 : a.eval (.tmp 164) = .bool true := hp ⟨28, Ground.data⟩ (by simp) rfl
                        refine op_yields_g (.bool true) rfl (wanted_yes (b := true) rfl rfl g22) (by have pc0 := Act.eval_const a (.bool true); revert p28 pc0; generalize a.eval = ρ; intro p28 pc0; simp only [execOp]; go_simp) ⟨_, rfl, hR, ?_, fun _ _ _ h => h⟩
                        show endPsiTFT _ _ _ _ _ _ _ _ _ _ _ _ ((a.put (some 167) _).eval (.tmp 167)) w'
                        rw [at_slot hF hsz (by decide)]
                        exact rfl
                      · intro a w' hF hR hp
                        have p22 : a.eval (.tmp 158) = .bool true := hp ⟨22, Ground.data⟩ (by simp) rfl
                        have p31 : a.eval (.tmp 167) = .bool true := hp ⟨31, Ground.data⟩ (by simp) rfl
                        refine op_yields (.bool true) rfl rfl (by have pc0 := Act.eval_const a (.bool false); revert p22 p31 pc0; generalize a.eval = ρ; intro p22 p31 pc0; simp only [execOp]; go_simp) ⟨_, rfl, hR, ?_, fun _ _ _ h => h⟩
                        show endPsiTFT _ _ _ _ _ _ _ _ _ _ _ _ ((a.put (some 168) _).eval (.tmp 168)) w'
                        rw [at_slot hF hsz (by decide)]
                        exact rfl
                      · intro a w' hF hR hp
                        have p32 : a.eval (.tmp 168) = .bool true := hp ⟨32, Ground.data⟩ (by simp) rfl
                        refine op_yields (.bool true) rfl rfl (by revert p32; generalize a.eval = ρ; intro p32; simp only [execOp]; go_simp) ⟨_, rfl, hR, ?_, fun _ _ _ h => h⟩
                        show endPsiTFT _ _ _ _ _ _ _ _ _ _ _ _ ((a.put (some 8) _).eval (.tmp 8)) w'
                        rw [at_slot hF hsz (by decide)]
                        exact rfl
                      · intro a W5 hF hR hp
                        have p33 : a.eval (.tmp 8) = .bool true := hp 33 (by decide)
                        have hlit : a = ⟨#[a.eval (.tmp 0), a.eval (.tmp 1), a.eval (.tmp 2), a.eval (.tmp 3), a.eval (.tmp 4), a.eval (.tmp 5), a.eval (.tmp 6), a.eval (.tmp 7), a.eval (.tmp 8), a.eval (.tmp 9), a.eval (.tmp 10), a.eval (.tmp 11), a.eval (.tmp 12), a.eval (.tmp 13), a.eval (.tmp 14), a.eval (.tmp 15), a.eval (.tmp 16), a.eval (.tmp 17), a.eval (.tmp 18), a.eval (.tmp 19), a.eval (.tmp 20), a.eval (.tmp 21), a.eval (.tmp 22), a.eval (.tmp 23), a.eval (.tmp 24), a.eval (.tmp 25), a.eval (.tmp 26), a.eval (.tmp 27), a.eval (.tmp 28), a.eval (.tmp 29), a.eval (.tmp 30), a.eval (.tmp 31), a.eval (.tmp 32), a.eval (.tmp 33), a.eval (.tmp 34), a.eval (.tmp 35), a.eval (.tmp 36), a.eval (.tmp 37), a.eval (.tmp 38), a.eval (.tmp 39), a.eval (.tmp 40), a.eval (.tmp 41), a.eval (.tmp 42), a.eval (.tmp 43), a.eval (.tmp 44), a.eval (.tmp 45), a.eval (.tmp 46), a.eval (.tmp 47), a.eval (.tmp 48), a.eval (.tmp 49), a.eval (.tmp 50), a.eval (.tmp 51), a.eval (.tmp 52), a.eval (.tmp 53), a.eval (.tmp 54), a.eval (.tmp 55), a.eval (.tmp 56), a.eval (.tmp 57), a.eval (.tmp 58), a.eval (.tmp 59), a.eval (.tmp 60), a.eval (.tmp 61), a.eval (.tmp 62), a.eval (.tmp 63), a.eval (.tmp 64), a.eval (.tmp 65), a.eval (.tmp 66), a.eval (.tmp 67), a.eval (.tmp 68), a.eval (.tmp 69), a.eval (.tmp 70), a.eval (.tmp 71), a.eval (.tmp 72), a.eval (.tmp 73), a.eval (.tmp 74), a.eval (.tmp 75), a.eval (.tmp 76), a.eval (.tmp 77), a.eval (.tmp 78), a.eval (.tmp 79), a.eval (.tmp 80), a.eval (.tmp 81), a.eval (.tmp 82), a.eval (.tmp 83), a.eval (.tmp 84), a.eval (.tmp 85), a.eval (.tmp 86), a.eval (.tmp 87), a.eval (.tmp 88), a.eval (.tmp 89), a.eval (.tmp 90), a.eval (.tmp 91), a.eval (.tmp 92), a.eval (.tmp 93), a.eval (.tmp 94), a.eval (.tmp 95), a.eval (.tmp 96), a.eval (.tmp 97), a.eval (.tmp 98), a.eval (.tmp 99), a.eval (.tmp 100), a.eval (.tmp 101), a.eval (.tmp 102), a.eval (.tmp 103), a.eval (.tmp 104), a.eval (.tmp 105), a.eval (.tmp 106), a.eval (.tmp 107), a.eval (.tmp 108), a.eval (.tmp 109), a.eval (.tmp 110), a.eval (.tmp 111), a.eval (.tmp 112), a.eval (.tmp 113), a.eval (.tmp 114), a.eval (.tmp 115), a.eval (.tmp 116), a.eval (.tmp 117), a.eval (.tmp 118), a.eval (.tmp 119), a.eval (.tmp 120), a.eval (.tmp 121), a.eval (.tmp 122), a.eval (.tmp 123), a.eval (.tmp 124), a.eval (.tmp 125), a.eval (.tmp 126), a.eval (.tmp 127), a.eval (.tmp 128), a.eval (.tmp 129), a.eval (.tmp 130), a.eval (.tmp 131), a.eval (.tmp 132), a.eval (.tmp 133), a.eval (.tmp 134), a.eval (.tmp 135), a.eval (.tmp 136), a.eval (.tmp 137), a.eval (.tmp 138), a.eval (.tmp 139), a.eval (.tmp 140), a.eval (.tmp 141), a.eval (.tmp 142), a.eval (.tmp 143), a.eval (.tmp 144), a.eval (.tmp 145), a.eval (.tmp 146), a.eval (.tmp 147), a.eval (.tmp 148), a.eval (.tmp 149), a.eval (.tmp 150), a.eval (.tmp 151), a.eval (.tmp 152), a.eval (.tmp 153), a.eval (.tmp 154), a.eval (.tmp 155), a.eval (.tmp 156), a.eval (.tmp 157), a.eval (.tmp 158), a.eval (.tmp 159), a.eval (.tmp 160), a.eval (.tmp 161), a.eval (.tmp 162), a.eval (.tmp 163), a.eval (.tmp 164), a.eval (.tmp 165), a.eval (.tmp 166), a.eval (.tmp 167), a.eval (.tmp 168)], []⟩ := act_lit a 169 (hF.size.trans hsz) (hF.defers.trans hdf)
                        rw [p33] at hlit
                        exact (congrArg (fun x => K9 x W5) hlit).mpr (HTAIL9.out (a.eval (.tmp 0)) (a.eval (.tmp 1)) (a.eval (.tmp 2)) (a.eval (.tmp 3)) (a.eval (.tmp 4)) (a.eval (.tmp 5)) (a.eval (.tmp 6)) (a.eval (.tmp 7)) (a.eval (.tmp 9)) (a.eval (.tmp 10)) (a.eval (.tmp 11)) (a.eval (.tmp 12)) (a.eval (.tmp 13)) (a.eval (.tmp 14)) (a.eval (.tmp 15)) (a.eval (.tmp 16)) (a.eval (.tmp 17)) (a.eval (.tmp 18)) (a.eval (.tmp 19)) (a.eval (.tmp 20)) (a.eval (.tmp 21)) (a.eval (.tmp 22)) (a.eval (.tmp 23)) (a.eval (.tmp 24)) (a.eval (.tmp 25)) (a.eval (.tmp 26)) (a.eval (.tmp 27)) (a.eval (.tmp 28)) (a.eval (.tmp 29)) (a.eval (.tmp 30)) (a.eval (.tmp 31)) (a.eval (.tmp 32)) (a.eval (.tmp 33)) (a.eval (.tmp 34)) (a.eval (.tmp 35)) (a.eval (.tmp 36)) (a.eval (.tmp 37)) (a.eval (.tmp 38)) (a.eval (.tmp 39)) (a.eval (.tmp 40)) (a.eval (.tmp 41)) (a.eval (.tmp 42)) (a.eval (.tmp 43)) (a.eval (.tmp 44)) (a.eval (.tmp 45)) (a.eval (.tmp 46)) (a.eval (.tmp 47)) (a.eval (.tmp 48)) (a.eval (.tmp 49)) (a.eval (.tmp 50)) (a.eval (.tmp 51)) (a.eval (.tmp 52)) (a.eval (.tmp 53)) (a.eval (.tmp 54)) (a.eval (.tmp 55)) (a.eval (.tmp 56)) (a.eval (.tmp 57)) (a.eval (.tmp 58)) (a.eval (.tmp 59)) (a.eval (.tmp 60)) (a.eval (.tmp 61)) (a.eval (.tmp 62)) (a.eval (.tmp 63)) (a.eval (.tmp 64)) (a.eval (.tmp 65)) (a.eval (.tmp 66)) (a.eval (.tmp 67)) (a.eval (.tmp 68)) (a.eval (.tmp 69)) (a.eval (.tmp 70)) (a.eval (.tmp 71)) (a.eval (.tmp 72)) (a.eval (.tmp 73)) (a.eval (.tmp 74)) (a.eval (.tmp 75)) (a.eval (.tmp 76)) (a.eval (.tmp 77)) (a.eval (.tmp 78)) (a.eval (.tmp 79)) (a.eval (.tmp 80)) (a.eval (.tmp 81)) (a.eval (.tmp 82)) (a.eval (.tmp 83)) (a.eval (.tmp 84)) (a.eval (.tmp 85)) (a.eval (.tmp 86)) (a.eval (.tmp 87)) (a.eval (.tmp 88)) (a.eval (.tmp 89)) (a.eval (.tmp 90)) (a.eval (.tmp 91)) (a.eval (.tmp 92)) (a.eval (.tmp 93)) (a.eval (.tmp 94)) (a.eval (.tmp 95)) (a.eval (.tmp 96)) (a.eval (.tmp 97)) (a.eval (.tmp 98)) (a.eval (.tmp 99)) (a.eval (.tmp 100)) (a.eval (.tmp 101)) (a.eval (.tmp 102)) (a.eval (.tmp 103)) (a.eval (.tmp 104)) (a.eval (.tmp 105)) (a.eval (.tmp 106)) (a.eval (.tmp 107)) (a.eval (.tmp 108)) (a.eval (.tmp 109)) (a.eval (.tmp 110)) (a.eval (.tmp 111)) (a.eval (.tmp 112)) (a.eval (.tmp 113)) (a.eval (.tmp 114)) (a.eval (.tmp 115)) (a.eval (.tmp 116)) (a.eval (.tmp 117)) (a.eval (.tmp 118)) (a.eval (.tmp 119)) (a.eval (.tmp 120)) (a.eval (.tmp 121)) (a.eval (.tmp 122)) (a.eval (.tmp 123)) (a.eval (.tmp 124)) (a.eval (.tmp 125)) (a.eval (.tmp 126)) (a.eval (.tmp 127)) (a.eval (.tmp 128)) (a.eval (.tmp 129)) (a.eval (.tmp 130)) (a.eval (.tmp 131)) (a.eval (.tmp 132)) (a.eval (.tmp 133)) (a.eval (.tmp 134)) (a.eval (.tmp 135)) (a.eval (.tmp 136)) (a.eval (.tmp 137)) (a.eval (.tmp 138)) (a.eval (.tmp 139)) (a.eval (.tmp 140)) (a.eval (.tmp 141)) (a.eval (.tmp 142)) (a.eval (.tmp 143)) (a.eval (.tmp 144)) (a.eval (.tmp 145)) (a.eval (.tmp 146)) (a.eval (.tmp 147)) (a.eval (.tmp 148)) (a.eval (.tmp 149)) (a.eval (.tmp 150)) (a.eval (.tmp 151)) (a.eval (.tmp 152)) (a.eval (.tmp 153)) (a.eval (.tmp 154)) (a.eval (.tmp 155)) (a.eval (.tmp 156)) (a.eval (.tmp 157)) (a.eval (.tmp 158)) (a.eval (.tmp 159)) (a.eval (.tmp 160)) (a.eval (.tmp 161)) (a.eval (.tmp 162)) (a.eval (.tmp 163)) (a.eval (.tmp 164)) (a.eval (.tmp 165)) (a.eval (.tmp 166)) (a.eval (.tmp 167)) (a.eval (.tmp 168)) W5 hR)
            have HTAIL := hide TAIL
            clear TAIL hKK
            have HCE : Hid (crashE (runK D (ST.take kn)) q = 0) := (HSO.out kn q _ _ hkl hdn rfl rfl).1
            obtain ⟨⟨y0, y1⟩, yf⟩ := box2 KBW.out
            have Y0 := hide y0
            have Y1 := hide y1
            clear y0 y1 yf
            have hkc : kn ≤ sc := by omega
            refine (show ∀ A0 : Act, A0 = _ → Code.wp Tryz.prog _ _ A0 _ from fun A0 hA0 => ?_) _ rfl
            have hsz : A0.tmps.size = 169 := by rw [hA0]; rfl
            have hdf : A0.defers = [] := by rw [hA0]
            have v3 : A0.eval (.tmp 3) = .int .i64 dr := by rw [hA0]; rfl
            have v4 : A0.eval (.tmp 4) = .pointer (some ⟨w.heap.size, 0, none⟩) := by rw [hA0]; rfl
            have v5 : A0.eval (.tmp 5) = .pointer (some ⟨w.heap.size + 1, 0, none⟩) := by rw [hA0]; rfl
            have v8 : A0.eval (.tmp 8) = .bool false := by rw [hA0]; rfl
            have v9 : A0.eval (.tmp 9) = .pointer (some ⟨w3.heap.size, 0, none⟩) := by rw [hA0]; rfl
            have v12 : A0.eval (.tmp 12) = .slice sa ST.length sc := by rw [hA0]; rfl
            have v13 : A0.eval (.tmp 13) = .int .i64 (kn : Int) := by rw [hA0]; rfl
            clear hA0
            refine wp_region_slots (fun w' => Below W.heap.size W w') [70, 71, 72, 73, 74, 75, 76, 77, 69, 78, 79, 14, 14, 10] (crPsi W (.agg #[.slice e1 n1 e2, .slice e3 n2 e4]) (.slice sa ST.length sc) (.slice sa kn sc) (kn : Int) dr q (runK D (ST.take kn)) (crashK (runK D (ST.take kn)) q)) (by kernel_rfl) (by kernel_rfl) (by kernel_rfl) ((Below.refl _ _).drew) ⟨?_, ?_, ?_, ?_, ?_, ?_, ?_, ?_, ?_, ?_, ?_, ?_, ?_, ?_, trivial⟩ ?_
            · intro a w' hF hR hp
              have z4 := (hF.other 4 rfl).trans v4
              have c0 := cellKeep hR hsWa Y0.out
              have c1 := cellKeep hR hsWa Y1.out
              refine op_yields (.agg #[.slice e1 n1 e2, .slice e3 n2 e4]) rfl rfl (by revert z4; generalize a.eval = ρ; intro z4; simp only [execOp]; go_simp) ⟨_, rfl, hR, ?_, fun _ _ _ h => h⟩
              show crPsi _ _ _ _ _ _ _ _ _ _ ((a.put (some 70) _).eval (.tmp 70)) w'
              rw [at_slot hF hsz (by decide)]
              exact rfl
            · intro a w' hF hR hp
              have z12 := (hF.other 12 rfl).trans v12
              refine op_yields (.slice sa ST.length sc) rfl rfl (by revert z12; generalize a.eval = ρ; intro z12; simp only [execOp]; go_simp) ⟨_, rfl, hR, ?_, fun _ _ _ h => h⟩
              show crPsi _ _ _ _ _ _ _ _ _ _ ((a.put (some 71) _).eval (.tmp 71)) w'
              rw [at_slot hF hsz (by decide)]
              exact rfl
            · intro a w' hF hR hp
              have z13 := (hF.other 13 rfl).trans v13
              refine op_yields (.int .i64 (kn : Int)) rfl rfl (by revert z13; generalize a.eval = ρ; intro z13; simp only [execOp]; go_simp) ⟨_, rfl, hR, ?_, fun _ _ _ h => h⟩
              show crPsi _ _ _ _ _ _ _ _ _ _ ((a.put (some 72) _).eval (.tmp 72)) w'
              rw [at_slot hF hsz (by decide)]
              exact rfl
            · intro a w' hF hR hp
              have p1 : a.eval (.tmp 71) = .slice sa ST.length sc := hp ⟨1, Ground.data⟩ (by simp) rfl
              have p2 : a.eval (.tmp 72) = .int .i64 (kn : Int) := hp ⟨2, Ground.data⟩ (by simp) rfl
              have hkc1 : (kn : Int) ≤ (sc : Int) := by omega
              have hk0 : (0 : Int) ≤ (kn : Int) := by omega
              refine op_yields (.slice sa kn sc) rfl rfl (by revert p1 p2; generalize a.eval = ρ; intro p1 p2; simp only [execOp]; go_simp) ⟨_, rfl, hR, ?_, fun _ _ _ h => h⟩
              show crPsi _ _ _ _ _ _ _ _ _ _ ((a.put (some 73) _).eval (.tmp 73)) w'
              rw [at_slot hF hsz (by decide)]
              exact rfl
            · intro a w' hF hR hp
              have p0 : a.eval (.tmp 70) = .agg #[.slice e1 n1 e2, .slice e3 n2 e4] := hp ⟨0, Ground.data⟩ (by simp) rfl
              have p3 : a.eval (.tmp 73) = .slice sa kn sc := hp ⟨3, Ground.data⟩ (by simp) rfl
              refine op_calls 34 #[.agg #[.slice e1 n1 e2, .slice e3 n2 e4], .slice sa kn sc] rfl rfl (by have pf := Act.eval_func a 34; revert p0 p3 pf; generalize a.eval = ρ; intro p0 p3 pf; simp only [execOp]; go_simp) _ (run_n (.agg #[.slice e1 n1 e2, .slice e3 n2 e4]) D sa kn sc (ST.take kn) _ (by rw [List.length_take]; omega) (HDW.out.below hR) ((HSW.out.below hR).take kn) (by rw [List.length_take]; omega)) ?_
              rintro e w2 ⟨vR, rfl, hDR, hbR⟩
              refine ⟨_, rfl, _, rfl, bthen hR hbR, ?_, crPsi_below hbR⟩
              show crPsi _ _ _ _ _ _ _ _ _ _ ((a.put (some 74) _).eval (.tmp 74)) w2
              rw [at_slot hF hsz (by decide)]
              exact hDR
            · intro a w' hF hR hp
              have z3 := (hF.other 3 rfl).trans v3
              refine op_yields (.int .i64 dr) rfl rfl (by revert z3; generalize a.eval = ρ; intro z3; simp only [execOp]; go_simp) ⟨_, rfl, hR, ?_, fun _ _ _ h => h⟩
              show crPsi _ _ _ _ _ _ _ _ _ _ ((a.put (some 75) _).eval (.tmp 75)) w'
              rw [at_slot hF hsz (by decide)]
              exact rfl
            · intro a w' hF hR hp
              have p5 : a.eval (.tmp 75) = .int .i64 dr := hp ⟨5, Ground.data⟩ (by simp) rfl
              refine op_calls 32 #[.int .i64 dr, .int .i64 1099511627776] rfl rfl (by have pf := Act.eval_func a 32; have pc0 := Act.eval_const a (.int .i64 1099511627776); revert p5 pf pc0; generalize a.eval = ρ; intro p5 pf pc0; simp only [execOp]; go_simp) _ (pick_any dr 1099511627776 _ (by decide) (by decide) hd0 hd1) ?_
              rintro e w2 ⟨rfl, rfl⟩
              refine ⟨_, rfl, _, rfl, hR, ?_, fun _ _ _ h => h⟩
              show crPsi _ _ _ _ _ _ _ _ _ _ ((a.put (some 76) _).eval (.tmp 76)) w'
              rw [at_slot hF hsz (by decide)]
              exact congrArg (Value.int .i64) HQ.out.symm
            · intro a w' hF hR hp
              have p4 : IsDk w' (a.eval (.tmp 74)) (runK D (ST.take kn)) := hp ⟨4, Ground.data⟩ (by simp) rfl
              have p6 : a.eval (.tmp 76) = .int .i64 q := hp ⟨6, Ground.data⟩ (by simp) rfl
              refine op_calls 33 #[a.eval (.tmp 74), .int .i64 q] rfl rfl (by have pf := Act.eval_func a 33; revert p6 pf; generalize a.eval = ρ; intro p6 pf; simp only [execOp]; go_simp) _ (crash_any _ (runK D (ST.take kn)) q _ p4 (by omega)) ?_
              rintro e w2 ⟨vC, rfl, hDC, _, hbC⟩
              rw [HCE.out]
              refine ⟨_, rfl, _, rfl, bthen hR hbC, ?_, crPsi_below hbC⟩
              show crPsi _ _ _ _ _ _ _ _ _ _ ((a.put (some 77) _).eval (.tmp 77)) w2
              rw [at_slot hF hsz (by decide)]
              exact ⟨_, rfl, hDC⟩
            · intro a w' hF hR hp
              obtain ⟨vC, p7, hDC⟩ : ∃ v, a.eval (.tmp 77) = .tuple #[v, .int .i64 0] ∧ IsDk w' v (crashK (runK D (ST.take kn)) q) := hp ⟨7, Ground.data⟩ (by simp) rfl
              refine op_yields (.tuple #[vC, .int .i64 0]) rfl rfl (by revert p7; generalize a.eval = ρ; intro p7; simp only [execOp]; go_simp) ⟨_, rfl, hR, ?_, fun _ _ _ h => h⟩
              show crPsi _ _ _ _ _ _ _ _ _ _ ((a.put (some 69) _).eval (.tmp 69)) w'
              rw [at_slot hF hsz (by decide)]
              exact ⟨_, rfl, hDC⟩
            · intro a w' hF hR hp
              obtain ⟨vC, p8, hDC⟩ : ∃ v, a.eval (.tmp 69) = .tuple #[v, .int .i64 0] ∧ IsDk w' v (crashK (runK D (ST.take kn)) q) := hp ⟨8, Ground.data⟩ (by simp) rfl
              refine op_yields (vC) rfl rfl (by revert p8; generalize a.eval = ρ; intro p8; simp only [execOp]; go_simp) ⟨_, rfl, hR, ?_, fun _ _ _ h => h⟩
              show crPsi _ _ _ _ _ _ _ _ _ _ ((a.put (some 78) _).eval (.tmp 78)) w'
              rw [at_slot hF hsz (by decide)]
              exact hDC
            · intro a w' hF hR hp
              obtain ⟨vC, p8, hDC⟩ : ∃ v, a.eval (.tmp 69) = .tuple #[v, .int .i64 0] ∧ IsDk w' v (crashK (runK D (ST.take kn)) q) := hp ⟨8, Ground.data⟩ (by simp) rfl
              refine op_yields (.int .i64 0) rfl rfl (by revert p8; generalize a.eval = ρ; intro p8; simp only [execOp]; go_simp) ⟨_, rfl, hR, ?_, fun _ _ _ h => h⟩
              show crPsi _ _ _ _ _ _ _ _ _ _ ((a.put (some 79) _).eval (.tmp 79)) w'
              rw [at_slot hF hsz (by decide)]
              exact rfl
            · intro a w' hF hR hp
              refine op_runs (.pointer (some ⟨w'.heap.size, 0, none⟩)) rfl rfl (w' := w'.alloc (.cells #[.slice none 0 0, .slice none 0 0] 58)) (by simp only [execOp]; go_simp) ⟨_, rfl, hR.alloc hR.size _, ?_, crPsi_below (below1 _ _)⟩
              show crPsi _ _ _ _ _ _ _ _ _ _ ((a.put (some 14) _).eval (.tmp 14)) _
              rw [at_slot hF hsz (by decide)]
              exact ⟨_, _, _, _, _, _, _, rfl, hR.size, heap_alloc_new _ _⟩
            · intro a w' hF hR hp
              obtain ⟨T, a1, k1, c1, a2, k2, c2, p11, hT, hB⟩ : ∃ T a1 n1 c1 a2 n2 c2, a.eval (.tmp 14) = .pointer (some ⟨T, 0, none⟩) ∧ W.heap.size ≤ T ∧ w'.heap[T]? = some (.cells #[.slice a1 n1 c1, .slice a2 n2 c2] 58 (0, 0)) := hp ⟨11, Ground.data⟩ (by simp) rfl
              have p9 : IsDk w' (a.eval (.tmp 78)) (crashK (runK D (ST.take kn)) q) := hp ⟨9, Ground.data⟩ (by simp) rfl
              have hD := p9
              obtain ⟨xa, xc, xb, xd, hv, _, _, _, _⟩ := p9
              rw [hv] at hD
              generalize (crashK (runK D (ST.take kn)) q).safe.length = xn at *
              generalize (crashK (runK D (ST.take kn)) q).wr.length = xm at *
              obtain ⟨⟨z0, z1⟩, zf⟩ := box2 hB
              refine op_skips rfl rfl (w' := (w'.setCell ⟨T, 0, none⟩ (.slice xa xn xc)).setCell ⟨T, 1, none⟩ (.slice xb xm xd)) (by revert p11 hv; generalize a.eval = ρ; intro p11 hv; simp only [execOp]; go_simp) ⟨_, rfl, (hR.setCell (p := ⟨T, 0, none⟩) hT _).setCell (p := ⟨T, 1, none⟩) hT _, ?_, crPsi_store hB _ _ _ _ _ _⟩
              show crPsi _ _ _ _ _ _ _ _ _ _ (a.eval (.tmp 14)) _
              rw [p11]
              exact ⟨T, _, _, _, _, _, _, rfl, hT, stored2 hB _ _, (hD.setBox hB 0 _).setBox (heap_setCell_same _ _ 0 _ _ (.slice xa xn xc) hB) 1 _⟩
            · intro a w' hF hR hp
              have p10 : a.eval (.tmp 79) = .int .i64 0 := hp ⟨10, Ground.data⟩ (by simp) rfl
              refine op_yields (.int .i64 0) rfl rfl (by revert p10; generalize a.eval = ρ; intro p10; simp only [execOp]; go_simp) ⟨_, rfl, hR, ?_, fun _ _ _ h => h⟩
              show crPsi _ _ _ _ _ _ _ _ _ _ ((a.put (some 10) _).eval (.tmp 10)) w'
              rw [at_slot hF hsz (by decide)]
              exact rfl
            · intro a W2 hF hR hp
              obtain ⟨T, a1, k1, c1, a2, k2, c2, p12, hT, hB, hD⟩ : ∃ T a1 n1 c1 a2 n2 c2, a.eval (.tmp 14) = .pointer (some ⟨T, 0, none⟩) ∧ W.heap.size ≤ T ∧ W2.heap[T]? = some (.cells #[.slice a1 n1 c1, .slice a2 n2 c2] 58 (0, 0)) ∧ IsDk W2 (.agg #[.slice a1 n1 c1, .slice a2 n2 c2]) (crashK (runK D (ST.take kn)) q) := hp 12 (by decide)
              have p13 : a.eval (.tmp 10) = .int .i64 0 := hp 13 (by decide)
              have f5 := (hF.other 5 rfl).trans v5
              have f8 := (hF.other 8 rfl).trans v8
              have f9 := (hF.other 9 rfl).trans v9
              have f12 := (hF.other 12 rfl).trans v12
              have f13 := (hF.other 13 rfl).trans v13
              have hlit : a = ⟨#[a.eval (.tmp 0), a.eval (.tmp 1), a.eval (.tmp 2), a.eval (.tmp 3), a.eval (.tmp 4), a.eval (.tmp 5), a.eval (.tmp 6), a.eval (.tmp 7), a.eval (.tmp 8), a.eval (.tmp 9), a.eval (.tmp 10), a.eval (.tmp 11), a.eval (.tmp 12), a.eval (.tmp 13), a.eval (.tmp 14), a.eval (.tmp 15), a.eval (.tmp 16), a.eval (.tmp 17), a.eval (.tmp 18), a.eval (.tmp 19), a.eval (.tmp 20), a.eval (.tmp 21), a.eval (.tmp 22), a.eval (.tmp 23), a.eval (.tmp 24), a.eval (.tmp 25), a.eval (.tmp 26), a.eval (.tmp 27), a.eval (.tmp 28), a.eval (.tmp 29), a.eval (.tmp 30), a.eval (.tmp 31), a.eval (.tmp 32), a.eval (.tmp 33), a.eval (.tmp 34), a.eval (.tmp 35), a.eval (.tmp 36), a.eval (.tmp 37), a.eval (.tmp 38), a.eval (.tmp 39), a.eval (.tmp 40), a.eval (.tmp 41), a.eval (.tmp 42), a.eval (.tmp 43), a.eval (.tmp 44), a.eval (.tmp 45), a.eval (.tmp 46), a.eval (.tmp 47), a.eval (.tmp 48), a.eval (.tmp 49), a.eval (.tmp 50), a.eval (.tmp 51), a.eval (.tmp 52), a.eval (.tmp 53), a.eval (.tmp 54), a.eval (.tmp 55), a.eval (.tmp 56), a.eval (.tmp 57), a.eval (.tmp 58), a.eval (.tmp 59), a.eval (.tmp 60), a.eval (.tmp 61), a.eval (.tmp 62), a.eval (.tmp 63), a.eval (.tmp 64), a.eval (.tmp 65), a.eval (.tmp 66), a.eval (.tmp 67), a.eval (.tmp 68), a.eval (.tmp 69), a.eval (.tmp 70), a.eval (.tmp 71), a.eval (.tmp 72), a.eval (.tmp 73), a.eval (.tmp 74), a.eval (.tmp 75), a.eval (.tmp 76), a.eval (.tmp 77), a.eval (.tmp 78), a.eval (.tmp 79), a.eval (.tmp 80), a.eval (.tmp 81), a.eval (.tmp 82), a.eval (.tmp 83), a.eval (.tmp 84), a.eval (.tmp 85), a.eval (.tmp 86), a.eval (.tmp 87), a.eval (.tmp 88), a.eval (.tmp 89), a.eval (.tmp 90), a.eval (.tmp 91), a.eval (.tmp 92), a.eval (.tmp 93), a.eval (.tmp 94), a.eval (.tmp 95), a.eval (.tmp 96), a.eval (.tmp 97), a.eval (.tmp 98), a.eval (.tmp 99), a.eval (.tmp 100), a.eval (.tmp 101), a.eval (.tmp 102), a.eval (.tmp 103), a.eval (.tmp 104), a.eval (.tmp 105), a.eval (.tmp 106), a.eval (.tmp 107), a.eval (.tmp 108), a.eval (.tmp 109), a.eval (.tmp 110), a.eval (.tmp 111), a.eval (.tmp 112), a.eval (.tmp 113), a.eval (.tmp 114), a.eval (.tmp 115), a.eval (.tmp 116), a.eval (.tmp 117), a.eval (.tmp 118), a.eval (.tmp 119), a.eval (.tmp 120), a.eval (.tmp 121), a.eval (.tmp 122), a.eval (.tmp 123), a.eval (.tmp 124), a.eval (.tmp 125), a.eval (.tmp 126), a.eval (.tmp 127), a.eval (.tmp 128), a.eval (.tmp 129), a.eval (.tmp 130), a.eval (.tmp 131), a.eval (.tmp 132), a.eval (.tmp 133), a.eval (.tmp 134), a.eval (.tmp 135), a.eval (.tmp 136), a.eval (.tmp 137), a.eval (.tmp 138), a.eval (.tmp 139), a.eval (.tmp 140), a.eval (.tmp 141), a.eval (.tmp 142), a.eval (.tmp 143), a.eval (.tmp 144), a.eval (.tmp 145), a.eval (.tmp 146), a.eval (.tmp 147), a.eval (.tmp 148), a.eval (.tmp 149), a.eval (.tmp 150), a.eval (.tmp 151), a.eval (.tmp 152), a.eval (.tmp 153), a.eval (.tmp 154), a.eval (.tmp 155), a.eval (.tmp 156), a.eval (.tmp 157), a.eval (.tmp 158), a.eval (.tmp 159), a.eval (.tmp 160), a.eval (.tmp 161), a.eval (.tmp 162), a.eval (.tmp 163), a.eval (.tmp 164), a.eval (.tmp 165), a.eval (.tmp 166), a.eval (.tmp 167), a.eval (.tmp 168)], []⟩ := act_lit a 169 (hF.size.trans hsz) (hF.defers.trans hdf)
              rw [f5, f8, f9, f12, f13, p12, p13] at hlit
              exact (congrArg (fun x => KK x W2) hlit).mpr (HTAIL.out (a.eval (.tmp 0)) (a.eval (.tmp 1)) (a.eval (.tmp 2)) (a.eval (.tmp 3)) (a.eval (.tmp 4)) (a.eval (.tmp 6)) (a.eval (.tmp 7)) (a.eval (.tmp 11)) (a.eval (.tmp 15)) (a.eval (.tmp 16)) (a.eval (.tmp 17)) (a.eval (.tmp 18)) (a.eval (.tmp 19)) (a.eval (.tmp 20)) (a.eval (.tmp 21)) (a.eval (.tmp 22)) (a.eval (.tmp 23)) (a.eval (.tmp 24)) (a.eval (.tmp 25)) (a.eval (.tmp 26)) (a.eval (.tmp 27)) (a.eval (.tmp 28)) (a.eval (.tmp 29)) (a.eval (.tmp 30)) (a.eval (.tmp 31)) (a.eval (.tmp 32)) (a.eval (.tmp 33)) (a.eval (.tmp 34)) (a.eval (.tmp 35)) (a.eval (.tmp 36)) (a.eval (.tmp 37)) (a.eval (.tmp 38)) (a.eval (.tmp 39)) (a.eval (.tmp 40)) (a.eval (.tmp 41)) (a.eval (.tmp 42)) (a.eval (.tmp 43)) (a.eval (.tmp 44)) (a.eval (.tmp 45)) (a.eval (.tmp 46)) (a.eval (.tmp 47)) (a.eval (.tmp 48)) (a.eval (.tmp 49)) (a.eval (.tmp 50)) (a.eval (.tmp 51)) (a.eval (.tmp 52)) (a.eval (.tmp 53)) (a.eval (.tmp 54)) (a.eval (.tmp 55)) (a.eval (.tmp 56)) (a.eval (.tmp 57)) (a.eval (.tmp 58)) (a.eval (.tmp 59)) (a.eval (.tmp 60)) (a.eval (.tmp 61)) (a.eval (.tmp 62)) (a.eval (.tmp 63)) (a.eval (.tmp 64)) (a.eval (.tmp 65)) (a.eval (.tmp 66)) (a.eval (.tmp 67)) (a.eval (.tmp 68)) (a.eval (.tmp 69)) (a.eval (.tmp 70)) (a.eval (.tmp 71)) (a.eval (.tmp 72)) (a.eval (.tmp 73)) (a.eval (.tmp 74)) (a.eval (.tmp 75)) (a.eval (.tmp 76)) (a.eval (.tmp 77)) (a.eval (.tmp 78)) (a.eval (.tmp 79)) (a.eval (.tmp 80)) (a.eval (.tmp 81)) (a.eval (.tmp 82)) (a.eval (.tmp 83)) (a.eval (.tmp 84)) (a.eval (.tmp 85)) (a.eval (.tmp 86)) (a.eval (.tmp 87)) (a.eval (.tmp 88)) (a.eval (.tmp 89)) (a.eval (.tmp 90)) (a.eval (.tmp 91)) (a.eval (.tmp 92)) (a.eval (.tmp 93)) (a.eval (.tmp 94)) (a.eval (.tmp 95)) (a.eval (.tmp 96)) (a.eval (.tmp 97)) (a.eval (.tmp 98)) (a.eval (.tmp 99)) (a.eval (.tmp 100)) (a.eval (.tmp 101)) (a.eval (.tmp 102)) (a.eval (.tmp 103)) (a.eval (.tmp 104)) (a.eval (.tmp 105)) (a.eval (.tmp 106)) (a.eval (.tmp 107)) (a.eval (.tmp 108)) (a.eval (.tmp 109)) (a.eval (.tmp 110)) (a.eval (.tmp 111)) (a.eval (.tmp 112)) (a.eval (.tmp 113)) (a.eval (.tmp 114)) (a.eval (.tmp 115)) (a.eval (.tmp 116)) (a.eval (.tmp 117)) (a.eval (.tmp 118)) (a.eval (.tmp 119)) (a.eval (.tmp 120)) (a.eval (.tmp 121)) (a.eval (.tmp 122)) (a.eval (.tmp 123)) (a.eval (.tmp 124)) (a.eval (.tmp 125)) (a.eval (.tmp 126)) (a.eval (.tmp 127)) (a.eval (.tmp 128)) (a.eval (.tmp 129)) (a.eval (.tmp 130)) (a.eval (.tmp 131)) (a.eval (.tmp 132)) (a.eval (.tmp 133)) (a.eval (.tmp 134)) (a.eval (.tmp 135)) (a.eval (.tmp 136)) (a.eval (.tmp 137)) (a.eval (.tmp 138)) (a.eval (.tmp 139)) (a.eval (.tmp 140)) (a.eval (.tmp 141)) (a.eval (.tmp 142)) (a.eval (.tmp 143)) (a.eval (.tmp 144)) (a.eval (.tmp 145)) (a.eval (.tmp 146)) (a.eval (.tmp 147)) (a.eval (.tmp 148)) (a.eval (.tmp 149)) (a.eval (.tmp 150)) (a.eval (.tmp 151)) (a.eval (.tmp 152)) (a.eval (.tmp 153)) (a.eval (.tmp 154)) (a.eval (.tmp 155)) (a.eval (.tmp 156)) (a.eval (.tmp 157)) (a.eval (.tmp 158)) (a.eval (.tmp 159)) (a.eval (.tmp 160)) (a.eval (.tmp 161)) (a.eval (.tmp 162)) (a.eval (.tmp 163)) (a.eval (.tmp 164)) (a.eval (.tmp 165)) (a.eval (.tmp 166)) (a.eval (.tmp 167)) (a.eval (.tmp 168)) W2 T _ a1 k1 c1 a2 k2 c2 rfl hD hB hT hR)
          · have hE' : (sealE P U u != 0) = true := by simpa using hE
            clear hE
            generalize sealE P U u = E at *
            go_wp2
            go_ret
            exact ⟨rfl, HBZ.out⟩
        have HTAIL := hide TAIL
        clear TAIL hKK
        obtain ⟨⟨y0, y1⟩, yf⟩ := box2 KB6.out
        have Y0 := hide y0
        have Y1 := hide y1
        obtain ⟨⟨z0, z1, z2⟩, zf⟩ := box3 KF6.out
        have Z0 := hide z0
        have Z1 := hide z1
        have Z2 := hide z2
        obtain ⟨⟨t0, t1, t2, t3, t4, t5, t6, t7, t8, t9⟩, tf⟩ := box10 KT6.out
        have T0 := hide t0
        have T1 := hide t1
        have T2 := hide t2
        have T3 := hide t3
        have T4 := hide t4
        have T5 := hide t5
        have T6 := hide t6
        have T7 := hide t7
        have T8 := hide t8
        have T9 := hide t9
        clear y0 y1 yf z0 z1 z2 zf t0 t1 t2 t3 t4 t5 t6 t7 t8 t9 tf
        refine (show ∀ A0 : Act, A0 = _ → Code.wp Tryz.prog _ _ A0 _ from fun A0 hA0 => ?_) _ rfl
        have hsz : A0.tmps.size = 169 := by rw [hA0]; rfl
        have hdf : A0.defers = [] := by rw [hA0]
        have v2 : A0.eval (.tmp 2) = .int .i64 st := by rw [hA0]; rfl
        have v3 : A0.eval (.tmp 3) = .int .i64 dr := by rw [hA0]; rfl
        have v4 : A0.eval (.tmp 4) = .pointer (some ⟨w.heap.size, 0, none⟩) := by rw [hA0]; rfl
        have v5 : A0.eval (.tmp 5) = .pointer (some ⟨w.heap.size + 1, 0, none⟩) := by rw [hA0]; rfl
        have v8 : A0.eval (.tmp 8) = .bool false := by rw [hA0]; rfl
        have v9 : A0.eval (.tmp 9) = .pointer (some ⟨w3.heap.size, 0, none⟩) := by rw [hA0]; rfl
        clear hA0
        refine wp_region_slots (fun w' => Below w6.heap.size w6 w') [51, 52, 53, 54, 55, 56, 57, 58, 50, 59, 60, 61, 11, 11, 12, 10] (sealPsi w6 w3.heap.size (.agg #[.slice e1 n1 e2, .slice e3 n2 e4]) (.agg #[.slice va L.length vc, .int .i64 N, .int .i64 P]) (.agg #[.int .i64 N, .slice a0 t.info.length a1, .slice a2 t.data.length a3, .slice a4 t.rev.length a5, .bool t.h0.on, .int .i64 t.h0.left, .bool t.h1.on, .int .i64 t.h1.left, .bool t.h2.on, .int .i64 t.h2.left]) P U (sealH P U u) (sealU P U u) (sealE P U u) (commitS P U u)) (by kernel_rfl) (by kernel_rfl) (by kernel_rfl) ((Below.refl _ _).drew) ⟨?_, ?_, ?_, ?_, ?_, ?_, ?_, ?_, ?_, ?_, ?_, ?_, ?_, ?_, ?_, ?_, trivial⟩ ?_
        · intro a w' hF hR hp
          have z9 := (hF.other 9 rfl).trans v9
          refine op_yields (.pointer (some ⟨w3.heap.size, 2, none⟩)) rfl rfl (by revert z9; generalize a.eval = ρ; intro z9; simp only [execOp]; go_simp) ⟨_, rfl, hR, ?_, fun _ _ _ h => h⟩
          show sealPsi _ _ _ _ _ _ _ _ _ _ _ _ ((a.put (some 51) _).eval (.tmp 51)) w'
          rw [at_slot hF hsz (by decide)]
          exact rfl
        · intro a w' hF hR hp
          have p0 : a.eval (.tmp 51) = .pointer (some ⟨w3.heap.size, 2, none⟩) := hp ⟨0, Ground.data⟩ (by simp) rfl
          have c0 := cellKeep hR hs6 Z2.out
          refine op_yields (.int .i64 P) rfl rfl (by revert p0; generalize a.eval = ρ; intro p0; simp only [execOp]; go_simp) ⟨_, rfl, hR, ?_, fun _ _ _ h => h⟩
          show sealPsi _ _ _ _ _ _ _ _ _ _ _ _ ((a.put (some 52) _).eval (.tmp 52)) w'
          rw [at_slot hF hsz (by decide)]
          exact rfl
        · intro a w' hF hR hp
          have z4 := (hF.other 4 rfl).trans v4
          have c0 := cellKeep hR hs6a Y0.out
          have c1 := cellKeep hR hs6a Y1.out
          refine op_yields (.agg #[.slice e1 n1 e2, .slice e3 n2 e4]) rfl rfl (by revert z4; generalize a.eval = ρ; intro z4; simp only [execOp]; go_simp) ⟨_, rfl, hR, ?_, fun _ _ _ h => h⟩
          show sealPsi _ _ _ _ _ _ _ _ _ _ _ _ ((a.put (some 53) _).eval (.tmp 53)) w'
          rw [at_slot hF hsz (by decide)]
          exact rfl
        · intro a w' hF hR hp
          have z9 := (hF.other 9 rfl).trans v9
          have c0 := cellKeep hR hs6 Z0.out
          have c1 := cellKeep hR hs6 Z1.out
          have c2 := cellKeep hR hs6 Z2.out
          refine op_yields (.agg #[.slice va L.length vc, .int .i64 N, .int .i64 P]) rfl rfl (by revert z9; generalize a.eval = ρ; intro z9; simp only [execOp]; go_simp) ⟨_, rfl, hR, ?_, fun _ _ _ h => h⟩
          show sealPsi _ _ _ _ _ _ _ _ _ _ _ _ ((a.put (some 54) _).eval (.tmp 54)) w'
          rw [at_slot hF hsz (by decide)]
          exact rfl
        · intro a w' hF hR hp
          have p2 : a.eval (.tmp 53) = .agg #[.slice e1 n1 e2, .slice e3 n2 e4] := hp ⟨2, Ground.data⟩ (by simp) rfl
          have p3 : a.eval (.tmp 54) = .agg #[.slice va L.length vc, .int .i64 N, .int .i64 P] := hp ⟨3, Ground.data⟩ (by simp) rfl
          refine op_calls 31 #[.agg #[.slice e1 n1 e2, .slice e3 n2 e4], .agg #[.slice va L.length vc, .int .i64 N, .int .i64 P]] rfl rfl (by have pf := Act.eval_func a 31; revert p2 p3 pf; generalize a.eval = ρ; intro p2 p3 pf; simp only [execOp]; go_simp) _ (used_any (.agg #[.slice e1 n1 e2, .slice e3 n2 e4]) D va L.length vc N P _ (HDD.out.below hR) hP0 hP1 hp0 hp1) ?_
          rintro e w2 ⟨rfl, hb2⟩
          refine ⟨_, rfl, _, rfl, bthen hR hb2, ?_, sealPsi_below hb2⟩
          show sealPsi _ _ _ _ _ _ _ _ _ _ _ _ ((a.put (some 55) _).eval (.tmp 55)) w2
          rw [at_slot hF hsz (by decide)]
          exact congrArg (Value.int .i64) HUE.out
        · intro a w' hF hR hp
          have p1 : a.eval (.tmp 52) = .int .i64 P := hp ⟨1, Ground.data⟩ (by simp) rfl
          have p4 : a.eval (.tmp 55) = .int .i64 U := hp ⟨4, Ground.data⟩ (by simp) rfl
          refine op_yields (.agg #[.int .i64 P, .int .i64 U]) rfl rfl (by revert p1 p4; generalize a.eval = ρ; intro p1 p4; simp only [execOp]; go_simp) ⟨_, rfl, hR, ?_, fun _ _ _ h => h⟩
          show sealPsi _ _ _ _ _ _ _ _ _ _ _ _ ((a.put (some 56) _).eval (.tmp 56)) w'
          rw [at_slot hF hsz (by decide)]
          exact rfl
        · intro a w' hF hR hp
          have z5 := (hF.other 5 rfl).trans v5
          have c0 := cellKeep hR hs6b T0.out
          have c1 := cellKeep hR hs6b T1.out
          have c2 := cellKeep hR hs6b T2.out
          have c3 := cellKeep hR hs6b T3.out
          have c4 := cellKeep hR hs6b T4.out
          have c5 := cellKeep hR hs6b T5.out
          have c6 := cellKeep hR hs6b T6.out
          have c7 := cellKeep hR hs6b T7.out
          have c8 := cellKeep hR hs6b T8.out
          have c9 := cellKeep hR hs6b T9.out
          refine op_yields (.agg #[.int .i64 N, .slice a0 t.info.length a1, .slice a2 t.data.length a3, .slice a4 t.rev.length a5, .bool t.h0.on, .int .i64 t.h0.left, .bool t.h1.on, .int .i64 t.h1.left, .bool t.h2.on, .int .i64 t.h2.left]) rfl rfl (by revert z5; generalize a.eval = ρ; intro z5; simp only [execOp]; go_simp) ⟨_, rfl, hR, ?_, fun _ _ _ h => h⟩
          show sealPsi _ _ _ _ _ _ _ _ _ _ _ _ ((a.put (some 57) _).eval (.tmp 57)) w'
          rw [at_slot hF hsz (by decide)]
          exact rfl
        · intro a w' hF hR hp
          have p5 : a.eval (.tmp 56) = .agg #[.int .i64 P, .int .i64 U] := hp ⟨5, Ground.data⟩ (by simp) rfl
          have p6 : a.eval (.tmp 57) = .agg #[.int .i64 N, .slice a0 t.info.length a1, .slice a2 t.data.length a3, .slice a4 t.rev.length a5, .bool t.h0.on, .int .i64 t.h0.left, .bool t.h1.on, .int .i64 t.h1.left, .bool t.h2.on, .int .i64 t.h2.left] := hp ⟨6, Ground.data⟩ (by simp) rfl
          refine op_calls 16 #[.agg #[.int .i64 P, .int .i64 U], .agg #[.int .i64 N, .slice a0 t.info.length a1, .slice a2 t.data.length a3, .slice a4 t.rev.length a5, .bool t.h0.on, .int .i64 t.h0.left, .bool t.h1.on, .int .i64 t.h1.left, .bool t.h2.on, .int .i64 t.h2.left]] rfl rfl (by have pf := Act.eval_func a 16; revert p5 p6 pf; generalize a.eval = ρ; intro p5 p6 pf; simp only [execOp]; go_simp) _ (commit_u P U N t u HU.out a0 a2 a4 a1 a3 a5 _ (HTU.out.below hR) hci hcr hr1 hr2) ?_
          rintro e w2 ⟨sa, sc, rfl, h1, h2, hb2⟩
          refine ⟨_, rfl, _, rfl, bthen hR hb2, ?_, sealPsi_below hb2⟩
          show sealPsi _ _ _ _ _ _ _ _ _ _ _ _ ((a.put (some 58) _).eval (.tmp 58)) w2
          rw [at_slot hF hsz (by decide)]
          exact ⟨sa, sc, rfl, h1, h2⟩
        · intro a w' hF hR hp
          obtain ⟨sa, sc, p7, h1, h2⟩ : ∃ sa sc, a.eval (.tmp 58) = .tuple #[.agg #[.int .i64 (sealH P U u), .int .i64 (sealU P U u)], .slice sa (commitS P U u).length sc, .int .i64 (sealE P U u)] ∧ (commitS P U u).length ≤ sc ∧ SegSt w' sa (commitS P U u) := hp ⟨7, Ground.data⟩ (by simp) rfl
          refine op_yields (.tuple #[.agg #[.int .i64 (sealH P U u), .int .i64 (sealU P U u)], .slice sa (commitS P U u).length sc, .int .i64 (sealE P U u)]) rfl rfl (by revert p7; generalize a.eval = ρ; intro p7; simp only [execOp]; go_simp) ⟨_, rfl, hR, ?_, fun _ _ _ h => h⟩
          show sealPsi _ _ _ _ _ _ _ _ _ _ _ _ ((a.put (some 50) _).eval (.tmp 50)) w'
          rw [at_slot hF hsz (by decide)]
          exact ⟨sa, sc, rfl, h1, h2⟩
        · intro a w' hF hR hp
          obtain ⟨sa, sc, p8, h1, h2⟩ : ∃ sa sc, a.eval (.tmp 50) = .tuple #[.agg #[.int .i64 (sealH P U u), .int .i64 (sealU P U u)], .slice sa (commitS P U u).length sc, .int .i64 (sealE P U u)] ∧ (commitS P U u).length ≤ sc ∧ SegSt w' sa (commitS P U u) := hp ⟨8, Ground.data⟩ (by simp) rfl
          refine op_yields (.agg #[.int .i64 (sealH P U u), .int .i64 (sealU P U u)]) rfl rfl (by revert p8; generalize a.eval = ρ; intro p8; simp only [execOp]; go_simp) ⟨_, rfl, hR, ?_, fun _ _ _ h => h⟩
          show sealPsi _ _ _ _ _ _ _ _ _ _ _ _ ((a.put (some 59) _).eval (.tmp 59)) w'
          rw [at_slot hF hsz (by decide)]
          exact rfl
        · intro a w' hF hR hp
          obtain ⟨sa, sc, p8, h1, h2⟩ : ∃ sa sc, a.eval (.tmp 50) = .tuple #[.agg #[.int .i64 (sealH P U u), .int .i64 (sealU P U u)], .slice sa (commitS P U u).length sc, .int .i64 (sealE P U u)] ∧ (commitS P U u).length ≤ sc ∧ SegSt w' sa (commitS P U u) := hp ⟨8, Ground.data⟩ (by simp) rfl
          refine op_yields (.slice sa (commitS P U u).length sc) rfl rfl (by revert p8; generalize a.eval = ρ; intro p8; simp only [execOp]; go_simp) ⟨_, rfl, hR, ?_, fun _ _ _ h => h⟩
          show sealPsi _ _ _ _ _ _ _ _ _ _ _ _ ((a.put (some 60) _).eval (.tmp 60)) w'
          rw [at_slot hF hsz (by decide)]
          exact ⟨sa, sc, rfl, h1, h2⟩
        · intro a w' hF hR hp
          obtain ⟨sa, sc, p8, h1, h2⟩ : ∃ sa sc, a.eval (.tmp 50) = .tuple #[.agg #[.int .i64 (sealH P U u), .int .i64 (sealU P U u)], .slice sa (commitS P U u).length sc, .int .i64 (sealE P U u)] ∧ (commitS P U u).length ≤ sc ∧ SegSt w' sa (commitS P U u) := hp ⟨8, Ground.data⟩ (by simp) rfl
          refine op_yields (.int .i64 (sealE P U u)) rfl rfl (by revert p8; generalize a.eval = ρ; intro p8; simp only [execOp]; go_simp) ⟨_, rfl, hR, ?_, fun _ _ _ h => h⟩
          show sealPsi _ _ _ _ _ _ _ _ _ _ _ _ ((a.put (some 61) _).eval (.tmp 61)) w'
          rw [at_slot hF hsz (by decide)]
          exact rfl
        · intro a w' hF hR hp
          refine op_runs (.pointer (some ⟨w'.heap.size, 0, none⟩)) rfl rfl (w' := w'.alloc (.cells #[.int .i64 0, .int .i64 0] 41)) (by simp only [execOp]; go_simp) ⟨_, rfl, hR.alloc hR.size _, ?_, sealPsi_below (below1 _ _)⟩
          show sealPsi _ _ _ _ _ _ _ _ _ _ _ _ ((a.put (some 11) _).eval (.tmp 11)) _
          rw [at_slot hF hsz (by decide)]
          exact ⟨_, _, _, rfl, hR.size, heap_alloc_new _ _⟩
        · intro a w' hF hR hp
          obtain ⟨T, x0, x1, p12, hT, hB⟩ : ∃ T x0 x1, a.eval (.tmp 11) = .pointer (some ⟨T, 0, none⟩) ∧ w6.heap.size ≤ T ∧ w'.heap[T]? = some (.cells #[.int .i64 x0, .int .i64 x1] 41 (0, 0)) := hp ⟨12, Ground.data⟩ (by simp) rfl
          have p9 : a.eval (.tmp 59) = .agg #[.int .i64 (sealH P U u), .int .i64 (sealU P U u)] := hp ⟨9, Ground.data⟩ (by simp) rfl
          obtain ⟨⟨z0, z1⟩, zf⟩ := box2 hB
          refine op_skips rfl rfl (w' := (w'.setCell ⟨T, 0, none⟩ (.int .i64 (sealH P U u))).setCell ⟨T, 1, none⟩ (.int .i64 (sealU P U u))) (by revert p12 p9; generalize a.eval = ρ; intro p12 p9; simp only [execOp]; go_simp) ⟨_, rfl, (hR.setCell (p := ⟨T, 0, none⟩) hT _).setCell (p := ⟨T, 1, none⟩) hT _, ?_, sealPsi_store hB _ _⟩
          show sealPsi _ _ _ _ _ _ _ _ _ _ _ _ (a.eval (.tmp 11)) _
          rw [p12]
          exact ⟨T, _, _, rfl, hT, stored2 hB _ _⟩
        · intro a w' hF hR hp
          obtain ⟨sa, sc, p10, h1, h2⟩ : ∃ sa sc, a.eval (.tmp 60) = .slice sa (commitS P U u).length sc ∧ (commitS P U u).length ≤ sc ∧ SegSt w' sa (commitS P U u) := hp ⟨10, Ground.data⟩ (by simp) rfl
          refine op_yields (.slice sa (commitS P U u).length sc) rfl rfl (by revert p10; generalize a.eval = ρ; intro p10; simp only [execOp]; go_simp) ⟨_, rfl, hR, ?_, fun _ _ _ h => h⟩
          show sealPsi _ _ _ _ _ _ _ _ _ _ _ _ ((a.put (some 12) _).eval (.tmp 12)) w'
          rw [at_slot hF hsz (by decide)]
          exact ⟨sa, sc, rfl, h1, h2⟩
        · intro a w' hF hR hp
          have p11 : a.eval (.tmp 61) = .int .i64 (sealE P U u) := hp ⟨11, Ground.data⟩ (by simp) rfl
          refine op_yields (.int .i64 (sealE P U u)) rfl rfl (by revert p11; generalize a.eval = ρ; intro p11; simp only [execOp]; go_simp) ⟨_, rfl, hR, ?_, fun _ _ _ h => h⟩
          show sealPsi _ _ _ _ _ _ _ _ _ _ _ _ ((a.put (some 10) _).eval (.tmp 10)) w'
          rw [at_slot hF hsz (by decide)]
          exact rfl
        · intro a W hF hR hp
          obtain ⟨sa, sc, p14, h1, h2⟩ : ∃ sa sc, a.eval (.tmp 12) = .slice sa (commitS P U u).length sc ∧ (commitS P U u).length ≤ sc ∧ SegSt W sa (commitS P U u) := hp 14 (by decide)
          have p15 : a.eval (.tmp 10) = .int .i64 (sealE P U u) := hp 15 (by decide)
          have f2 := (hF.other 2 rfl).trans v2
          have f3 := (hF.other 3 rfl).trans v3
          have f4 := (hF.other 4 rfl).trans v4
          have f5 := (hF.other 5 rfl).trans v5
          have f8 := (hF.other 8 rfl).trans v8
          have f9 := (hF.other 9 rfl).trans v9
          have hlit : a = ⟨#[a.eval (.tmp 0), a.eval (.tmp 1), a.eval (.tmp 2), a.eval (.tmp 3), a.eval (.tmp 4), a.eval (.tmp 5), a.eval (.tmp 6), a.eval (.tmp 7), a.eval (.tmp 8), a.eval (.tmp 9), a.eval (.tmp 10), a.eval (.tmp 11), a.eval (.tmp 12), a.eval (.tmp 13), a.eval (.tmp 14), a.eval (.tmp 15), a.eval (.tmp 16), a.eval (.tmp 17), a.eval (.tmp 18), a.eval (.tmp 19), a.eval (.tmp 20), a.eval (.tmp 21), a.eval (.tmp 22), a.eval (.tmp 23), a.eval (.tmp 24), a.eval (.tmp 25), a.eval (.tmp 26), a.eval (.tmp 27), a.eval (.tmp 28), a.eval (.tmp 29), a.eval (.tmp 30), a.eval (.tmp 31), a.eval (.tmp 32), a.eval (.tmp 33), a.eval (.tmp 34), a.eval (.tmp 35), a.eval (.tmp 36), a.eval (.tmp 37), a.eval (.tmp 38), a.eval (.tmp 39), a.eval (.tmp 40), a.eval (.tmp 41), a.eval (.tmp 42), a.eval (.tmp 43), a.eval (.tmp 44), a.eval (.tmp 45), a.eval (.tmp 46), a.eval (.tmp 47), a.eval (.tmp 48), a.eval (.tmp 49), a.eval (.tmp 50), a.eval (.tmp 51), a.eval (.tmp 52), a.eval (.tmp 53), a.eval (.tmp 54), a.eval (.tmp 55), a.eval (.tmp 56), a.eval (.tmp 57), a.eval (.tmp 58), a.eval (.tmp 59), a.eval (.tmp 60), a.eval (.tmp 61), a.eval (.tmp 62), a.eval (.tmp 63), a.eval (.tmp 64), a.eval (.tmp 65), a.eval (.tmp 66), a.eval (.tmp 67), a.eval (.tmp 68), a.eval (.tmp 69), a.eval (.tmp 70), a.eval (.tmp 71), a.eval (.tmp 72), a.eval (.tmp 73), a.eval (.tmp 74), a.eval (.tmp 75), a.eval (.tmp 76), a.eval (.tmp 77), a.eval (.tmp 78), a.eval (.tmp 79), a.eval (.tmp 80), a.eval (.tmp 81), a.eval (.tmp 82), a.eval (.tmp 83), a.eval (.tmp 84), a.eval (.tmp 85), a.eval (.tmp 86), a.eval (.tmp 87), a.eval (.tmp 88), a.eval (.tmp 89), a.eval (.tmp 90), a.eval (.tmp 91), a.eval (.tmp 92), a.eval (.tmp 93), a.eval (.tmp 94), a.eval (.tmp 95), a.eval (.tmp 96), a.eval (.tmp 97), a.eval (.tmp 98), a.eval (.tmp 99), a.eval (.tmp 100), a.eval (.tmp 101), a.eval (.tmp 102), a.eval (.tmp 103), a.eval (.tmp 104), a.eval (.tmp 105), a.eval (.tmp 106), a.eval (.tmp 107), a.eval (.tmp 108), a.eval (.tmp 109), a.eval (.tmp 110), a.eval (.tmp 111), a.eval (.tmp 112), a.eval (.tmp 113), a.eval (.tmp 114), a.eval (.tmp 115), a.eval (.tmp 116), a.eval (.tmp 117), a.eval (.tmp 118), a.eval (.tmp 119), a.eval (.tmp 120), a.eval (.tmp 121), a.eval (.tmp 122), a.eval (.tmp 123), a.eval (.tmp 124), a.eval (.tmp 125), a.eval (.tmp 126), a.eval (.tmp 127), a.eval (.tmp 128), a.eval (.tmp 129), a.eval (.tmp 130), a.eval (.tmp 131), a.eval (.tmp 132), a.eval (.tmp 133), a.eval (.tmp 134), a.eval (.tmp 135), a.eval (.tmp 136), a.eval (.tmp 137), a.eval (.tmp 138), a.eval (.tmp 139), a.eval (.tmp 140), a.eval (.tmp 141), a.eval (.tmp 142), a.eval (.tmp 143), a.eval (.tmp 144), a.eval (.tmp 145), a.eval (.tmp 146), a.eval (.tmp 147), a.eval (.tmp 148), a.eval (.tmp 149), a.eval (.tmp 150), a.eval (.tmp 151), a.eval (.tmp 152), a.eval (.tmp 153), a.eval (.tmp 154), a.eval (.tmp 155), a.eval (.tmp 156), a.eval (.tmp 157), a.eval (.tmp 158), a.eval (.tmp 159), a.eval (.tmp 160), a.eval (.tmp 161), a.eval (.tmp 162), a.eval (.tmp 163), a.eval (.tmp 164), a.eval (.tmp 165), a.eval (.tmp 166), a.eval (.tmp 167), a.eval (.tmp 168)], []⟩ := act_lit a 169 (hF.size.trans hsz) (hF.defers.trans hdf)
          rw [f2, f3, f4, f5, f8, f9, p14, p15] at hlit
          exact (congrArg (fun x => KK x W) hlit).mpr (HTAIL.out (a.eval (.tmp 0)) (a.eval (.tmp 1)) (a.eval (.tmp 6)) (a.eval (.tmp 7)) (a.eval (.tmp 11)) (a.eval (.tmp 13)) (a.eval (.tmp 14)) (a.eval (.tmp 15)) (a.eval (.tmp 16)) (a.eval (.tmp 17)) (a.eval (.tmp 18)) (a.eval (.tmp 19)) (a.eval (.tmp 20)) (a.eval (.tmp 21)) (a.eval (.tmp 22)) (a.eval (.tmp 23)) (a.eval (.tmp 24)) (a.eval (.tmp 25)) (a.eval (.tmp 26)) (a.eval (.tmp 27)) (a.eval (.tmp 28)) (a.eval (.tmp 29)) (a.eval (.tmp 30)) (a.eval (.tmp 31)) (a.eval (.tmp 32)) (a.eval (.tmp 33)) (a.eval (.tmp 34)) (a.eval (.tmp 35)) (a.eval (.tmp 36)) (a.eval (.tmp 37)) (a.eval (.tmp 38)) (a.eval (.tmp 39)) (a.eval (.tmp 40)) (a.eval (.tmp 41)) (a.eval (.tmp 42)) (a.eval (.tmp 43)) (a.eval (.tmp 44)) (a.eval (.tmp 45)) (a.eval (.tmp 46)) (a.eval (.tmp 47)) (a.eval (.tmp 48)) (a.eval (.tmp 49)) (a.eval (.tmp 50)) (a.eval (.tmp 51)) (a.eval (.tmp 52)) (a.eval (.tmp 53)) (a.eval (.tmp 54)) (a.eval (.tmp 55)) (a.eval (.tmp 56)) (a.eval (.tmp 57)) (a.eval (.tmp 58)) (a.eval (.tmp 59)) (a.eval (.tmp 60)) (a.eval (.tmp 61)) (a.eval (.tmp 62)) (a.eval (.tmp 63)) (a.eval (.tmp 64)) (a.eval (.tmp 65)) (a.eval (.tmp 66)) (a.eval (.tmp 67)) (a.eval (.tmp 68)) (a.eval (.tmp 69)) (a.eval (.tmp 70)) (a.eval (.tmp 71)) (a.eval (.tmp 72)) (a.eval (.tmp 73)) (a.eval (.tmp 74)) (a.eval (.tmp 75)) (a.eval (.tmp 76)) (a.eval (.tmp 77)) (a.eval (.tmp 78)) (a.eval (.tmp 79)) (a.eval (.tmp 80)) (a.eval (.tmp 81)) (a.eval (.tmp 82)) (a.eval (.tmp 83)) (a.eval (.tmp 84)) (a.eval (.tmp 85)) (a.eval (.tmp 86)) (a.eval (.tmp 87)) (a.eval (.tmp 88)) (a.eval (.tmp 89)) (a.eval (.tmp 90)) (a.eval (.tmp 91)) (a.eval (.tmp 92)) (a.eval (.tmp 93)) (a.eval (.tmp 94)) (a.eval (.tmp 95)) (a.eval (.tmp 96)) (a.eval (.tmp 97)) (a.eval (.tmp 98)) (a.eval (.tmp 99)) (a.eval (.tmp 100)) (a.eval (.tmp 101)) (a.eval (.tmp 102)) (a.eval (.tmp 103)) (a.eval (.tmp 104)) (a.eval (.tmp 105)) (a.eval (.tmp 106)) (a.eval (.tmp 107)) (a.eval (.tmp 108)) (a.eval (.tmp 109)) (a.eval (.tmp 110)) (a.eval (.tmp 111)) (a.eval (.tmp 112)) (a.eval (.tmp 113)) (a.eval (.tmp 114)) (a.eval (.tmp 115)) (a.eval (.tmp 116)) (a.eval (.tmp 117)) (a.eval (.tmp 118)) (a.eval (.tmp 119)) (a.eval (.tmp 120)) (a.eval (.tmp 121)) (a.eval (.tmp 122)) (a.eval (.tmp 123)) (a.eval (.tmp 124)) (a.eval (.tmp 125)) (a.eval (.tmp 126)) (a.eval (.tmp 127)) (a.eval (.tmp 128)) (a.eval (.tmp 129)) (a.eval (.tmp 130)) (a.eval (.tmp 131)) (a.eval (.tmp 132)) (a.eval (.tmp 133)) (a.eval (.tmp 134)) (a.eval (.tmp 135)) (a.eval (.tmp 136)) (a.eval (.tmp 137)) (a.eval (.tmp 138)) (a.eval (.tmp 139)) (a.eval (.tmp 140)) (a.eval (.tmp 141)) (a.eval (.tmp 142)) (a.eval (.tmp 143)) (a.eval (.tmp 144)) (a.eval (.tmp 145)) (a.eval (.tmp 146)) (a.eval (.tmp 147)) (a.eval (.tmp 148)) (a.eval (.tmp 149)) (a.eval (.tmp 150)) (a.eval (.tmp 151)) (a.eval (.tmp 152)) (a.eval (.tmp 153)) (a.eval (.tmp 154)) (a.eval (.tmp 155)) (a.eval (.tmp 156)) (a.eval (.tmp 157)) (a.eval (.tmp 158)) (a.eval (.tmp 159)) (a.eval (.tmp 160)) (a.eval (.tmp 161)) (a.eval (.tmp 162)) (a.eval (.tmp 163)) (a.eval (.tmp 164)) (a.eval (.tmp 165)) (a.eval (.tmp 166)) (a.eval (.tmp 167)) (a.eval (.tmp 168)) W sa sc h1 h2 hR)
    · have hN' : 2147483646 ≤ N := by omega
      go_wp2_with fail
      refine (sealsK_any _).mono ?_
      rintro e w9 ⟨rfl, hb9⟩
      have HB9 := hide (bthen HB5.out hb9)
      clear hb9
      go_wp2
      go_ret
      exact ⟨rfl, HB9.out⟩
  · have hE' : (scanE D != 0) = true := by simpa using hE
    clear hE HWR
    generalize scanE D = E at *
    have hs3a : w.heap.size + 1 < w3.heap.size := hs3
    obtain ⟨⟨k0, k1, k2, k3, k4, k5, k6, k7, k8, k9⟩, kf⟩ := box10 KT3x.out
    go_wp2_with fail
    rw [← HW4.out]
    refine (sealsK_any _).mono ?_
    rintro e w9 ⟨rfl, hb9⟩
    have HB9 := hide (bthen HB4.out hb9)
    clear hb9
    go_wp2
    go_ret
    exact ⟨rfl, HB9.out⟩

end Go.Proofs.YtjnpndfpajjihabGreat
