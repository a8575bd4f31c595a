/-
  
-/
import Derived.Test.YtjnpndfpajjihacGreatGrTopMemory3
import Derived.Lib.SliceRun
set_option maxRecDepth 100000
set_option maxHeartbeats 40000000
namespace Go.Proofs.YtjnpndfpajjihacGreat
open Go.RowKit
theorem zhj (a:Option Addr)(c:Nat)(ss:List (Int×ByteArray))(w:World)(h:SegW w a ss)(hn:ss.length≤maxLen)(hbig:ss.length*24≤140737488355328):
  Calls Tryz.prog 49 #[.slice a ss.length c] w fun e w'=>∃v',e=.returned v'∧w'.ownsRow w.heap.size 84 2 v' ss.length (cellsC ss)∧Below w.heap.size w w':=by
 have q22:∀(w:World) (a:Option Addr) (n c n' c':Nat),(binOp .eql 34 (.slice a n c) (.slice none n' c')).run Tryz.prog w=.ok (.bool a.isNone) w:=fun w a n c n' c'=>Lib.run_eql_slice_nil w _ _ a n c n' c' Tryz.underlying34;obtain⟨i0,hi,hz0,hz1,hz2⟩:=info_parts zuv;rcases a with _|ad
 ·have h0:ss=[]:=by rcases h with h|⟨b,off,he,_⟩;exact h;cases he
  subst h0;go_enter Tryz.func49,Tryz.ntmps49;go_wp2;go_ret;exact⟨_,rfl,World.ownsRow_nil _ _ _ _,Below.refl _ _⟩
 ·have A:Hid (∀j u,(cellsC ss)[j]?=some u→w.cell? (ad.add j)=some u):=by
   rcases h with h|⟨b,off,he,hlt,hc⟩
   ·rw[h];intro j u hj;simp[cellsC] at hj
   ·intro j u hj
    cases he;rw[Addr.add_lit];exact SegC.news hc j u hj
  clear h;go_enter Tryz.func49,Tryz.ntmps49;go_wp2_with (at_builtin;refine wpList_append_own _ rfl _ _ 34 rfl w.heap.size 84 i0 (.agg #[.int .i64 0,.string ⟨#[]⟩]) 2 24 Tryz.underlying34 hi hz0 hz1 hz2 rfl (by decide) _ _ _ rfl (World.ownsRow_made w #[] 0 (Nat.le_refl _) (Nat.zero_le _) (by simp)) ad ss.length c (cellsC ss) rfl ?qc1 ?qc2 ?qc3 ?qc4 ?qc5 ?qc6 ?_)
  case qc1=>exact zdj ss
  case qc2=>intro j u hj;exact Lib.cell?_alloc_some _ (A.o j u hj)
  case qc3=>exact zg4 ss
  case qc4=>rw[Nat.zero_add];exact hn
  case qc5=>rw[Nat.zero_add];exact hbig
  case qc6=>simp
  intro v' w1 hown hgrow hnil;have HO:Hid (w1.ownsRow w.heap.size 84 2 v' ss.length (cellsC ss)):=by unfold Hid;simpa using hown
  have HB:Hid (Below w.heap.size w w1):=(zab w _).grown hgrow (by simp) (by intro k hk;simp[Value.ownBlock] at hk;omega);clear hown hgrow hnil;go_wp2;go_ret;exact⟨v',rfl,HO.o,HB.o⟩
theorem znh (a:Option Addr)(c:Nat)(ss:List Int)(w:World)(h:SegI w a ss)(hn:ss.length≤maxLen)(hbig:ss.length*8≤140737488355328):
  Calls Tryz.prog 50 #[.slice a ss.length c] w fun e w'=>∃v',e=.returned v'∧w'.ownsRow w.heap.size 3 1 v' ss.length (cellsI ss)∧Below w.heap.size w w':=by
 have q22:∀(w:World) (a:Option Addr) (n c n' c':Nat),(binOp .eql 35 (.slice a n c) (.slice none n' c')).run Tryz.prog w=.ok (.bool a.isNone) w:=fun w a n c n' c'=>Lib.run_eql_slice_nil w _ _ a n c n' c' Tryz.underlying35;obtain⟨i0,hi,hz0,hz1,hz2⟩:=info_parts zrs;rcases a with _|ad
 ·have h0:ss=[]:=by rcases h with h|⟨b,off,he,_⟩;exact h;cases he
  subst h0;go_enter Tryz.func50,Tryz.ntmps50;go_wp2;go_ret;exact⟨_,rfl,World.ownsRow_nil _ _ _ _,Below.refl _ _⟩
 ·have A:Hid (∀j u,(cellsI ss)[j]?=some u→w.cell? (ad.add j)=some u):=by
   rcases h with h|⟨b,off,he,hlt,hc⟩
   ·rw[h];intro j u hj;simp[cellsI] at hj
   ·intro j u hj
    cases he;rw[Addr.add_lit];exact SegI.news hc j u hj
  clear h;go_enter Tryz.func50,Tryz.ntmps50;go_wp2_with (at_builtin;refine wpList_append_own _ rfl _ _ 35 rfl w.heap.size 3 i0 (.int .i64 0) 1 8 Tryz.underlying35 hi hz0 hz1 hz2 rfl (by decide) _ _ _ rfl (World.ownsRow_made w #[] 0 (Nat.le_refl _) (Nat.zero_le _) (by simp)) ad ss.length c (cellsI ss) rfl ?qc1 ?qc2 ?qc3 ?qc4 ?qc5 ?qc6 ?_)
  case qc1=>exact zdi ss
  case qc2=>intro j u hj;exact Lib.cell?_alloc_some _ (A.o j u hj)
  case qc3=>exact zje
  case qc4=>rw[Nat.zero_add];exact hn
  case qc5=>rw[Nat.zero_add];exact hbig
  case qc6=>simp
  intro v' w1 hown hgrow hnil;have HO:Hid (w1.ownsRow w.heap.size 3 1 v' ss.length (cellsI ss)):=by unfold Hid;simpa using hown
  have HB:Hid (Below w.heap.size w w1):=(zab w _).grown hgrow (by simp) (by intro k hk;simp[Value.ownBlock] at hk;omega);clear hown hgrow hnil;go_wp2;go_ret;exact⟨v',rfl,HO.o,HB.o⟩
def BoxTx (w:World)(B:Nat)(t:Tx)(va vd vr:Value):Prop:=
 w.heap[B]?=some (.cells #[.int .i64 t.seq,va,vd,vr,.bool t.h0.on,.int .i64 t.h0.left,.bool t.h1.on,.int .i64 t.h1.left,.bool t.h2.on,.int .i64 t.h2.left] 40 (0,0))∧
 w.ownsRow (B+1) 84 2 va t.info.length (cellsC t.info)∧w.ownsRow (B+1) 84 2 vd t.data.length (cellsC t.data)∧w.ownsRow (B+1) 3 1 vr t.rev.length (cellsI t.rev)
theorem BoxTx.lt {w:World}{B:Nat}{t:Tx}{va vd vr:Value}(h:BoxTx w B t va vd vr):B<w.heap.size:=(Array.getElem?_eq_some_iff.1 h.1).1
theorem BoxTx.below {w w':World}{B:Nat}{t:Tx}{va vd vr:Value}(h:BoxTx w B t va vd vr)(hb:Below w.heap.size w w'):BoxTx w' B t va vd vr:=
 ⟨zad hb h.lt h.1,zah h.2.1 hb,zah h.2.2.1 hb,zah h.2.2.2 hb⟩
theorem BoxTx.set {w:World}{B:Nat}{t t':Tx}{va vd vr va' vd' vr':Value}(h:BoxTx w B t va vd vr)(k:Nat)(u:Value)
  (hc:(#[.int .i64 t.seq,va,vd,vr,.bool t.h0.on,.int .i64 t.h0.left,.bool t.h1.on,.int .i64 t.h1.left,.bool t.h2.on,.int .i64 t.h2.left]:Array Value).setIfInBounds k u=#[.int .i64 t'.seq,va',vd',vr',.bool t'.h0.on,.int .i64 t'.h0.left,.bool t'.h1.on,.int .i64 t'.h1.left,.bool t'.h2.on,.int .i64 t'.h2.left])
  (h1:w.ownsRow (B+1) 84 2 va' t'.info.length (cellsC t'.info)) (h2:w.ownsRow (B+1) 84 2 vd' t'.data.length (cellsC t'.data)) (h3:w.ownsRow (B+1) 3 1 vr' t'.rev.length (cellsI t'.rev)):
  BoxTx (w.setCell ⟨B,k,none⟩ u) B t' va' vd' vr':=by
 refine⟨?_,ownsRow_setCell_below h1 (by simp) _,ownsRow_setCell_below h2 (by simp) _,ownsRow_setCell_below h3 (by simp) _⟩;rw[heap_setCell_same w B k _ _ u h.1,←hc]
theorem BoxTx.is {w:World}{B:Nat}{t:Tx}{va vd vr:Value}(h:BoxTx w B t va vd vr)(n1:t.info.length≤maxLen)(n2:t.data.length≤maxLen)(n3:t.rev.length≤maxLen):
  IsTx w (.agg #[.int .i64 t.seq,va,vd,vr,.bool t.h0.on,.int .i64 t.h0.left,.bool t.h1.on,.int .i64 t.h1.left,.bool t.h2.on,.int .i64 t.h2.left]) t:=by
 obtain⟨a,c,rfl,h1,_⟩:=SegC.of_owns h.2.1;obtain⟨a',c',rfl,h2,_⟩:=SegC.of_owns h.2.2.1;obtain⟨r,d,rfl,h3,_⟩:=SegI.of_owns h.2.2.2;exact⟨a,c,a',c',r,d,rfl,h1,h2,h3,n1,n2,n3⟩
theorem zcs (v:Value)(t:Tx)(w:World)(hT:IsTx w v t)(r1:t.info.length≤1000)(r2:t.data.length≤1000)(r3:t.rev.length≤1000):
  Calls Tryz.prog 119 #[v] w fun e w'=>∃va vd vr,e=.returned (.pointer (some ⟨w.heap.size,0,none⟩))∧BoxTx w' w.heap.size t va vd vr∧Below w.heap.size w w':=by
 obtain⟨a,c,a',c',r,d,rfl,hM,hD,hR,n1,n2,n3⟩:=hT;have HM:=zaa hM;have HD:=zaa hD;have HR:=zaa hR;clear hM hD hR;go_enter Tryz.func119,Tryz.ntmps119;go_wp2_with fail;refine(zhj a c t.info _ (HM.o.below (zab _ _)) n1 (by omega)).mono ?_;rintro e w1 ⟨v1,rfl,ho1,hb1⟩;obtain⟨a1,c1,rfl,_,_⟩:=SegC.of_owns ho1;have hs1:w.heap.size<w1.heap.size:=by have:=hb1.size;simp at this;omega
 have K1:=zaa (z2j hb1);have HB1:=zaa (zae (zab _ _) hb1);have HO1:Hid (w1.ownsRow (w.heap.size+1) 84 2 (.slice a1 t.info.length c1) t.info.length (cellsC t.info)):=za5 ho1 (by simp);clear hb1 ho1;obtain⟨⟨x0,x1,x2,x3,x4,x5,x6,x7,x8,x9⟩,ff⟩:=zai K1.o;go_wp2_with fail;refine(zhj a' c' t.data _ (HD.o.below (HB1.o.setCell (p:=⟨w.heap.size,1,none⟩) (by simp) (.slice a1 t.info.length c1))) n2 (by omega)).mono ?_;rintro e w2 ⟨v2,rfl,ho2,hb2⟩;obtain⟨a2,c2,rfl,_,_⟩:=SegC.of_owns ho2;have hz2:=hb2.size;simp only[World.size_setCell] at hz2;have hs2:w.heap.size<w2.heap.size:=by omega
 have K2:Hid (w2.heap[w.heap.size]?=some (.cells #[.int .i64 t.seq,.slice a1 t.info.length c1,.slice a' t.data.length c',.slice r t.rev.length d,.bool t.h0.on,.int .i64 t.h0.left,.bool t.h1.on,.int .i64 t.h1.left,.bool t.h2.on,.int .i64 t.h2.left] 40 (0,0))):=zad hb2 (by simp;omega) (heap_setCell_same w1 w.heap.size 1 _ _ (.slice a1 t.info.length c1) K1.o);have HB2:=zaa ((HB1.o.setCell (p:=⟨w.heap.size,1,none⟩) (by simp) (.slice a1 t.info.length c1)).trans (hb2.mono (by simp;omega)));have HO12:=zaa (zah (ownsRow_setCell_below HO1.o (a:=⟨w.heap.size,1,none⟩) (by simp) (.slice a1 t.info.length c1)) hb2);have HO2:Hid (w2.ownsRow (w.heap.size+1) 84 2 (.slice a2 t.data.length c2) t.data.length (cellsC t.data)):=za5 ho2 (by simp;omega);clear hb2 ho2 x0 x1 x2 x3 x4 x5 x6 x7 x8 x9 ff K1 HB1 HO1;obtain⟨⟨x0,x1,x2,x3,x4,x5,x6,x7,x8,x9⟩,ff⟩:=zai K2.o;go_wp2_with fail;refine(znh r d t.rev _ (HR.o.below (HB2.o.setCell (p:=⟨w.heap.size,2,none⟩) (by simp) (.slice a2 t.data.length c2))) n3 (by omega)).mono ?_;rintro e w3 ⟨v3,rfl,ho3,hb3⟩;obtain⟨a3,c3,rfl,_,_⟩:=SegI.of_owns ho3;have hz3:=hb3.size;simp only[World.size_setCell] at hz3;have hs3:w.heap.size<w3.heap.size:=by omega
 have K3:Hid (w3.heap[w.heap.size]?=some (.cells #[.int .i64 t.seq,.slice a1 t.info.length c1,.slice a2 t.data.length c2,.slice r t.rev.length d,.bool t.h0.on,.int .i64 t.h0.left,.bool t.h1.on,.int .i64 t.h1.left,.bool t.h2.on,.int .i64 t.h2.left] 40 (0,0))):=zad hb3 (by simp;omega) (heap_setCell_same w2 w.heap.size 2 _ _ (.slice a2 t.data.length c2) K2.o);have HB3:=zaa ((HB2.o.setCell (p:=⟨w.heap.size,2,none⟩) (by simp) (.slice a2 t.data.length c2)).trans (hb3.mono (by simp;omega)));have HO13:=zaa (zah (ownsRow_setCell_below HO12.o (a:=⟨w.heap.size,2,none⟩) (by simp) (.slice a2 t.data.length c2)) hb3);have HO23:=zaa (zah (ownsRow_setCell_below HO2.o (a:=⟨w.heap.size,2,none⟩) (by simp) (.slice a2 t.data.length c2)) hb3);have HO3:Hid (w3.ownsRow (w.heap.size+1) 3 1 (.slice a3 t.rev.length c3) t.rev.length (cellsI t.rev)):=za5 ho3 (by simp;omega);clear hb3 ho3 x0 x1 x2 x3 x4 x5 x6 x7 x8 x9 ff K2 HB2 HO12 HO2;obtain⟨⟨x0,x1,x2,x3,x4,x5,x6,x7,x8,x9⟩,ff⟩:=zai K3.o;go_wp2;go_ret;exact⟨_,_,_,rfl,⟨heap_setCell_same w3 w.heap.size 3 _ _ (.slice a3 t.rev.length c3) K3.o,ownsRow_setCell_below HO13.o (by simp) _,ownsRow_setCell_below HO23.o (by simp) _,ownsRow_setCell_below HO3.o (by simp) _⟩,HB3.o.setCell (p:=⟨w.heap.size,3,none⟩) (by simp) (.slice a3 t.rev.length c3)⟩
end Go.Proofs.YtjnpndfpajjihacGreat

