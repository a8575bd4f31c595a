/-
  
-/
import Derived.Test.YtjnpndfpajjihacGreatGrTopOrdered3
import Derived.Lib.SliceRun
set_option maxRecDepth 100000
set_option maxHeartbeats 40000000
namespace Go.Proofs.YtjnpndfpajjihacGreat
open Go.Proofs.Tryz
open Go.RowKit
theorem zhy(a:Option Addr)(c:Nat)(ss:List (Int×ByteArray))(w:World)(h:SegW w a ss)(hn:ss.length≤maxLen)(hbig:ss.length*24≤140737488355328):
  Calls prog 49 #[.slice a ss.length c] w fun e w'=>∃v',e=.returned v'∧w'.ownsRow w.heap.size 84 2 v' ss.length (cellsC ss)∧Below w.heap.size w w':=by
 have A0:∀(w:World) (a:Option Addr) (n c n' c':Nat),(binOp .eql 34 (.slice a n c) (.slice none n' c')).run prog w=.ok (.bool a.isNone) w:=fun w a n c n' c'=>Lib.run_eql_slice_nil w _ _ a n c n' c' underlying34;obtain⟨M,R,K,F,J⟩:=info_parts zvo;rcases a with _|ad
 ·have Q:ss=[]:=by rcases h with h|⟨b,off,he,_⟩;exact h;cases he
  subst Q;go_enter func49,ntmps49;go_wp2;go_ret;exact⟨_,rfl,World.ownsRow_nil _ _ _ _,Below.refl _ _⟩
 ·have A:Hid (∀j u,(cellsC ss)[j]?=some u→w.cell? (ad.add j)=some u):=by
   rcases h with h|⟨b,off,he,hlt,hc⟩
   ·rw[h];intro j u C;simp[cellsC]at C
   ·intro j u C;cases he;rw[Addr.add_lit];exact SegC.news hc j u C
  clear h;go_enter func49,ntmps49;go_wp2_with (at_builtin;refine wpList_append_own _ rfl _ _ 34 rfl w.heap.size 84 M (.agg #[.int .i64 0,.string ⟨#[]⟩]) 2 24 underlying34 R K F J rfl (by decide) _ _ _ rfl (World.ownsRow_made w #[] 0 (Nat.le_refl _) (Nat.zero_le _) (by simp)) ad ss.length c (cellsC ss) rfl ?qc1 ?qc2 ?qc3 ?qc4 ?qc5 ?qc6 ?_)
  case qc1=>exact zc2 ss
  case qc2=>intro j u C;exact Lib.cell?_alloc_some _ (A.o j u C)
  case qc3=>exact zfm ss
  case qc4=>rw[Nat.zero_add];exact hn
  case qc5=>rw[Nat.zero_add];exact hbig
  case qc6=>simp
  intro v' I D B E;have N:Hid (I.ownsRow w.heap.size 84 2 v' ss.length (cellsC ss)):=by unfold Hid;simpa using D
  have O:Hid (Below w.heap.size w I):=(zaa w _).grown B (by simp) (by intro k L;simp[Value.ownBlock]at L;omega);clear D B E;go_wp2;go_ret;exact⟨v',rfl,N.o,O.o⟩
theorem zn1(a:Option Addr)(c:Nat)(ss:List Int)(w:World)(h:SegI w a ss)(hn:ss.length≤maxLen)(hbig:ss.length*8≤140737488355328):
  Calls prog 50 #[.slice a ss.length c] w fun e w'=>∃v',e=.returned v'∧w'.ownsRow w.heap.size 3 1 v' ss.length (cellsI ss)∧Below w.heap.size w w':=by
 have A0:∀(w:World) (a:Option Addr) (n c n' c':Nat),(binOp .eql 35 (.slice a n c) (.slice none n' c')).run prog w=.ok (.bool a.isNone) w:=fun w a n c n' c'=>Lib.run_eql_slice_nil w _ _ a n c n' c' underlying35;obtain⟨M,R,K,F,J⟩:=info_parts zse;rcases a with _|ad
 ·have Q:ss=[]:=by rcases h with h|⟨b,off,he,_⟩;exact h;cases he
  subst Q;go_enter func50,ntmps50;go_wp2;go_ret;exact⟨_,rfl,World.ownsRow_nil _ _ _ _,Below.refl _ _⟩
 ·have A:Hid (∀j u,(cellsI ss)[j]?=some u→w.cell? (ad.add j)=some u):=by
   rcases h with h|⟨b,off,he,hlt,hc⟩
   ·rw[h];intro j u C;simp[cellsI]at C
   ·intro j u C;cases he;rw[Addr.add_lit];exact SegI.news hc j u C
  clear h;go_enter func50,ntmps50;go_wp2_with (at_builtin;refine wpList_append_own _ rfl _ _ 35 rfl w.heap.size 3 M (.int .i64 0) 1 8 underlying35 R K F J rfl (by decide) _ _ _ rfl (World.ownsRow_made w #[] 0 (Nat.le_refl _) (Nat.zero_le _) (by simp)) ad ss.length c (cellsI ss) rfl ?qc1 ?qc2 ?qc3 ?qc4 ?qc5 ?qc6 ?_)
  case qc1=>exact zdp ss
  case qc2=>intro j u C;exact Lib.cell?_alloc_some _ (A.o j u C)
  case qc3=>exact zjt
  case qc4=>rw[Nat.zero_add];exact hn
  case qc5=>rw[Nat.zero_add];exact hbig
  case qc6=>simp
  intro v' I D B E;have N:Hid (I.ownsRow w.heap.size 3 1 v' ss.length (cellsI ss)):=by unfold Hid;simpa using D
  have O:Hid (Below w.heap.size w I):=(zaa w _).grown B (by simp) (by intro k L;simp[Value.ownBlock]at L;omega);clear D B E;go_wp2;go_ret;exact⟨v',rfl,N.o,O.o⟩
def BoxTx (w:World)(B:Nat)(t:Tx)(va vd vr:Value):Prop:=
 w.heap[B]?=some (.cells #[.int .i64 t.seq,va,vd,vr,.bool t.h0.on,.int .i64 t.h0.left,.bool t.h1.on,.int .i64 t.h1.left,.bool t.h2.on,.int .i64 t.h2.left] 40 (0,0))∧
 w.ownsRow (B+1) 84 2 va t.info.length (cellsC t.info)∧w.ownsRow (B+1) 84 2 vd t.data.length (cellsC t.data)∧w.ownsRow (B+1) 3 1 vr t.rev.length (cellsI t.rev)
theorem BoxTx.lt{w:World}{B:Nat}{t:Tx}{va vd vr:Value}(h:BoxTx w B t va vd vr):B<w.heap.size:=(Array.getElem?_eq_some_iff.1 h.1).1
theorem BoxTx.below{w w':World}{B:Nat}{t:Tx}{va vd vr:Value}(h:BoxTx w B t va vd vr)(hb:Below w.heap.size w w'):BoxTx w' B t va vd vr:=
 ⟨zad hb h.lt h.1,zah h.2.1 hb,zah h.2.2.1 hb,zah h.2.2.2 hb⟩
theorem BoxTx.set{w:World}{B:Nat}{t t':Tx}{va vd vr va' vd' vr':Value}(h:BoxTx w B t va vd vr)(k:Nat)(u:Value)
  (hc:(#[.int .i64 t.seq,va,vd,vr,.bool t.h0.on,.int .i64 t.h0.left,.bool t.h1.on,.int .i64 t.h1.left,.bool t.h2.on,.int .i64 t.h2.left]:Array Value).setIfInBounds k u=#[.int .i64 t'.seq,va',vd',vr',.bool t'.h0.on,.int .i64 t'.h0.left,.bool t'.h1.on,.int .i64 t'.h1.left,.bool t'.h2.on,.int .i64 t'.h2.left])
  (h1:w.ownsRow (B+1) 84 2 va' t'.info.length (cellsC t'.info)) (h2:w.ownsRow (B+1) 84 2 vd' t'.data.length (cellsC t'.data)) (h3:w.ownsRow (B+1) 3 1 vr' t'.rev.length (cellsI t'.rev)):
  BoxTx (w.setCell ⟨B,k,none⟩ u) B t' va' vd' vr':=by
 refine⟨?_,ownsRow_setCell_below h1 (by simp) _,ownsRow_setCell_below h2 (by simp) _,ownsRow_setCell_below h3 (by simp) _⟩;rw[heap_setCell_same w B k _ _ u h.1,←hc]
theorem BoxTx.is{w:World}{B:Nat}{t:Tx}{va vd vr:Value}(h:BoxTx w B t va vd vr)(n1:t.info.length≤maxLen)(n2:t.data.length≤maxLen)(n3:t.rev.length≤maxLen):
  IsTx w (.agg #[.int .i64 t.seq,va,vd,vr,.bool t.h0.on,.int .i64 t.h0.left,.bool t.h1.on,.int .i64 t.h1.left,.bool t.h2.on,.int .i64 t.h2.left]) t:=by
 obtain⟨a,c,rfl,h1,_⟩:=SegC.of_owns h.2.1;obtain⟨A,D,rfl,h2,_⟩:=SegC.of_owns h.2.2.1;obtain⟨r,d,rfl,C,_⟩:=SegI.of_owns h.2.2.2;exact⟨a,c,A,D,r,d,rfl,h1,h2,C,n1,n2,n3⟩
theorem zcy(v:Value)(t:Tx)(w:World)(hT:IsTx w v t)(r1:t.info.length≤1000)(r2:t.data.length≤1000)(r3:t.rev.length≤1000):
  Calls Tryz.prog 119 #[v] w fun e w'=>∃va vd vr,e=.returned (.pointer (some ⟨w.heap.size,0,none⟩))∧BoxTx w' w.heap.size t va vd vr∧Below w.heap.size w w':=by
 obtain⟨a,c,z,y,r,d,rfl,hM,hD,hR,n1,n2,n3⟩:=hT;have HM:=zab hM;have HD:=zab hD;have HR:=zab hR;clear hM hD hR;go_enter Tryz.func119,Tryz.ntmps119;go_wp2_with fail;refine(zhy a c t.info _ (HM.o.below (zaa _ _)) n1 (by omega)).mono ?_;rintro e q ⟨v1,rfl,F,E⟩;obtain⟨C,c1,rfl,_,_⟩:=SegC.of_owns F;have A5:w.heap.size<q.heap.size:=by have:=E.size;simp at this;omega
 have x:=zab (z32 E);have L:=zab (zae (zaa _ _) E);have k:Hid (q.ownsRow (w.heap.size+1) 84 2 (.slice C t.info.length c1) t.info.length (cellsC t.info)):=za6 F (by simp);clear E F;obtain⟨⟨R,U,Z,j,X,N,O,i,Y,S⟩,Q⟩:=zaj x.o;go_wp2_with fail;refine(zhy z y t.data _ (HD.o.below (L.o.setCell (p:=⟨w.heap.size,1,none⟩) (by simp) (.slice C t.info.length c1))) n2 (by omega)).mono ?_;rintro e b ⟨v2,rfl,I,B⟩;obtain⟨D,c2,rfl,_,_⟩:=SegC.of_owns I;have A2:=B.size;simp only[World.size_setCell]at A2;have A4:w.heap.size<b.heap.size:=by omega
 have n:Hid (b.heap[w.heap.size]?=some (.cells #[.int .i64 t.seq,.slice C t.info.length c1,.slice z t.data.length y,.slice r t.rev.length d,.bool t.h0.on,.int .i64 t.h0.left,.bool t.h1.on,.int .i64 t.h1.left,.bool t.h2.on,.int .i64 t.h2.left] 40 (0,0))):=zad B (by simp;omega) (heap_setCell_same q w.heap.size 1 _ _ (.slice C t.info.length c1) x.o);have K:=zab ((L.o.setCell (p:=⟨w.heap.size,1,none⟩) (by simp) (.slice C t.info.length c1)).trans (B.mono (by simp;omega)));have M:=zab (zah (ownsRow_setCell_below k.o (a:=⟨w.heap.size,1,none⟩) (by simp) (.slice C t.info.length c1)) B);have l:Hid (b.ownsRow (w.heap.size+1) 84 2 (.slice D t.data.length c2) t.data.length (cellsC t.data)):=za6 I (by simp;omega);clear B I R U Z j X N O i Y S Q x L k;obtain⟨⟨R,U,Z,j,X,N,O,i,Y,S⟩,Q⟩:=zaj n.o;go_wp2_with fail;refine(zn1 r d t.rev _ (HR.o.below (K.o.setCell (p:=⟨w.heap.size,2,none⟩) (by simp) (.slice D t.data.length c2))) n3 (by omega)).mono ?_;rintro e h ⟨v3,rfl,J,A⟩;obtain⟨m,c3,rfl,_,_⟩:=SegI.of_owns J;have A3:=A.size;simp only[World.size_setCell]at A3;have A6:w.heap.size<h.heap.size:=by omega
 have K3:Hid (h.heap[w.heap.size]?=some (.cells #[.int .i64 t.seq,.slice C t.info.length c1,.slice D t.data.length c2,.slice r t.rev.length d,.bool t.h0.on,.int .i64 t.h0.left,.bool t.h1.on,.int .i64 t.h1.left,.bool t.h2.on,.int .i64 t.h2.left] 40 (0,0))):=zad A (by simp;omega) (heap_setCell_same b w.heap.size 2 _ _ (.slice D t.data.length c2) n.o);have A1:=zab ((K.o.setCell (p:=⟨w.heap.size,2,none⟩) (by simp) (.slice D t.data.length c2)).trans (A.mono (by simp;omega)));have s:=zab (zah (ownsRow_setCell_below M.o (a:=⟨w.heap.size,2,none⟩) (by simp) (.slice D t.data.length c2)) A);have u:=zab (zah (ownsRow_setCell_below l.o (a:=⟨w.heap.size,2,none⟩) (by simp) (.slice D t.data.length c2)) A);have A0:Hid (h.ownsRow (w.heap.size+1) 3 1 (.slice m t.rev.length c3) t.rev.length (cellsI t.rev)):=za6 J (by simp;omega);clear A J R U Z j X N O i Y S Q n K M l;obtain⟨⟨R,U,Z,j,X,N,O,i,Y,S⟩,Q⟩:=zaj K3.o;go_wp2;go_ret;exact⟨_,_,_,rfl,⟨heap_setCell_same h w.heap.size 3 _ _ (.slice m t.rev.length c3) K3.o,ownsRow_setCell_below s.o (by simp) _,ownsRow_setCell_below u.o (by simp) _,ownsRow_setCell_below A0.o (by simp) _⟩,A1.o.setCell (p:=⟨w.heap.size,3,none⟩) (by simp) (.slice m t.rev.length c3)⟩
