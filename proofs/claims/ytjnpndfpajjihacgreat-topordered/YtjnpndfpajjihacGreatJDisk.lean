/- -/
import Derived.Test.YtjnpndfpajjihacGreatGrTopOrdered4
import Derived.Test.YtjnpndfpajjihacGreatGrTopOrdered5
import Derived.Deep.RegionHeld3
namespace Go.Proofs.YtjnpndfpajjihacGreat
open Go.Proofs.Tryz
set_option maxRecDepth 100000
set_option maxHeartbeats 40000000
open Go.RowKit
theorem z1i(B:Nat)(X:List Nat)(j:Jn)(w:World)(h:JAt w B X j)(h16:j.disk.safe.length*16≤140737488355328)(h24:j.disk.wr.length*24≤140737488355328):
  Calls prog 19 #[.pointer (some ⟨B,0,none⟩)] w fun e w'=>∃pa pc qa qc,e=.returned (.agg #[.slice pa j.disk.safe.length pc,.slice qa j.disk.wr.length qc])∧w'.ownsRow w.heap.size 9 1 (.slice pa j.disk.safe.length pc) j.disk.safe.length (cellsS j.disk.safe)∧w'.ownsRow w.heap.size 82 2 (.slice qa j.disk.wr.length qc) j.disk.wr.length (cellsW j.disk.wr)∧Below w.heap.size w w':=by
 obtain⟨_,da,dc,db,dd,na,nc,nb,nd,ne,nf,sa,sc,sb,sd,se,sf,ca,cc,fa,fc,ta,tc,h1,hrow⟩:=h;have hD:=hrow.1.ext (Ext.seenL w X);obtain⟨a,c,a',c',hv,hS,hW,l1,l2⟩:=hD;simp only[Value.agg.injEq,Array.mk.injEq,List.cons.injEq,Value.slice.injEq,and_true]at hv;obtain⟨⟨rfl,_,rfl⟩,rfl,_,rfl⟩:=hv;have HS:=zab hS;have HW:=zab hW;have hlt:=(Array.getElem?_eq_some_iff.1 h1).1;have c1:w.cell? ⟨B,1,none⟩=some (.slice da j.disk.safe.length dc):=zak h1 1;have c2:w.cell? ⟨B,2,none⟩=some (.slice db j.disk.wr.length dd):=zak h1 2;have hne:¬w.heap.size=B:=by omega
 clear h1 hrow hS hW;go_enter func19,ntmps19;go_wp2;obtain⟨W,hW⟩:∃W,W=w.alloc (.cells #[.slice none 0 0,.slice none 0 0] 46):=⟨_,rfl⟩;have hbW:Below w.heap.size w W:=by rw[hW];exact zaa _ _
 have KR:Hid (W.heap[w.heap.size]?=some (.cells #[.slice none 0 0,.slice none 0 0] 46 (0,0))):=by rw[hW];exact heap_alloc_new _ _
 have hsW:W.heap.size=w.heap.size+1:=by rw[hW];simp
 rw[←hW];have x1:=zac hbW hlt c1;have x2:=zac hbW hlt c2;have hBW:B<W.heap.size:=by omega
 have HSZ:=zab hsW;have HBW:=zab hbW;have C1:=zab c1;have C2:=zab c2;clear hW c1 c2 hsW hbW
 have HALL:Hid (∀w',Below W.heap.size W w'→Hid (Below W.heap.size W w')∧w'.cell? ⟨B,1,none⟩=some (.slice da j.disk.safe.length dc)∧w'.cell? ⟨B,2,none⟩=some (.slice db j.disk.wr.length dd)∧(w'.cell? ⟨w.heap.size,0,none⟩=some (.slice none 0 0)∧w'.cell? ⟨w.heap.size,1,none⟩=some (.slice none 0 0))∧w'.frozen? ⟨w.heap.size,0,none⟩=false∧w'.frozen? ⟨w.heap.size,1,none⟩=false):=by
  intro w' hb;obtain⟨⟨r0,r1⟩,rf⟩:=zgq (zad hb (by have:=HSZ.o;omega) KR.o);exact⟨hb,zac hb hBW x1,zac hb hBW x2,⟨r0,r1⟩,rf.1,rf.2⟩
 clear x1 x2;have HKEEP:Hid (∀w',Below w.heap.size w w'→w'.cell? ⟨B,1,none⟩=some (.slice da j.disk.safe.length dc)∧w'.cell? ⟨B,2,none⟩=some (.slice db j.disk.wr.length dd)):=fun w' hb=>⟨zac hb hlt C1.o,zac hb hlt C2.o⟩
 go_region_held3 (fun w'=>Hid (Below w.heap.size w w')∧w'.cell? ⟨B,1,none⟩=some (.slice da j.disk.safe.length dc)∧w'.cell? ⟨B,2,none⟩=some (.slice db j.disk.wr.length dd))
  (first|exact⟨HBW.o.drew,HKEEP.o _ HBW.o.drew⟩|(refine⟨?_,HKEEP.o _ ?_⟩<;>assumption)|(refine⟨?_,HKEEP.o _ ?_⟩<;>((repeat refine Below.setCell ?_ (by simp) _);assumption)))
  (first|(go_at_call 51;(have hnow1:=(‹Hid (Below w.heap.size w _)∧_›).1);have HNOW1:=zab hnow1.o;(have hX1:Below W.heap.size W _:=(by first|assumption|exact(Below.refl _ _).drew));refine(znd da dc j.disk.safe _ (HS.o.below HNOW1.o) l1 h16).mono ?_;clear hnow1;rintro e wp ⟨vp,rfl,hOp,hbp⟩;obtain⟨pa,pc,rfl,_,_⟩:=SegS.of_owns hOp;have HOp:=zab hOp;have HBp:=zab hbp;have hbNp:=zae hX1 hbp;have hbWp:=zae HNOW1.o hbp;obtain⟨_,_,_,⟨r01,r11⟩,rf01,rf11⟩:=HALL.o _ hbNp;clear hbp HNOW1 hOp hX1;dsimp only)
        |(go_at_call 52;(have hnow2:=(‹Hid (Below w.heap.size w _)∧_›).1);have HNOW2:=zab hnow2.o;(have hX2:Below W.heap.size W _:=(by first|assumption|exact(Below.refl _ _).drew));refine(zne db dd j.disk.wr _ (HW.o.below HNOW2.o) l2 h24).mono ?_;clear hnow2;rintro e wq ⟨vq,rfl,hOq,hbq⟩;obtain⟨qa,qc,rfl,_,_⟩:=SegW.of_owns hOq;have HOq:=zab hOq;have HBq:=zab hbq;have hbNq:=zae hX2 hbq;have hbWq:=zae HNOW2.o hbq;obtain⟨_,_,_,⟨r02,r12⟩,rf02,rf12⟩:=HALL.o _ hbNq;clear hbq HNOW2 hOq hX2;dsimp only))
 have hsz:=HSZ.o;have hsp:=hbNp.size;obtain⟨⟨z0,z1⟩,zf⟩:=zgq (zad hbNq (show w.heap.size<W.heap.size by omega) KR.o);have KQ:=zab (zad hbNq (show w.heap.size<W.heap.size by omega) KR.o);have HBF:=zab hbWq;have HSP:=zab hsp;clear hbNp hbNq hbWp hbWq r01 r11 rf01 rf11 r02 r12 rf02 rf12 hsz hsp z0 z1 zf;go_wp2;obtain⟨V,hV⟩:∃V,V=((wq.setCell ⟨w.heap.size,0,none⟩ (.slice pa j.disk.safe.length pc)).setCell ⟨w.heap.size,1,none⟩ (.slice qa j.disk.wr.length qc)):=⟨_,rfl⟩;have k0:(wq.setCell ⟨w.heap.size,0,none⟩ (.slice pa j.disk.safe.length pc)).heap[w.heap.size]?=some (.cells #[.slice pa j.disk.safe.length pc,.slice none 0 0] 46 (0,0)):=heap_setCell_same _ _ 0 _ _ _ KQ.o;have k1:V.heap[w.heap.size]?=some (.cells #[.slice pa j.disk.safe.length pc,.slice qa j.disk.wr.length qc] 46 (0,0)):=by rw[hV];exact heap_setCell_same _ _ 1 _ _ _ k0
 obtain⟨⟨u0,u1⟩,_⟩:=zgq k1;have HV:=zab hV;rw[←hV];clear hV k0 k1;refine bodyPost_ret (v:=.agg #[.slice pa j.disk.safe.length pc,.slice qa j.disk.wr.length qc]) (by simp[results,results19,go_sem,u0,u1]) rfl ?_
 have hBf:Below w.heap.size w V:=by
  rw[HV.o]
  repeat refine Below.setCell ?_ (by simp) _
  exact HBF.o
 ·have hz:=HSZ.o;have hp:=HSP.o
  have o1:V.ownsRow (w.heap.size+1) 9 1 (.slice pa j.disk.safe.length pc) j.disk.safe.length (cellsS j.disk.safe):=by
   rw[HV.o];exact ownsRow_setCell_below (ownsRow_setCell_below (za6 (zah HOp.o HBq.o) (by simp;omega)) (by simp) _) (by simp) _
  have o2:V.ownsRow (w.heap.size+1) 82 2 (.slice qa j.disk.wr.length qc) j.disk.wr.length (cellsW j.disk.wr):=by
   rw[HV.o];exact ownsRow_setCell_below (ownsRow_setCell_below (za6 HOq.o (by omega)) (by simp) _) (by simp) _
  exact⟨pa,pc,qa,qc,rfl,za6 o1 (by omega),za6 o2 (by omega),hBf⟩
theorem z1j(B:Nat)(X:List Nat)(j:Jn)(w:World)(h:JAt w B X j)(h16:j.disk.safe.length*16≤140737488355328)(h24:j.disk.wr.length*24≤140737488355328):
  Calls prog 19 #[.pointer (some ⟨B,0,none⟩)] w fun e w'=>∃v,e=.returned v∧IsDk w' v j.disk∧Below w.heap.size w w':=by
 have L:=h.2;obtain⟨da,dc,db,dd,na,nc,nb,nd,ne,nf,sa,sc,sb,sd,se,sf,ca,cc,fa,fc,ta,tc,_,A⟩:=L;obtain⟨_,_,_,_,_,_,_,I,O⟩:=A.1;refine(z1i B X j w h h16 h24).mono ?_;rintro e w' ⟨R,M,J,Q,rfl,E,N,hb⟩;obtain⟨_,_,F,C,_⟩:=SegS.of_owns E;obtain⟨_,_,D,K,_⟩:=SegW.of_owns N;cases F;cases D;exact⟨_,rfl,⟨R,M,J,Q,rfl,C,K,I,O⟩,hb⟩
