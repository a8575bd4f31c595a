/- -/
import Derived.Test.YtjnpndfpajjihacGreatGrTopSpace4
import Derived.Test.YtjnpndfpajjihacGreatGrTopSpace37
namespace Go.Proofs.YtjnpndfpajjihacGreat
set_option maxRecDepth 100000
set_option maxHeartbeats 40000000
open Go.RowKit
theorem zzf {w:World}{B:Nat}{z0 z1 z2 z3 z4 z5 z6 z7 z8 z9:Value}{t:TypeId}(h0:w.heap[B]?=some (.cells #[z0,z1,z2,z3,z4,z5,z6,z7,z8,z9] t (0,0)))(v0 v1 v2 v3 v4 v5 v6 v7 v8 v9:Value):((((((((((w.setCell ⟨B,0,none⟩ v0).setCell ⟨B,1,none⟩ v1).setCell ⟨B,2,none⟩ v2).setCell ⟨B,3,none⟩ v3).setCell ⟨B,4,none⟩ v4).setCell ⟨B,5,none⟩ v5).setCell ⟨B,6,none⟩ v6).setCell ⟨B,7,none⟩ v7).setCell ⟨B,8,none⟩ v8).setCell ⟨B,9,none⟩ v9).heap[B]?=some (.cells #[v0,v1,v2,v3,v4,v5,v6,v7,v8,v9] t (0,0)):=by
 have h1:(w.setCell ⟨B,0,none⟩ v0).heap[B]?=some (.cells #[v0,z1,z2,z3,z4,z5,z6,z7,z8,z9] t (0,0)):=heap_setCell_same _ B 0 _ _ v0 h0
 have h2:((w.setCell ⟨B,0,none⟩ v0).setCell ⟨B,1,none⟩ v1).heap[B]?=some (.cells #[v0,v1,z2,z3,z4,z5,z6,z7,z8,z9] t (0,0)):=heap_setCell_same _ B 1 _ _ v1 h1
 have h3:(((w.setCell ⟨B,0,none⟩ v0).setCell ⟨B,1,none⟩ v1).setCell ⟨B,2,none⟩ v2).heap[B]?=some (.cells #[v0,v1,v2,z3,z4,z5,z6,z7,z8,z9] t (0,0)):=heap_setCell_same _ B 2 _ _ v2 h2
 have h4:((((w.setCell ⟨B,0,none⟩ v0).setCell ⟨B,1,none⟩ v1).setCell ⟨B,2,none⟩ v2).setCell ⟨B,3,none⟩ v3).heap[B]?=some (.cells #[v0,v1,v2,v3,z4,z5,z6,z7,z8,z9] t (0,0)):=heap_setCell_same _ B 3 _ _ v3 h3
 have h5:(((((w.setCell ⟨B,0,none⟩ v0).setCell ⟨B,1,none⟩ v1).setCell ⟨B,2,none⟩ v2).setCell ⟨B,3,none⟩ v3).setCell ⟨B,4,none⟩ v4).heap[B]?=some (.cells #[v0,v1,v2,v3,v4,z5,z6,z7,z8,z9] t (0,0)):=heap_setCell_same _ B 4 _ _ v4 h4
 have h6:((((((w.setCell ⟨B,0,none⟩ v0).setCell ⟨B,1,none⟩ v1).setCell ⟨B,2,none⟩ v2).setCell ⟨B,3,none⟩ v3).setCell ⟨B,4,none⟩ v4).setCell ⟨B,5,none⟩ v5).heap[B]?=some (.cells #[v0,v1,v2,v3,v4,v5,z6,z7,z8,z9] t (0,0)):=heap_setCell_same _ B 5 _ _ v5 h5
 have h7:(((((((w.setCell ⟨B,0,none⟩ v0).setCell ⟨B,1,none⟩ v1).setCell ⟨B,2,none⟩ v2).setCell ⟨B,3,none⟩ v3).setCell ⟨B,4,none⟩ v4).setCell ⟨B,5,none⟩ v5).setCell ⟨B,6,none⟩ v6).heap[B]?=some (.cells #[v0,v1,v2,v3,v4,v5,v6,z7,z8,z9] t (0,0)):=heap_setCell_same _ B 6 _ _ v6 h6
 have h8:((((((((w.setCell ⟨B,0,none⟩ v0).setCell ⟨B,1,none⟩ v1).setCell ⟨B,2,none⟩ v2).setCell ⟨B,3,none⟩ v3).setCell ⟨B,4,none⟩ v4).setCell ⟨B,5,none⟩ v5).setCell ⟨B,6,none⟩ v6).setCell ⟨B,7,none⟩ v7).heap[B]?=some (.cells #[v0,v1,v2,v3,v4,v5,v6,v7,z8,z9] t (0,0)):=heap_setCell_same _ B 7 _ _ v7 h7
 have h9:(((((((((w.setCell ⟨B,0,none⟩ v0).setCell ⟨B,1,none⟩ v1).setCell ⟨B,2,none⟩ v2).setCell ⟨B,3,none⟩ v3).setCell ⟨B,4,none⟩ v4).setCell ⟨B,5,none⟩ v5).setCell ⟨B,6,none⟩ v6).setCell ⟨B,7,none⟩ v7).setCell ⟨B,8,none⟩ v8).heap[B]?=some (.cells #[v0,v1,v2,v3,v4,v5,v6,v7,v8,z9] t (0,0)):=heap_setCell_same _ B 8 _ _ v8 h8
 have h10:((((((((((w.setCell ⟨B,0,none⟩ v0).setCell ⟨B,1,none⟩ v1).setCell ⟨B,2,none⟩ v2).setCell ⟨B,3,none⟩ v3).setCell ⟨B,4,none⟩ v4).setCell ⟨B,5,none⟩ v5).setCell ⟨B,6,none⟩ v6).setCell ⟨B,7,none⟩ v7).setCell ⟨B,8,none⟩ v8).setCell ⟨B,9,none⟩ v9).heap[B]?=some (.cells #[v0,v1,v2,v3,v4,v5,v6,v7,v8,v9] t (0,0)):=heap_setCell_same _ B 9 _ _ v9 h9
 exact h10
theorem zqq (B:Nat)(X:List Nat)(j:Jn)(w:World)(h:JAt w B X j)(hR:zv7 j.now):
  Calls Tryz.prog 17 #[.pointer (some ⟨B,0,none⟩)] w fun e w'=>∃v,e=.returned v∧IsTx w' v j.now∧Below w.heap.size w w':=by
 obtain⟨_,da,dc,db,dd,na,nc,nb,nd,ne,nf,sa,sc,sb,sd,se,sf,ca,cc,fa,fc,ta,tc,h1,hrow⟩:=h
 have hT:=hrow.2.1.ext (Ext.seenL w X)
 have HRW:=zaa hT.rows
 have HRE:=zaa hR
 have c0:w.cell? ⟨B,31,none⟩=some (.int .i64 j.now.seq):=zag h1 31
 have c1:w.cell? ⟨B,32,none⟩=some (.slice na j.now.info.length nc):=zag h1 32
 have c2:w.cell? ⟨B,33,none⟩=some (.slice nb j.now.data.length nd):=zag h1 33
 have c3:w.cell? ⟨B,34,none⟩=some (.slice ne j.now.rev.length nf):=zag h1 34
 have c4:w.cell? ⟨B,35,none⟩=some (.bool j.now.h0.on):=zag h1 35
 have c5:w.cell? ⟨B,36,none⟩=some (.int .i64 j.now.h0.left):=zag h1 36
 have c6:w.cell? ⟨B,37,none⟩=some (.bool j.now.h1.on):=zag h1 37
 have c7:w.cell? ⟨B,38,none⟩=some (.int .i64 j.now.h1.left):=zag h1 38
 have c8:w.cell? ⟨B,39,none⟩=some (.bool j.now.h2.on):=zag h1 39
 have c9:w.cell? ⟨B,40,none⟩=some (.int .i64 j.now.h2.left):=zag h1 40
 have hlt:=(Array.getElem?_eq_some_iff.1 h1).1
 have hne:¬w.heap.size=B:=by omega
 clear h1 hrow hT hR
 go_enter Tryz.func17,Tryz.ntmps17
 go_wp2_with fail
 refine(zg2 na nc j.now.info _ (HRW.o.1.below (zad (below1 _ _) (below1 _ _))) HRW.o.2.2.2.1 HRE.o.1).mono ?_
 rintro e w1 ⟨v1,rfl,hO1,hb1⟩
 obtain⟨ma,mc,rfl,_,_⟩:=SegC.of_owns hO1
 have HO1:=zaa hO1
 have KR1:=zaa (zfo hb1)
 have KT1:=zaa (zgn hb1)
 have HB1:=zaa (zad (zad (below1 _ _) (below1 _ _)) hb1)
 have hs1:w.heap.size+1<w1.heap.size:=by have:=hb1.size;simp at this;omega
 have hbs:((w.alloc (.cells #[.int .i64 0,.slice none 0 0,.slice none 0 0,.slice none 0 0,.bool false,.int .i64 0,.bool false,.int .i64 0,.bool false,.int .i64 0] 40)).alloc (.cells #[.int .i64 j.now.seq,.slice na j.now.info.length nc,.slice nb j.now.data.length nd,.slice ne j.now.rev.length nf,.bool j.now.h0.on,.int .i64 j.now.h0.left,.bool j.now.h1.on,.int .i64 j.now.h1.left,.bool j.now.h2.on,.int .i64 j.now.h2.left] 40)).heap.size=w.heap.size+1+1:=by simp
 rw[hbs] at HO1
 clear hb1 hO1 hbs c0 c1 c2 c3 c4 c5 c6 c7 c8 c9
 obtain⟨⟨x0,x1,x2,x3,x4,x5,x6,x7,x8,x9⟩,xf⟩:=zaf KT1.o
 go_wp2_with fail
 obtain⟨W1,hW1⟩:∃W1,W1=w1.setCell ⟨w.heap.size+1,1,none⟩ (.slice ma j.now.info.length mc):=⟨_,rfl⟩
 have KT2:Hid (W1.heap[w.heap.size+1]?=some (.cells #[.int .i64 j.now.seq,.slice ma j.now.info.length mc,.slice nb j.now.data.length nd,.slice ne j.now.rev.length nf,.bool j.now.h0.on,.int .i64 j.now.h0.left,.bool j.now.h1.on,.int .i64 j.now.h1.left,.bool j.now.h2.on,.int .i64 j.now.h2.left] 40 (0,0))):=by rw[hW1];exact heap_setCell_same _ _ 1 _ _ _ KT1.o
 have KR2:Hid (W1.heap[w.heap.size]?=some (.cells #[.int .i64 0,.slice none 0 0,.slice none 0 0,.slice none 0 0,.bool false,.int .i64 0,.bool false,.int .i64 0,.bool false,.int .i64 0] 40 (0,0))):=by rw[hW1];exact(Below.heap_setCell _ _ _ _ (by simp)).trans KR1.o
 have HB2:Hid (Below w.heap.size w W1):=by rw[hW1];exact HB1.o.setCell (p:=⟨w.heap.size+1,1,none⟩) (by simp) _
 have HO2:=zaa (ownsRow_setCell_below HO1.o (a:=⟨w.heap.size+1,1,none⟩) (by simp) (.slice ma j.now.info.length mc))
 have hs2:w.heap.size+1<W1.heap.size:=by rw[hW1];simpa[World.setCell] using hs1
 rw[←hW1] at HO2⊢
 clear hW1 KT1 KR1 HB1 HO1 hs1 x0 x1 x2 x3 x4 x5 x6 x7 x8 x9 xf
 refine(zg2 nb nd j.now.data _ (HRW.o.2.1.below HB2.o) HRW.o.2.2.2.2.1 HRE.o.2.1).mono ?_
 rintro e w3 ⟨v3,rfl,hO3,hb3⟩
 obtain⟨mb,md,rfl,_,_⟩:=SegC.of_owns hO3
 have HO3:=zaa hO3
 have HO2':=zaa (zae HO2.o hb3)
 have KR3:=zaa (zac hb3 (show w.heap.size<W1.heap.size by omega) KR2.o)
 have KT3:=zaa (zac hb3 hs2 KT2.o)
 have HB3:=zaa (zad HB2.o hb3)
 have hs3:w.heap.size+1<w3.heap.size:=Nat.lt_of_lt_of_le hs2 hb3.size
 clear hb3 hO3 KR2 KT2 HB2 HO2
 obtain⟨⟨x0,x1,x2,x3,x4,x5,x6,x7,x8,x9⟩,xf⟩:=zaf KT3.o
 go_wp2_with fail
 obtain⟨W3,hW3⟩:∃W3,W3=w3.setCell ⟨w.heap.size+1,2,none⟩ (.slice mb j.now.data.length md):=⟨_,rfl⟩
 have KT4:Hid (W3.heap[w.heap.size+1]?=some (.cells #[.int .i64 j.now.seq,.slice ma j.now.info.length mc,.slice mb j.now.data.length md,.slice ne j.now.rev.length nf,.bool j.now.h0.on,.int .i64 j.now.h0.left,.bool j.now.h1.on,.int .i64 j.now.h1.left,.bool j.now.h2.on,.int .i64 j.now.h2.left] 40 (0,0))):=by rw[hW3];exact heap_setCell_same _ _ 2 _ _ _ KT3.o
 have KR4:Hid (W3.heap[w.heap.size]?=some (.cells #[.int .i64 0,.slice none 0 0,.slice none 0 0,.slice none 0 0,.bool false,.int .i64 0,.bool false,.int .i64 0,.bool false,.int .i64 0] 40 (0,0))):=by rw[hW3];exact(Below.heap_setCell _ _ _ _ (by simp)).trans KR3.o
 have HB4:Hid (Below w.heap.size w W3):=by rw[hW3];exact HB3.o.setCell (p:=⟨w.heap.size+1,2,none⟩) (by simp) _
 have HO4:=zaa (ownsRow_setCell_below HO2'.o (a:=⟨w.heap.size+1,2,none⟩) (by simp) (.slice mb j.now.data.length md))
 have HO5:=zaa (ownsRow_setCell_below HO3.o (a:=⟨w.heap.size+1,2,none⟩) (by simpa using hs2) (.slice mb j.now.data.length md))
 have hs4:w.heap.size+1<W3.heap.size:=by rw[hW3];simpa[World.setCell] using hs3
 rw[←hW3] at HO4 HO5⊢
 clear hW3 KT3 KR3 HB3 HO2' HO3 hs3 x0 x1 x2 x3 x4 x5 x6 x7 x8 x9 xf
 refine(zmn ne nf j.now.rev _ (HRW.o.2.2.1.below HB4.o) HRW.o.2.2.2.2.2 HRE.o.2.2).mono ?_
 rintro e w5 ⟨v5,rfl,hO6,hb5⟩
 obtain⟨mr,mf,rfl,_,_⟩:=SegI.of_owns hO6
 have HO6:=zaa hO6
 have HO4':=zaa (zae HO4.o hb5)
 have HO5':=zaa (zae HO5.o hb5)
 have KR5:=zaa (zac hb5 (show w.heap.size<W3.heap.size by omega) KR4.o)
 have KT5:=zaa (zac hb5 hs4 KT4.o)
 have HB5:=zaa (zad HB4.o hb5)
 have hs5:w.heap.size+1<w5.heap.size:=Nat.lt_of_lt_of_le hs4 hb5.size
 clear hb5 hO6 KR4 KT4 HB4 HO4 HO5
 obtain⟨⟨x0,x1,x2,x3,x4,x5,x6,x7,x8,x9⟩,xf⟩:=zaf KT5.o
 obtain⟨⟨y0,y1,y2,y3,y4,y5,y6,y7,y8,y9⟩,yf⟩:=zaf KR5.o
 go_wp2
 obtain⟨W,hW⟩:∃W,W=(((((((((((w5.setCell ⟨w.heap.size+1,3,none⟩ (.slice mr j.now.rev.length mf)).setCell ⟨w.heap.size,0,none⟩ (.int .i64 j.now.seq)).setCell ⟨w.heap.size,1,none⟩ (.slice ma j.now.info.length mc)).setCell ⟨w.heap.size,2,none⟩ (.slice mb j.now.data.length md)).setCell ⟨w.heap.size,3,none⟩ (.slice mr j.now.rev.length mf)).setCell ⟨w.heap.size,4,none⟩ (.bool j.now.h0.on)).setCell ⟨w.heap.size,5,none⟩ (.int .i64 j.now.h0.left)).setCell ⟨w.heap.size,6,none⟩ (.bool j.now.h1.on)).setCell ⟨w.heap.size,7,none⟩ (.int .i64 j.now.h1.left)).setCell ⟨w.heap.size,8,none⟩ (.bool j.now.h2.on)).setCell ⟨w.heap.size,9,none⟩ (.int .i64 j.now.h2.left)):=⟨_,rfl⟩
 have hbx:=zzf (w:=w5.setCell ⟨w.heap.size+1,3,none⟩ (.slice mr j.now.rev.length mf)) ((Below.heap_setCell _ _ _ _ (by simp)).trans KR5.o) (.int .i64 j.now.seq) (.slice ma j.now.info.length mc) (.slice mb j.now.data.length md) (.slice mr j.now.rev.length mf) (.bool j.now.h0.on) (.int .i64 j.now.h0.left) (.bool j.now.h1.on) (.int .i64 j.now.h1.left) (.bool j.now.h2.on) (.int .i64 j.now.h2.left)
 rw[←hW] at hbx
 obtain⟨⟨u0,u1,u2,u3,u4,u5,u6,u7,u8,u9⟩,_⟩:=zaf hbx
 have HW:=zaa hW
 rw[←hW]
 clear hW hbx x0 x1 x2 x3 x4 x5 x6 x7 x8 x9 xf y0 y1 y2 y3 y4 y5 y6 y7 y8 y9 yf
 refine bodyPost_ret (v:=.agg #[.int .i64 j.now.seq,.slice ma j.now.info.length mc,.slice mb j.now.data.length md,.slice mr j.now.rev.length mf,.bool j.now.h0.on,.int .i64 j.now.h0.left,.bool j.now.h1.on,.int .i64 j.now.h1.left,.bool j.now.h2.on,.int .i64 j.now.h2.left]) (by simp[results,Tryz.results17,go_sem,u0,u1,u2,u3,u4,u5,u6,u7,u8,u9]) rfl ⟨_,rfl,?_,?_⟩
 ·have o1:W.ownsRow (w.heap.size+1+1) 84 2 (.slice ma j.now.info.length mc) j.now.info.length (cellsC j.now.info):=by
   rw[HW.o]
   repeat refine ownsRow_setCell_below ?_ (by simp;try omega) _
   exact HO4'.o
  have o2:W.ownsRow W1.heap.size 84 2 (.slice mb j.now.data.length md) j.now.data.length (cellsC j.now.data):=by
   rw[HW.o]
   repeat refine ownsRow_setCell_below ?_ (by simp;omega) _
   exact HO5'.o
  have o3:W.ownsRow W3.heap.size 3 1 (.slice mr j.now.rev.length mf) j.now.rev.length (cellsI j.now.rev):=by
   rw[HW.o]
   repeat refine ownsRow_setCell_below ?_ (by simp;omega) _
   exact HO6.o
  obtain⟨_,_,q1,s1,_⟩:=SegC.of_owns o1
  obtain⟨_,_,q2,s2,_⟩:=SegC.of_owns o2
  obtain⟨_,_,q3,s3,_⟩:=SegI.of_owns o3
  cases q1
  cases q2
  cases q3
  exact⟨ma,mc,mb,md,mr,mf,rfl,s1,s2,s3,HRW.o.2.2.2.1,HRW.o.2.2.2.2.1,HRW.o.2.2.2.2.2⟩
 ·rw[HW.o]
  repeat refine Below.setCell ?_ (by simp) _
  exact HB5.o
end Go.Proofs.YtjnpndfpajjihacGreat

