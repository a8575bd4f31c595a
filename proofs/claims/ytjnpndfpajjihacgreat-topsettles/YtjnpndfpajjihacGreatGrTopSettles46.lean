/-
  
-/
import Derived.Test.YtjnpndfpajjihacGreatGrTopSettles40
import Derived.Test.YtjnpndfpajjihacGreatGrTopSettles45
set_option maxRecDepth 100000
set_option maxHeartbeats 40000000
namespace Go.Proofs.YtjnpndfpajjihacGreat
open Go.RowKit
theorem zt3(rh ru:Int)(t:Tx)(na:Option Addr)(nc:Nat)(nb:Option Addr)(nd:Nat)(ne:Option Addr)(nf:Nat)(w:World)(hT:IsTx w (.agg #[.int .i64 t.seq,.slice na t.info.length nc,.slice nb t.data.length nd,.slice ne t.rev.length nf,.bool t.h0.on,.int .i64 t.h0.left,.bool t.h1.on,.int .i64 t.h1.left,.bool t.h2.on,.int .i64 t.h2.left]) t)(hR:RoomTx (.agg #[.int .i64 t.seq,.slice na t.info.length nc,.slice nb t.data.length nd,.slice ne t.rev.length nf,.bool t.h0.on,.int .i64 t.h0.left,.bool t.h1.on,.int .i64 t.h1.left,.bool t.h2.on,.int .i64 t.h2.left]))(r1:t.info.length*24≤140737488355328)(r2:t.data.length*24≤140737488355328):
  Calls Tryz.prog 125 #[.agg #[.int .i64 rh,.int .i64 ru],.agg #[.int .i64 t.seq,.slice na t.info.length nc,.slice nb t.data.length nd,.slice ne t.rev.length nf,.bool t.h0.on,.int .i64 t.h0.left,.bool t.h1.on,.int .i64 t.h1.left,.bool t.h2.on,.int .i64 t.h2.left]] w fun e w'=>∃a c,e=.returned (.tuple #[.agg #[.int .i64 (zcf rh ru t),.int .i64 (zca rh ru t)],.slice a (commitS rh ru t).length c,.int .i64 (sealE rh ru t)])∧(commitS rh ru t).length≤c∧Below w.heap.size w w'∧∀Y:List Nat,(∀x∈Y,x<w.heap.size)→SegSt (zas w' Y) a (commitS rh ru t):=by
 by_cases he:sealE rh ru t=0
 ·exact(z0n rh ru t na nb ne nc nd nf w hT hR.is.1 hR.is.2.2 he).mono fun _ _ ⟨a,c,h1,hc,hF,h2,h3⟩=>⟨a,c,h1,hc,h3,fun _ hY=>h2.hideF hF hY⟩
 ·exact(z0j rh ru _ t w hT r1 r2 he).mono fun _ _ ⟨a,c,h1,_,h3⟩=>⟨a,c,h1,by rw[commitS,if_neg he];exact Nat.zero_le _,h3,fun _ _=>.inl (by rw[commitS,if_neg he])⟩
def z1j (W:World)(u:Value)(w:World):Prop:=Below W.heap.size W w∧(u=undef∨∃T,u=.pointer (some ⟨T,0,none⟩)∧W.heap.size≤T∧T<w.heap.size∧∃c0 c1,w.heap[T]?=some (.cells #[c0,c1] 26 (0,0)))
theorem zxx{W:World}{u:Value}{w w':World}(h:z1j W u w)(hb:Below w.heap.size w w'):z1j W u w':=
 ⟨zae h.1 hb,h.2.imp id fun⟨T,h1,h2,h3,c0,c1,h4⟩=>⟨T,h1,h2,Nat.lt_of_lt_of_le h3 hb.size,c0,c1,zad hb h3 h4⟩⟩
def okSt (X:List Nat)(l:List St)(x u:Value)(w:World):Prop:=∃a c,x=.slice a l.length c∧l.length≤c∧SegSt (zas w X) a l∧∀T,u=.pointer (some ⟨T,0,none⟩)→SegSt (zas w (T::X)) a l
theorem okSt.below{X:List Nat}{l:List St}{x u:Value}{w w':World}(h:okSt X l x u w)(hb:Below w.heap.size w w'):okSt X l x u w':=by
 obtain⟨a,c,C,D,A,B⟩:=h;exact⟨a,c,C,D,A.ext (Ext.freshL hb),fun T e=>(B T e).ext (Ext.freshL hb)⟩
theorem okSt.alloc{X:List Nat}{l:List St}{x u:Value}{w:World}(h:okSt X l x u w)(o:Obj):okSt X l x (.pointer (some ⟨w.heap.size,0,none⟩)) (w.alloc o):=by
 obtain⟨a,c,B,C,A,_⟩:=h;exact⟨a,c,B,C,A.ext (Ext.freshL (zab _ _)),fun T e=>by cases e;exact A.ext (Ext.newL (zab _ _) (Nat.le_refl _))⟩
theorem okSt.store{X:List Nat}{l:List St}{x:Value}{T:Nat}{w:World}(h:okSt X l x (.pointer (some ⟨T,0,none⟩)) w)(v0 v1:Value):okSt X l x (.pointer (some ⟨T,0,none⟩)) ((w.setCell ⟨T,0,none⟩ (v0)).setCell ⟨T,1,none⟩ (v1)):=by
 obtain⟨a,c,B,C,_,A⟩:=h;have k:=((A T rfl).ext (Ext.setL (X:=T::X) (b:=T) (by simp) 0 v0)).ext (Ext.setL (X:=T::X) (b:=T) (by simp) 1 v1);exact⟨a,c,B,C,k.ext (Ext.lessL T),fun T' e=>by cases e;exact k⟩
theorem okSt.made{X:List Nat}{l:List St}{a:Option Addr}{c:Nat}{u:Value}{W w w2:World}(hX:∀x∈X,x<W.heap.size)(hB:z1j W u w)(hc:l.length≤c)(h:∀Y:List Nat,(∀x∈Y,x<w.heap.size)→SegSt (zas w2 Y) a l):okSt X l (.slice a l.length c) u w2:=by
 have hs:=hB.1.size;refine⟨a,c,rfl,hc,h X (fun x hx=>by have:=hX x hx;omega),fun T e=>h (T::X) (fun x hx=>?_)⟩;rcases List.mem_cons.1 hx with rfl|hx
 ·rcases hB.2 with h0|⟨T',e',h3,h4,_⟩
  ·rw[h0]at e;cases e
  ·rw[e']at e;cases e;exact h4
 ·have:=hX x hx;omega
open Go.Proofs.Tryz
def zt5 (B:Nat)(D:Nat)(j:Jn)(X:List Nat)(na:Option Addr)(nc:Nat)(nb:Option Addr)(nd:Nat)(ne:Option Addr)(nf:Nat)(sH:Int)(sU:Int):Nat→Value→World→Prop
 |0,v,_=>v=.pointer (some ⟨B,0,none⟩)
 |1,v,_=>v=.pointer (some ⟨B,0,none⟩)
 |2,v,_=>v=.agg #[.int .i64 j.now.seq,.slice na j.now.info.length nc,.slice nb j.now.data.length nd,.slice ne j.now.rev.length nf,.bool j.now.h0.on,.int .i64 j.now.h0.left,.bool j.now.h1.on,.int .i64 j.now.h1.left,.bool j.now.h2.on,.int .i64 j.now.h2.left]
 |3,v,_=>v=.pointer (some ⟨D,0,none⟩)
 |4,v,_=>v=.int .i64 j.now.seq
 |5,v,_=>v=.int .i64 (j.now.seq+1)
 |6,v,_=>v=.agg #[.int .i64 (j.now.seq+1),.slice none 0 0,.slice none 0 0,.slice none 0 0,.bool false,.int .i64 0,.bool false,.int .i64 0,.bool false,.int .i64 0]
 |7,v,_=>v=.pointer (some ⟨B,0,none⟩)
 |8,v,_=>v=.pointer (some ⟨B,41,none⟩)
 |9,_,w=>JAt w B X {j with rh:=sH,ru:=sU,sealed:=j.now}
 |_,_,_=>True
theorem zt6{B:Nat}{D:Nat}{j:Jn}{X:List Nat}{na:Option Addr}{nc:Nat}{nb:Option Addr}{nd:Nat}{ne:Option Addr}{nf:Nat}{sH:Int}{sU:Int}{w w':World}:∀kk x,kk≠9→zt5 B D j X na nc nb nd ne nf sH sU kk x w→zt5 B D j X na nc nb nd ne nf sH sU kk x w':=by
 intro kk x A h
 match kk,h with
 |0,h|1,h|2,h|3,h|4,h|5,h|6,h|7,h|8,h=>exact h
 |9,_=>exact absurd rfl A
 |_+10,_=>exact trivial
theorem JAt.ring{w:World}{B:Nat}{X:List Nat}{j:Jn}(h:JAt w B X j):w.cell? ⟨B,3,none⟩=some (.int .i64 j.rh)∧w.cell? ⟨B,4,none⟩=some (.int .i64 j.ru):=by
 obtain⟨_,da,dc,db,dd,na,nc,nb,nd,ne,nf,sa,sc,sb,sd,se,sf,ca,cc,fa,fc,ta,tc,A,_⟩:=h;exact⟨(zak A 3).trans rfl,(zak A 4).trans rfl⟩
def zd0 (B:Nat)(j:Jn)(X:List Nat)(na:Option Addr)(nc:Nat)(nb:Option Addr)(nd:Nat)(ne:Option Addr)(nf:Nat):Nat→Value→Value→World→Prop
 |0,v,_,_=>v=.pointer (some ⟨B,0,none⟩)
 |1,v,_,_=>v=.pointer (some ⟨B,0,none⟩)
 |2,v,_,_=>v=.pointer (some ⟨B,3,none⟩)
 |3,v,_,_=>v=.agg #[.int .i64 j.rh,.int .i64 j.ru]
 |4,v,_,_=>v=.agg #[.int .i64 j.now.seq,.slice na j.now.info.length nc,.slice nb j.now.data.length nd,.slice ne j.now.rev.length nf,.bool j.now.h0.on,.int .i64 j.now.h0.left,.bool j.now.h1.on,.int .i64 j.now.h1.left,.bool j.now.h2.on,.int .i64 j.now.h2.left]
 |5,v,u,w=>∃x,v=.tuple #[.agg #[.int .i64 (zcf j.rh j.ru j.now),.int .i64 (zca j.rh j.ru j.now)],x,.int .i64 (sealE j.rh j.ru j.now)]∧okSt X (commitS j.rh j.ru j.now) x u w
 |6,v,u,w=>∃x,v=.tuple #[.agg #[.int .i64 (zcf j.rh j.ru j.now),.int .i64 (zca j.rh j.ru j.now)],x,.int .i64 (sealE j.rh j.ru j.now)]∧okSt X (commitS j.rh j.ru j.now) x u w
 |7,v,_,_=>v=.agg #[.int .i64 (zcf j.rh j.ru j.now),.int .i64 (zca j.rh j.ru j.now)]
 |8,v,u,w=>okSt X (commitS j.rh j.ru j.now) v u w
 |9,v,_,_=>v=.int .i64 (sealE j.rh j.ru j.now)
 |10,v,_,_=>∃T,v=.pointer (some ⟨T,0,none⟩)
 |11,v,_,w=>∃T,v=.pointer (some ⟨T,0,none⟩)∧w.heap[T]?=some (.cells #[.int .i64 (zcf j.rh j.ru j.now),.int .i64 (zca j.rh j.ru j.now)] 26 (0,0))
 |12,v,u,w=>okSt X (commitS j.rh j.ru j.now) v u w
 |_,_,_,_=>True
theorem zrv{B:Nat}{j:Jn}{X:List Nat}{na:Option Addr}{nc:Nat}{nb:Option Addr}{nd:Nat}{ne:Option Addr}{nf:Nat}{u:Value}{w w':World}(hb:Below w.heap.size w w'):∀kk x,zd0 B j X na nc nb nd ne nf kk x u w→zd0 B j X na nc nb nd ne nf kk x u w':=by
 intro kk x h
 match kk,h with
 |0,h|1,h|2,h|3,h|4,h=>exact h
 |5,⟨x,h1,h2⟩=>exact⟨x,h1,h2.below hb⟩
 |6,⟨x,h1,h2⟩=>exact⟨x,h1,h2.below hb⟩
 |7,h=>exact h
 |8,h=>exact h.below hb
 |9,h|10,h=>exact h
 |11,⟨T,h1,h2⟩=>exact⟨T,h1,zad hb (Array.getElem?_eq_some_iff.1 h2).1 h2⟩
 |12,h=>exact h.below hb
 |_+13,_=>exact trivial
theorem zrw{B:Nat}{j:Jn}{X:List Nat}{na:Option Addr}{nc:Nat}{nb:Option Addr}{nd:Nat}{ne:Option Addr}{nf:Nat}{u:Value}{w:World}(o:Obj):∀kk x,zd0 B j X na nc nb nd ne nf kk x u w→zd0 B j X na nc nb nd ne nf kk x (.pointer (some ⟨w.heap.size,0,none⟩)) (w.alloc o):=by
 intro kk x h
 match kk,h with
 |0,h|1,h|2,h|3,h|4,h=>exact h
 |5,⟨x,h1,h2⟩=>exact⟨x,h1,h2.alloc o⟩
 |6,⟨x,h1,h2⟩=>exact⟨x,h1,h2.alloc o⟩
 |7,h=>exact h
 |8,h=>exact h.alloc o
 |9,h|10,h=>exact h
 |11,⟨T,h1,h2⟩=>exact⟨T,h1,zad (zab _ _) (Array.getElem?_eq_some_iff.1 h2).1 h2⟩
 |12,h=>exact h.alloc o
 |_+13,_=>exact trivial
theorem zrx{B:Nat}{j:Jn}{X:List Nat}{na:Option Addr}{nc:Nat}{nb:Option Addr}{nd:Nat}{ne:Option Addr}{nf:Nat}{u:Value}{w w':World}(hs:∀x,okSt X (commitS j.rh j.ru j.now) x u w→okSt X (commitS j.rh j.ru j.now) x u w'):∀kk x,kk≠11→zd0 B j X na nc nb nd ne nf kk x u w→zd0 B j X na nc nb nd ne nf kk x u w':=by
 intro kk x A h
 match kk,h with
 |0,h|1,h|2,h|3,h|4,h=>exact h
 |5,⟨y,h1,h2⟩=>exact⟨y,h1,hs _ h2⟩
 |6,⟨y,h1,h2⟩=>exact⟨y,h1,hs _ h2⟩
 |7,h=>exact h
 |8,h=>exact hs _ h
 |9,h|10,h=>exact h
 |11,_=>exact absurd rfl A
 |12,h=>exact hs _ h
 |_+13,_=>exact trivial
theorem zt7(B:Nat)(X:List Nat)(j:Jn)(w:World)(h:JAt w B X j)(hX:∀x∈X,x<w.heap.size)(r1:j.now.info.length*24≤140737488355328)(r2:j.now.data.length*24≤140737488355328)(hwp:IntKind.i64.wrap (j.now.seq+1)=j.now.seq+1):
  Calls prog 85 #[.pointer (some ⟨B,0,none⟩)] w (zdj w B X (zcm j)):=by
 have HJ:=zaa h;have P8:=h.lt;have R:=h.1;have HX:=zaa hX;have L3:=zaa hwp;obtain⟨_,da,dc,db,dd,c,Z,d,b,ne,U,sa,sc,sb,sd,se,sf,ca,cc,fa,fc,ta,tc,D,hr⟩:=id h;have L5:w.cell? ⟨B,31,none⟩=some (.int .i64 j.now.seq):=zak D 31;have M0:w.cell? ⟨B,32,none⟩=some (.slice c j.now.info.length Z):=zak D 32;have K7:w.cell? ⟨B,33,none⟩=some (.slice d j.now.data.length b):=zak D 33;have J9:w.cell? ⟨B,34,none⟩=some (.slice ne j.now.rev.length U):=zak D 34;have K9:w.cell? ⟨B,35,none⟩=some (.bool j.now.h0.on):=zak D 35;have K2:w.cell? ⟨B,36,none⟩=some (.int .i64 j.now.h0.left):=zak D 36;have J8:w.cell? ⟨B,37,none⟩=some (.bool j.now.h1.on):=zak D 37;have K6:w.cell? ⟨B,38,none⟩=some (.int .i64 j.now.h1.left):=zak D 38;have K5:w.cell? ⟨B,39,none⟩=some (.bool j.now.h2.on):=zak D 39;have M4:w.cell? ⟨B,40,none⟩=some (.int .i64 j.now.h2.left):=zak D 40;have K4:=zaa (hr.2.1.ext (Ext.seenL w X));have H0:=zaa hr.2.1;have L6:=zaa hr.2.2.2.2.2.2.1;clear h hX hwp D hr;have R7:¬w.heap.size=B:=by omega
 have L:¬w.heap.size+1=B:=by omega
 go_enter func85,ntmps85;go_wp2_with fail;obtain⟨W1,A7⟩:∃W1,W1=(w.alloc (.cells #[.int .i64 0,.int .i64 0,.string ⟨#[]⟩] 31)).alloc (.cells #[.int .i64 j.now.seq,.slice c j.now.info.length Z,.slice d j.now.data.length b,.slice ne j.now.rev.length U,.bool j.now.h0.on,.int .i64 j.now.h0.left,.bool j.now.h1.on,.int .i64 j.now.h1.left,.bool j.now.h2.on,.int .i64 j.now.h2.left] 40):=⟨_,rfl⟩;have H6:(w.alloc (.cells #[.int .i64 0,.int .i64 0,.string ⟨#[]⟩] 31)).heap.size=w.heap.size+1:=by simp
 have i:Hid (JAt W1 B (w.heap.size::X) j):=by rw[A7];exact(HJ.o.more (zab _ _) (Nat.le_refl _)).below (zab _ _)
 have M:Hid (ButL [B] w.heap.size w W1):=by rw[A7];exact ButL.of_below (zae (zab _ _) (zab _ _))
 have G4:Hid (Below w.heap.size w W1):=by rw[A7];exact zae (zab _ _) (zab _ _)
 have KR:Hid (W1.heap[w.heap.size]?=some (.cells #[.int .i64 0,.int .i64 0,.string ⟨#[]⟩] 31 (0,0))):=by rw[A7];exact zad (zab _ _) (by omega) (heap_alloc_new _ _)
 have KA:Hid (W1.heap[w.heap.size+1]?=some (.cells #[.int .i64 j.now.seq,.slice c j.now.info.length Z,.slice d j.now.data.length b,.slice ne j.now.rev.length U,.bool j.now.h0.on,.int .i64 j.now.h0.left,.bool j.now.h1.on,.int .i64 j.now.h1.left,.bool j.now.h2.on,.int .i64 j.now.h2.left] 40 (0,0))):=by rw[A7,←H6];exact heap_alloc_new _ _
 have R5:W1.heap.size=w.heap.size+2:=by rw[A7];simp
 have A1:w.heap.size<W1.heap.size:=by omega
 have q:w.heap.size≠B:=by omega
 rw[←A7];clear A7 H6;refine(zfq B (w.heap.size::X) j W1 i.o).mono ?_;rintro e w' ⟨rfl,rfl⟩;by_cases hs:0<j.steps.length
 ·have HE:Hid (zcm j=(j,zaq 9)):=by rw[Hid,zcm,if_pos (.inl (by intro e;rw[e]at hs;simp at hs))]
  have B2:decide (0<j.steps.length)=true:=by simpa using hs
  rw[B2];clear hs B2;go_wp2_with fail;refine(zat 9 _).mono ?_;rintro e w2 ⟨rfl,C⟩;have O:=zaa (zad C A1 KR.o);have u:=zaa (i.o.below C);have A2:=zaa (M.o.trans (Y:=[]) (ButL.of_below C) M.o.size (by simp));clear C;obtain⟨⟨n,l,m⟩,yf⟩:=zbo O.o;go_wp2;exact zbe HE.o O.o u.o A2.o q R fun W u0 u1 u2=>by simp[results,results85,go_sem,u0,u1,u2]
 ·have B2:decide (0<j.steps.length)=false:=by simpa using hs
  have I0:j.steps=[]:=List.eq_nil_of_length_eq_zero (by omega);rw[B2];clear hs B2;obtain⟨⟨n,l,m,y3,y4,y5,y6,y7,y8,y9⟩,_⟩:=zaj KA.o;go_wp2_with fail;refine(zqm _ j.now _ (K4.o.below G4.o)).mono ?_;rintro e w1 ⟨rfl,N⟩;have E5:=zaa (i.o.below N);have D8:Hid (ButL [B] w.heap.size w w1):=M.o.trans (Y:=[]) (ButL.of_below N) M.o.size (by simp);have G8:=zaa (zae G4.o N);have F8:=zaa (zad N A1 KR.o);have F0:=zaa (zad N (show w.heap.size+1<w'.heap.size by omega) KA.o);have P9:w'.heap.size≤w1.heap.size:=N.size;clear N n l m y3 y4 y5 y6 y7 y8 y9 i M G4 KR KA;by_cases hop:zfm j.now=true
  ·have HE:Hid (zcm j=(j,zaq 9)):=by rw[Hid,zcm,if_pos (.inr hop)]
   rw[hop];clear hop;have i:=E5;have M:=D8;have KR:=F8;have A1:w.heap.size<w1.heap.size:=by omega
   go_wp2_with fail;refine(zat 9 _).mono ?_;rintro e w2 ⟨rfl,C⟩;have O:=zaa (zad C A1 KR.o);have u:=zaa (i.o.below C);have A2:=zaa (M.o.trans (Y:=[]) (ButL.of_below C) M.o.size (by simp));clear C;obtain⟨⟨n,l,m⟩,yf⟩:=zbo O.o;go_wp2;exact zbe HE.o O.o u.o A2.o q R fun W u0 u1 u2=>by simp[results,results85,go_sem,u0,u1,u2]
  ·have B7:zfm j.now=false:=by simpa using hop
   have G5:Hid (¬(j.steps≠[]∨zfm j.now=true)):=by rw[Hid,I0,B7];simp
   rw[B7];clear hop B7 I0;obtain⟨⟨n,l,m,y3,y4,y5,y6,y7,y8,y9⟩,_⟩:=zaj F0.o;go_wp2_with fail;refine(ztx j.now c Z d b ne U w1).mono ?_;rintro e w2 ⟨rfl,C⟩;have B3:=zaa (E5.o.below C);have B4:Hid (ButL [B] w.heap.size w w2):=D8.o.trans (Y:=[]) (ButL.of_below C) D8.o.size (by simp);have B8:=zaa (zae G8.o C);have D3:=zaa (zad C (show w.heap.size<w1.heap.size by omega) F8.o);have C0:=zaa (zad C (show w.heap.size+1<w1.heap.size by omega) F0.o);have P5:w1.heap.size≤w2.heap.size:=C.size;clear C n l m y3 y4 y5 y6 y7 y8 y9 E5 D8 G8 F8 F0;have B1:w.heap.size<w2.heap.size:=by omega
   clear A1;by_cases hem:zcg j.now=true
   ·have HE:Hid (zcm j=(j,zaq 4)):=by rw[Hid,zcm,if_neg G5.o,if_pos hem]
    rw[hem];clear hem;have i:=B3;have M:=B4;have KR:=D3;have A1:=B1;go_wp2_with fail;refine(zat 4 _).mono ?_;rintro e w2 ⟨rfl,C⟩;have O:=zaa (zad C A1 KR.o);have u:=zaa (i.o.below C);have A2:=zaa (M.o.trans (Y:=[]) (ButL.of_below C) M.o.size (by simp));clear C;obtain⟨⟨n,l,m⟩,yf⟩:=zbo O.o;go_wp2;exact zbe HE.o O.o u.o A2.o q R fun W u0 u1 u2=>by simp[results,results85,go_sem,u0,u1,u2]
   ·have B6:zcg j.now=false:=by simpa using hem
    rw[B6];obtain⟨⟨n,l,m,y3,y4,y5,y6,y7,y8,y9⟩,_⟩:=zaj C0.o;by_cases hq:2147483645<j.now.seq
    ·have HE:Hid (zcm j=(j,zaq 11)):=by rw[Hid,zcm,if_neg G5.o,if_neg hem,if_pos hq]
     clear hem B6;have i:=B3;have M:=B4;have KR:=D3;have A1:=B1;go_wp2_with fail;clear n l m y3 y4 y5 y6 y7 y8 y9;refine(zat 11 _).mono ?_;rintro e w2 ⟨rfl,C⟩;have O:=zaa (zad C A1 KR.o);have u:=zaa (i.o.below C);have A2:=zaa (M.o.trans (Y:=[]) (ButL.of_below C) M.o.size (by simp));clear C;obtain⟨⟨n,l,m⟩,yf⟩:=zbo O.o;go_wp2;exact zbe HE.o O.o u.o A2.o q R fun W u0 u1 u2=>by simp[results,results85,go_sem,u0,u1,u2]
    ·have G0:Hid (zcm j=if sealE j.rh j.ru j.now=0 then({j with rh:=zcf j.rh j.ru j.now,ru:=zca j.rh j.ru j.now,sealed:=j.now,now:=zc5 (j.now.seq+1),work:=6,steps:=commitS j.rh j.ru j.now},⟨0,j.now.seq,⟨#[]⟩⟩) else(j,zaq (sealE j.rh j.ru j.now))):=by rw[Hid,zcm,if_neg G5.o,if_neg hem,if_neg hq]
     have P1:j.now.seq≤2147483645:=by omega
     clear hem B6 hq;go_wp2;rename_i KK G6;clear n l m y3 y4 y5 y6 y7 y8 y9;obtain⟨Q,H4⟩:∃Q,Q=w2:=⟨_,rfl⟩;rw[←H4];subst H4
     have E9:∀(g:Nat→Value) (W3:World) (T:Nat) (ya:Option Addr) (yc:Nat),W3.heap[T]?=some (.cells #[.int .i64 (zcf j.rh j.ru j.now),.int .i64 (zca j.rh j.ru j.now)] 26 (0,0))→SegSt (zas W3 (w.heap.size::X)) ya (commitS j.rh j.ru j.now)→(commitS j.rh j.ru j.now).length≤yc→Q.heap.size≤T→Below Q.heap.size Q W3→KK ⟨#[.pointer (some ⟨B,0,none⟩),g 1,.pointer (some ⟨w.heap.size,0,none⟩),.pointer (some ⟨w.heap.size+1,0,none⟩),.pointer (some ⟨T,0,none⟩),.slice ya (commitS j.rh j.ru j.now).length yc,.int .i64 (sealE j.rh j.ru j.now),g 7,g 8,g 9,g 10,g 11,g 12,g 13,g 14,g 15,g 16,g 17,g 18,g 19,g 20,g 21,g 22,g 23,g 24,g 25,g 26,g 27,g 28,g 29,g 30,g 31,g 32,g 33,g 34,g 35,g 36,g 37,g 38,g 39,g 40,g 41,g 42,g 43,g 44,g 45,g 46,g 47,g 48,g 49,g 50,g 51,g 52,g 53,g 54,g 55,g 56,g 57,g 58,g 59,g 60,g 61,g 62,g 63,g 64,g 65,g 66],[]⟩ W3:=by
      intro g W3 T ya yc A5 C2 D4 A9 A8;apply G6;clear G6;have C8:=zaa (B3.o.below A8);have G7:Hid (ButL [B] w.heap.size w W3):=B4.o.trans (Y:=[]) (ButL.of_below A8) B4.o.size (by simp);have F7:=zaa (zae B8.o A8);have F6:=zaa (zad A8 B1 D3.o);have H5:=zaa (zad A8 (show w.heap.size+1<Q.heap.size by omega) C0.o);have KT:=zaa A5;have E3:=zaa C2;have P3:Q.heap.size≤W3.heap.size:=A8.size;have R3:T<W3.heap.size:=(Array.getElem?_eq_some_iff.1 A5).1;have J6:w.heap.size<W3.heap.size:=by omega
      clear A8 A5 C2 B3 B4 B8 D3 C0;by_cases he:sealE j.rh j.ru j.now=0
      ·have HE:Hid (zcm j=({j with rh:=zcf j.rh j.ru j.now,ru:=zca j.rh j.ru j.now,sealed:=j.now,now:=zc5 (j.now.seq+1),work:=6,steps:=commitS j.rh j.ru j.now},⟨0,j.now.seq,⟨#[]⟩⟩)):=by rw[Hid,G0.o,if_pos he]
       rw[he];clear he G0;obtain⟨sH,H8⟩:∃x,x=zcf j.rh j.ru j.now:=⟨_,rfl⟩;obtain⟨sU,J1⟩:∃x,x=zca j.rh j.ru j.now:=⟨_,rfl⟩;obtain⟨cS,I5⟩:∃x,x=commitS j.rh j.ru j.now:=⟨_,rfl⟩;rw[←H8,←J1]at KT HE;rw[←I5]at HE E3 D4⊢;clear H8 J1 I5;obtain⟨⟨t0,t1⟩,tf⟩:=zgr KT.o;obtain⟨_,G3,E7,H1,F9,E2,D5,C9,E0,D7,D6,C7,E1,C1,D1,C6,C5,G9,E8,G1,F2,F4,E6,D,_⟩:=id C8.o;have c3:W3.cell? ⟨B,3,none⟩=some (.int .i64 j.rh):=zak D 3;have c4:W3.cell? ⟨B,4,none⟩=some (.int .i64 j.ru):=zak D 4;have L4:W3.frozen? ⟨B,3,none⟩=false:=frozen_of_row W3 _ _ _ _ D;have M3:W3.frozen? ⟨B,4,none⟩=false:=frozen_of_row W3 _ _ _ _ D;clear D;have P6:¬T=B:=by omega
       go_wp2;rename_i F1 B9;clear t0 t1 tf c3 c4 L4 M3;obtain⟨W4,A6⟩:∃W4,W4=(W3.setCell ⟨B,3,none⟩ (.int .i64 sH)).setCell ⟨B,4,none⟩ (.int .i64 sU):=⟨_,rfl⟩;rw[←A6];have L2:Hid (JAt W4 B (w.heap.size::X) {j with rh:=sH,ru:=sU}):=by rw[A6];exact C8.o.putRing sH sU
       have I2:Hid (ButL [B] w.heap.size w W4):=by rw[A6];exact(G7.o.set (.inl (by simp)) 3 _).set (.inl (by simp)) 4 _
       have L8:Hid (W4.heap[w.heap.size]?=some (.cells #[.int .i64 0,.int .i64 0,.string ⟨#[]⟩] 31 (0,0))):=by rw[A6];exact(Below.heap_setCell _ _ _ _ q).trans ((Below.heap_setCell _ _ _ _ q).trans F6.o)
       have S:Hid (W4.heap[w.heap.size+1]?=some (.cells #[.int .i64 j.now.seq,.slice c j.now.info.length Z,.slice d j.now.data.length b,.slice ne j.now.rev.length U,.bool j.now.h0.on,.int .i64 j.now.h0.left,.bool j.now.h1.on,.int .i64 j.now.h1.left,.bool j.now.h2.on,.int .i64 j.now.h2.left] 40 (0,0))):=by rw[A6];exact(Below.heap_setCell _ _ _ _ L).trans ((Below.heap_setCell _ _ _ _ L).trans H5.o)
       have J5:Hid (SegSt (zas W4 (w.heap.size::X)) ya cS):=by rw[A6];exact(E3.o.ext (Ext.setL (by simp[R]) _ _)).ext (Ext.setL (by simp[R]) _ _)
       have L0:Hid (IsTx (zas W4 (w.heap.size::X)) (.agg #[.int .i64 j.now.seq,.slice c j.now.info.length Z,.slice d j.now.data.length b,.slice ne j.now.rev.length U,.bool j.now.h0.on,.int .i64 j.now.h0.left,.bool j.now.h1.on,.int .i64 j.now.h1.left,.bool j.now.h2.on,.int .i64 j.now.h2.left]) j.now):=by rw[A6];exact((H0.o.ext (Ext.newL F7.o (Nat.le_refl _))).ext (Ext.setL (by simp[R]) _ _)).ext (Ext.setL (by simp[R]) _ _)
       have R0:W4.heap.size=W3.heap.size:=by rw[A6];simp[World.setCell]
       clear A6 C8 G7 F6 H5 KT E3 F7
       have D9:∀(g:Nat→Value) (r:World),JAt r B (w.heap.size::X) {j with rh:=sH,ru:=sU,sealed:=j.now,now:=zc5 (j.now.seq+1)}→ButL [B] W4.heap.size W4 r→F1 ⟨#[.pointer (some ⟨B,0,none⟩),g 1,.pointer (some ⟨w.heap.size,0,none⟩),.pointer (some ⟨w.heap.size+1,0,none⟩),g 4,.slice ya cS.length yc,g 6,g 7,g 8,g 9,g 10,g 11,g 12,g 13,g 14,g 15,g 16,g 17,g 18,g 19,g 20,g 21,g 22,g 23,g 24,g 25,g 26,g 27,g 28,g 29,g 30,g 31,g 32,g 33,g 34,g 35,g 36,g 37,g 38,g 39,g 40,g 41,g 42,g 43,g 44,g 45,g 46,g 47,g 48,g 49,g 50,g 51,g 52,g 53,g 54,g 55,g 56,g 57,g 58,g 59,g 60,g 61,g 62,g 63,g 64,g 65,g 66],[]⟩ r:=by
        intro g r I6 B0;apply B9;clear B9;have I4:=zaa I6;have K3:Hid (ButL [B] w.heap.size w r):=I2.o.trans B0 I2.o.size (by simp);have I1:Hid (r.heap[w.heap.size]?=some (.cells #[.int .i64 0,.int .i64 0,.string ⟨#[]⟩] 31 (0,0))):=(B0.block _ (by omega) (by simpa using q)).trans L8.o;have M5:Hid (r.heap[w.heap.size+1]?=some (.cells #[.int .i64 j.now.seq,.slice c j.now.info.length Z,.slice d j.now.data.length b,.slice ne j.now.rev.length U,.bool j.now.h0.on,.int .i64 j.now.h0.left,.bool j.now.h1.on,.int .i64 j.now.h1.left,.bool j.now.h2.on,.int .i64 j.now.h2.left] 40 (0,0))):=(B0.block _ (by omega) (by simpa using L)).trans S.o;have J7:Hid (SegSt (zas r (w.heap.size::X)) ya cS):=J5.o.ext (Ext.butL (B0.wider (Y:=(w.heap.size::X)) (by simp[R])));have S2:W4.heap.size≤r.heap.size:=B0.size;have S5:B<r.heap.size:=by omega
        clear I6 B0;obtain⟨_,G3,E7,H1,F9,E2,D5,C9,E0,D7,D6,C7,E1,C1,D1,C6,C5,G9,E8,G1,F2,F4,E6,D,_⟩:=id I4.o;have J0:∃v,r.cell? ⟨B,55,none⟩=some v:=⟨_,(zak D 55).trans rfl⟩;have I7:∃v,r.cell? ⟨B,56,none⟩=some v:=⟨_,(zak D 56).trans rfl⟩;have N3:r.frozen? ⟨B,55,none⟩=false:=frozen_of_row r _ _ _ _ D;have N9:r.frozen? ⟨B,56,none⟩=false:=frozen_of_row r _ _ _ _ D;obtain⟨R8,J0⟩:=J0;obtain⟨R4,I7⟩:=I7;clear D;obtain⟨⟨q0,_⟩,_⟩:=zaj M5.o;obtain⟨⟨n,l,m⟩,yf⟩:=zbo I1.o;go_wp2;obtain⟨W7,D2⟩:∃W7,W7=(r.setCell ⟨B,55,none⟩ (.int .i64 6)).setCell ⟨B,56,none⟩ (.slice ya cS.length yc):=⟨_,rfl⟩;rw[←D2];have O:Hid (W7.heap[w.heap.size]?=some (.cells #[.int .i64 0,.int .i64 0,.string ⟨#[]⟩] 31 (0,0))):=by rw[D2];exact(Below.heap_setCell _ _ _ _ q).trans ((Below.heap_setCell _ _ _ _ q).trans I1.o)
        have u:Hid (JAt W7 B (w.heap.size::X) {j with rh:=sH,ru:=sU,sealed:=j.now,now:=zc5 (j.now.seq+1),work:=6,steps:=cS}):=by rw[D2];exact(I4.o.putWork 6).putSteps (J7.o.ext (Ext.setL (by simp[R]) 55 (.int .i64 6))) D4
        have A2:Hid (ButL [B] w.heap.size w W7):=by rw[D2];exact(K3.o.set (.inl (by simp)) 55 _).set (.inl (by simp)) 56 _
        obtain⟨W,hW⟩:∃W,W=(((W7.setCell ⟨w.heap.size,0,none⟩ (.int .i64 0)).setCell ⟨w.heap.size,1,none⟩ (.int .i64 j.now.seq)).setCell ⟨w.heap.size,2,none⟩ (.string ⟨#[]⟩)):=⟨_,rfl⟩;have hX:=zgf O.o (.int .i64 0) (.int .i64 j.now.seq) (.string ⟨#[]⟩);rw[←hW]at hX⊢;obtain⟨⟨u0,u1,u2⟩,_⟩:=zbo hX;refine bodyPost_ret (v:=.agg #[.int .i64 0,.int .i64 j.now.seq,.string ⟨#[]⟩]) (by simp[results,results85,go_sem,u0,u1,u2]) rfl ⟨by rw[HE.o];rfl,?_,?_⟩
        ·rw[HE.o,hW];exact zw4 u.o q R _ _ _
        ·rw[hW];exact((A2.o.set (.inr (by omega)) 0 _).set (.inr (by omega)) 1 _).set (.inr (by omega)) 2 _
       have F5:=zaa D9;clear D9 B9;have hwp:=L3.o;have F3:B<W4.heap.size:=by omega
       have K:w.heap.size+1<W4.heap.size:=by omega
       obtain⟨⟨n,l,m,y3,y4,y5,y6,y7,y8,y9⟩,_⟩:=zaj S.o;have Q0:=zaa n;have Q1:=zaa l;have Q2:=zaa m;have Q3:=zaa y3;have Q4:=zaa y4;have Q5:=zaa y5;have Q6:=zaa y6;have Q7:=zaa y7;have Q8:=zaa y8;have Q9:=zaa y9;clear n l m y3 y4 y5 y6 y7 y8 y9;refine(show∀A0:Act,A0=_→Code.wp prog _ _ A0 _ from fun A0 hA0=>?_) _ rfl;have I:A0.tmps.size=67:=by rw[hA0];rfl
       have E4:A0.defers=[]:=by rw[hA0]
       have v0:A0.eval (.tmp 0)=.pointer (some ⟨B,0,none⟩):=by rw[hA0];rfl
       have v2:A0.eval (.tmp 2)=.pointer (some ⟨w.heap.size,0,none⟩):=by rw[hA0];rfl
       have v3:A0.eval (.tmp 3)=.pointer (some ⟨w.heap.size+1,0,none⟩):=by rw[hA0];rfl
       have v5:A0.eval (.tmp 5)=.slice ya cS.length yc:=by rw[hA0];rfl
       clear hA0;refine zbi 10 (fun w'=>(∃s,JAt w' B (w.heap.size::X) {j with rh:=sH,ru:=sU,sealed:=s})∧ButL [B] W4.heap.size W4 w') [46,47,48,49,50,51,52,53,54,54] (zt5 B (w.heap.size+1) j (w.heap.size::X) c Z d b ne U sH sU) (by kernel_rfl) (by kernel_rfl) (by kernel_rfl) (by kernel_rfl) (by decide) (⟨⟨_,L2.o.below (Below.refl _ _).drew⟩,ButL.of_below (Below.refl _ _).drew⟩) ⟨?_,?_,?_,?_,?_,?_,?_,?_,?_,?_,trivial⟩ ?_
       ·exact zbh v0 I (fun _=>rfl) fun ρ w' A z=>by simp only[execOp];go_simp
       ·exact zbh v0 I (fun _=>rfl) fun ρ w' A z=>by simp only[execOp];go_simp
       ·exact zbh v3 I (fun _=>rfl) fun ρ w' A z=>by have c0:w'.cell? ⟨w.heap.size+1,0,none⟩=some (.int .i64 j.now.seq):=(zaj ((A.2.block _ K (by simpa using L)).trans S.o)).1.1;have c1:w'.cell? ⟨w.heap.size+1,1,none⟩=some (.slice c j.now.info.length Z):=(zaj ((A.2.block _ K (by simpa using L)).trans S.o)).1.2.1;have c2:w'.cell? ⟨w.heap.size+1,2,none⟩=some (.slice d j.now.data.length b):=(zaj ((A.2.block _ K (by simpa using L)).trans S.o)).1.2.2.1;have c3:w'.cell? ⟨w.heap.size+1,3,none⟩=some (.slice ne j.now.rev.length U):=(zaj ((A.2.block _ K (by simpa using L)).trans S.o)).1.2.2.2.1;have c4:w'.cell? ⟨w.heap.size+1,4,none⟩=some (.bool j.now.h0.on):=(zaj ((A.2.block _ K (by simpa using L)).trans S.o)).1.2.2.2.2.1;have c5:w'.cell? ⟨w.heap.size+1,5,none⟩=some (.int .i64 j.now.h0.left):=(zaj ((A.2.block _ K (by simpa using L)).trans S.o)).1.2.2.2.2.2.1;have c6:w'.cell? ⟨w.heap.size+1,6,none⟩=some (.bool j.now.h1.on):=(zaj ((A.2.block _ K (by simpa using L)).trans S.o)).1.2.2.2.2.2.2.1;have c7:w'.cell? ⟨w.heap.size+1,7,none⟩=some (.int .i64 j.now.h1.left):=(zaj ((A.2.block _ K (by simpa using L)).trans S.o)).1.2.2.2.2.2.2.2.1;have c8:w'.cell? ⟨w.heap.size+1,8,none⟩=some (.bool j.now.h2.on):=(zaj ((A.2.block _ K (by simpa using L)).trans S.o)).1.2.2.2.2.2.2.2.2.1;have c9:w'.cell? ⟨w.heap.size+1,9,none⟩=some (.int .i64 j.now.h2.left):=(zaj ((A.2.block _ K (by simpa using L)).trans S.o)).1.2.2.2.2.2.2.2.2.2;simp only[execOp];go_simp
       ·exact zbh v3 I (fun _=>rfl) fun ρ w' A z=>by simp only[execOp];go_simp
       ·exact zam 3 49 I (fun _ _ h=>h) (fun _=>rfl) fun ρ w' A p=>by have c0:w'.cell? ⟨w.heap.size+1,0,none⟩=some (.int .i64 j.now.seq):=(zaj ((A.2.block _ K (by simpa using L)).trans S.o)).1.1;simp only[execOp];go_simp
       ·intro a w' F A J;have p50:a.eval (.tmp 50)=.int .i64 j.now.seq:=J ⟨4,.data⟩ (by simp) rfl;exact zf6 _ rfl rfl (by have J4:=Act.eval_const a (.int .i64 1);revert p50 J4;generalize a.eval=ρ;intro p50 J4;simp only[execOp];go_simp) F I A rfl
       ·exact zam 5 51 I (fun _ _ h=>h) (fun _=>rfl) fun ρ w' A p=>by simp only[execOp];go_simp
       ·exact zam 0 46 I (fun _ _ h=>h) (fun _=>rfl) fun ρ w' A p=>by simp only[execOp];go_simp
       ·exact zam 7 53 I (fun _ _ h=>h) (fun _=>rfl) fun ρ w' A p=>by simp only[execOp];go_simp
       ·intro a w' F A J;have p54:a.eval (.tmp 54)=.pointer (some ⟨B,41,none⟩):=J ⟨8,.data⟩ (by simp) rfl;have p48:a.eval (.tmp 48)=.agg #[.int .i64 j.now.seq,.slice c j.now.info.length Z,.slice d j.now.data.length b,.slice ne j.now.rev.length U,.bool j.now.h0.on,.int .i64 j.now.h0.left,.bool j.now.h1.on,.int .i64 j.now.h1.left,.bool j.now.h2.on,.int .i64 j.now.h2.left]:=J ⟨2,.data⟩ (by simp) rfl;obtain⟨⟨s,G2⟩,J2⟩:=A;obtain⟨_,G3,E7,H1,F9,E2,D5,C9,E0,D7,D6,C7,E1,C1,D1,C6,C5,G9,E8,G1,F2,F4,E6,D,_⟩:=id G2;have R1:w'.cell? ⟨B,41,none⟩=some (.int .i64 s.seq):=zak D 41;have M9:w'.frozen? ⟨B,41,none⟩=false:=frozen_of_row w' _ _ _ _ D;have S3:w'.cell? ⟨B,42,none⟩=some (.slice C7 s.info.length E1):=zak D 42;have N5:w'.frozen? ⟨B,42,none⟩=false:=frozen_of_row w' _ _ _ _ D;have O9:w'.cell? ⟨B,43,none⟩=some (.slice C1 s.data.length D1):=zak D 43;have M6:w'.frozen? ⟨B,43,none⟩=false:=frozen_of_row w' _ _ _ _ D;have R2:w'.cell? ⟨B,44,none⟩=some (.slice C6 s.rev.length C5):=zak D 44;have M7:w'.frozen? ⟨B,44,none⟩=false:=frozen_of_row w' _ _ _ _ D;have P0:w'.cell? ⟨B,45,none⟩=some (.bool s.h0.on):=zak D 45;have N6:w'.frozen? ⟨B,45,none⟩=false:=frozen_of_row w' _ _ _ _ D;have S4:w'.cell? ⟨B,46,none⟩=some (.int .i64 s.h0.left):=zak D 46;have O6:w'.frozen? ⟨B,46,none⟩=false:=frozen_of_row w' _ _ _ _ D;have R6:w'.cell? ⟨B,47,none⟩=some (.bool s.h1.on):=zak D 47;have O1:w'.frozen? ⟨B,47,none⟩=false:=frozen_of_row w' _ _ _ _ D;have O8:w'.cell? ⟨B,48,none⟩=some (.int .i64 s.h1.left):=zak D 48;have O3:w'.frozen? ⟨B,48,none⟩=false:=frozen_of_row w' _ _ _ _ D;have S6:w'.cell? ⟨B,49,none⟩=some (.bool s.h2.on):=zak D 49;have O4:w'.frozen? ⟨B,49,none⟩=false:=frozen_of_row w' _ _ _ _ D;have P4:w'.cell? ⟨B,50,none⟩=some (.int .i64 s.h2.left):=zak D 50;have O5:w'.frozen? ⟨B,50,none⟩=false:=frozen_of_row w' _ _ _ _ D;have I3:IsTx (zas w' (w.heap.size::X)) (.agg #[.int .i64 j.now.seq,.slice c j.now.info.length Z,.slice d j.now.data.length b,.slice ne j.now.rev.length U,.bool j.now.h0.on,.int .i64 j.now.h0.left,.bool j.now.h1.on,.int .i64 j.now.h1.left,.bool j.now.h2.on,.int .i64 j.now.h2.left]) j.now:=L0.o.ext (Ext.butL (J2.wider (Y:=(w.heap.size::X)) (by simp[R])))
        refine zcw rfl rfl (w':=((((((((((w'.setCell ⟨B,41,none⟩ (.int .i64 j.now.seq)).setCell ⟨B,42,none⟩ (.slice c j.now.info.length Z)).setCell ⟨B,43,none⟩ (.slice d j.now.data.length b)).setCell ⟨B,44,none⟩ (.slice ne j.now.rev.length U)).setCell ⟨B,45,none⟩ (.bool j.now.h0.on)).setCell ⟨B,46,none⟩ (.int .i64 j.now.h0.left)).setCell ⟨B,47,none⟩ (.bool j.now.h1.on)).setCell ⟨B,48,none⟩ (.int .i64 j.now.h1.left)).setCell ⟨B,49,none⟩ (.bool j.now.h2.on)).setCell ⟨B,50,none⟩ (.int .i64 j.now.h2.left))) (by revert p54 p48;generalize a.eval=ρ;intro p54 p48;simp only[execOp];go_simp) ⟨_,rfl,⟨⟨_,G2.putSealed I3⟩,?_⟩,?_,?_⟩
        ·exact(((((((((J2.set (.inl (by simp)) 41 _).set (.inl (by simp)) 42 _).set (.inl (by simp)) 43 _).set (.inl (by simp)) 44 _).set (.inl (by simp)) 45 _).set (.inl (by simp)) 46 _).set (.inl (by simp)) 47 _).set (.inl (by simp)) 48 _).set (.inl (by simp)) 49 _).set (.inl (by simp)) 50 _
        ·exact G2.putSealed I3
        ·exact zt6
       ·intro a W F A J;have H3:a.eval (.tmp 47)=.pointer (some ⟨B,0,none⟩):=J 1 (by decide);have P2:a.eval (.tmp 48)=.agg #[.int .i64 j.now.seq,.slice c j.now.info.length Z,.slice d j.now.data.length b,.slice ne j.now.rev.length U,.bool j.now.h0.on,.int .i64 j.now.h0.left,.bool j.now.h1.on,.int .i64 j.now.h1.left,.bool j.now.h2.on,.int .i64 j.now.h2.left]:=J 2 (by decide);have K8:a.eval (.tmp 52)=.agg #[.int .i64 (j.now.seq+1),.slice none 0 0,.slice none 0 0,.slice none 0 0,.bool false,.int .i64 0,.bool false,.int .i64 0,.bool false,.int .i64 0]:=J 6 (by decide);have R9:a.eval (.tmp 54)=.pointer (some ⟨B,41,none⟩):=J 8 (by decide);have H7:JAt W B (w.heap.size::X) {j with rh:=sH,ru:=sU,sealed:=j.now}:=J 9 (by decide);obtain⟨_,G3,E7,H1,F9,E2,D5,C9,E0,D7,D6,C7,E1,C1,D1,C6,C5,G9,E8,G1,F2,F4,E6,D,_⟩:=id H7;have L5:W.cell? ⟨B,31,none⟩=some (.int .i64 j.now.seq):=zak D 31;have N7:W.frozen? ⟨B,31,none⟩=false:=frozen_of_row W _ _ _ _ D;have M0:W.cell? ⟨B,32,none⟩=some (.slice E2 j.now.info.length D5):=zak D 32;have O7:W.frozen? ⟨B,32,none⟩=false:=frozen_of_row W _ _ _ _ D;have K7:W.cell? ⟨B,33,none⟩=some (.slice C9 j.now.data.length E0):=zak D 33;have O2:W.frozen? ⟨B,33,none⟩=false:=frozen_of_row W _ _ _ _ D;have J9:W.cell? ⟨B,34,none⟩=some (.slice D7 j.now.rev.length D6):=zak D 34;have M8:W.frozen? ⟨B,34,none⟩=false:=frozen_of_row W _ _ _ _ D;have K9:W.cell? ⟨B,35,none⟩=some (.bool j.now.h0.on):=zak D 35;have N0:W.frozen? ⟨B,35,none⟩=false:=frozen_of_row W _ _ _ _ D;have K2:W.cell? ⟨B,36,none⟩=some (.int .i64 j.now.h0.left):=zak D 36;have N8:W.frozen? ⟨B,36,none⟩=false:=frozen_of_row W _ _ _ _ D;have J8:W.cell? ⟨B,37,none⟩=some (.bool j.now.h1.on):=zak D 37;have N4:W.frozen? ⟨B,37,none⟩=false:=frozen_of_row W _ _ _ _ D;have K6:W.cell? ⟨B,38,none⟩=some (.int .i64 j.now.h1.left):=zak D 38;have O0:W.frozen? ⟨B,38,none⟩=false:=frozen_of_row W _ _ _ _ D;have K5:W.cell? ⟨B,39,none⟩=some (.bool j.now.h2.on):=zak D 39
        have N2:W.frozen? ⟨B,39,none⟩=false:=frozen_of_row W _ _ _ _ D;have M4:W.cell? ⟨B,40,none⟩=some (.int .i64 j.now.h2.left):=zak D 40;have N1:W.frozen? ⟨B,40,none⟩=false:=frozen_of_row W _ _ _ _ D;show wpOps prog _ _ [10,11,12] a W;have B5:a.tmps.size=67:=F.size.trans I;rw[wpOps_cons];refine zbb (.pointer (some ⟨B,0,none⟩)) rfl rfl (by revert H3;generalize a.eval=ρ;intro H3;simp only[execOp];go_simp) ?_;obtain⟨b1,N⟩:∃b1,b1=a.put (some 55) (.pointer (some ⟨B,0,none⟩)):=⟨_,rfl⟩;have H9:b1.eval (.tmp 55)=.pointer (some ⟨B,0,none⟩):=by rw[N];exact Act.eval_put_same _ _ _ (by rw[B5];decide)
        have M1:b1.eval (.tmp 52)=.agg #[.int .i64 (j.now.seq+1),.slice none 0 0,.slice none 0 0,.slice none 0 0,.bool false,.int .i64 0,.bool false,.int .i64 0,.bool false,.int .i64 0]:=by rw[N,Act.eval_put_ne _ _ _ _ (by decide)];exact K8
        show wpOps prog _ _ [11,12] (a.put (some 55) (.pointer (some ⟨B,0,none⟩))) W;rw[←N,wpOps_cons];refine zbb (.pointer (some ⟨B,31,none⟩)) rfl rfl (by revert H9;generalize b1.eval=ρ;intro H9;simp only[execOp];go_simp) ?_;obtain⟨b2,C⟩:∃b2,b2=b1.put (some 56) (.pointer (some ⟨B,31,none⟩)):=⟨_,rfl⟩;have I8:b1.tmps.size=67:=by rw[N,Act.size_put];exact B5
        have I9:b2.eval (.tmp 56)=.pointer (some ⟨B,31,none⟩):=by rw[C];exact Act.eval_put_same _ _ _ (by rw[I8];decide)
        have J3:b2.eval (.tmp 52)=.agg #[.int .i64 (j.now.seq+1),.slice none 0 0,.slice none 0 0,.slice none 0 0,.bool false,.int .i64 0,.bool false,.int .i64 0,.bool false,.int .i64 0]:=by rw[C,Act.eval_put_ne _ _ _ _ (by decide)];exact M1
        show wpOps prog _ _ [12] (b1.put (some 56) (.pointer (some ⟨B,31,none⟩))) W;rw[←C,wpOps_cons];refine zcw rfl rfl (w':=((((((((((W.setCell ⟨B,31,none⟩ (.int .i64 (j.now.seq+1))).setCell ⟨B,32,none⟩ (.slice none 0 0)).setCell ⟨B,33,none⟩ (.slice none 0 0)).setCell ⟨B,34,none⟩ (.slice none 0 0)).setCell ⟨B,35,none⟩ (.bool false)).setCell ⟨B,36,none⟩ (.int .i64 0)).setCell ⟨B,37,none⟩ (.bool false)).setCell ⟨B,38,none⟩ (.int .i64 0)).setCell ⟨B,39,none⟩ (.bool false)).setCell ⟨B,40,none⟩ (.int .i64 0))) (by revert I9 J3;generalize b2.eval=ρ;intro I9 J3;simp only[execOp];go_simp) ?_;have f0:b2.eval (.tmp 0)=.pointer (some ⟨B,0,none⟩):=by rw[C,Act.eval_put_ne _ _ _ _ (by decide),N,Act.eval_put_ne _ _ _ _ (by decide)];exact(F.other 0 rfl).trans v0
        have f2:b2.eval (.tmp 2)=.pointer (some ⟨w.heap.size,0,none⟩):=by rw[C,Act.eval_put_ne _ _ _ _ (by decide),N,Act.eval_put_ne _ _ _ _ (by decide)];exact(F.other 2 rfl).trans v2
        have f3:b2.eval (.tmp 3)=.pointer (some ⟨w.heap.size+1,0,none⟩):=by rw[C,Act.eval_put_ne _ _ _ _ (by decide),N,Act.eval_put_ne _ _ _ _ (by decide)];exact(F.other 3 rfl).trans v3
        have f5:b2.eval (.tmp 5)=.slice ya cS.length yc:=by rw[C,Act.eval_put_ne _ _ _ _ (by decide),N,Act.eval_put_ne _ _ _ _ (by decide)];exact(F.other 5 rfl).trans v5
        have A3:b2=⟨#[_,_,_,_,_,_,_,_,_,_,_,_,_,_,_,_,_,_,_,_,_,_,_,_,_,_,_,_,_,_,_,_,_,_,_,_,_,_,_,_,_,_,_,_,_,_,_,_,_,_,_,_,_,_,_,_,_,_,_,_,_,_,_,_,_,_,_],[]⟩:=zci b2 67 (by rw[C,Act.size_put];exact I8) (by rw[C,Act.defers_put',N,Act.defers_put'];exact F.defers.trans E4);dsimp only at A3;rw[f0,f2,f3,f5]at A3;show F1 b2 _;exact(congrArg (fun x=>F1 x _) A3).mpr (F5.o (fun k=>b2.eval (.tmp k)) _ (H7.putNow (t:=zc5 (j.now.seq+1)) (zq6 _ _) (z24 _)) ((((((((((A.2.set (.inl (by simp)) 31 _).set (.inl (by simp)) 32 _).set (.inl (by simp)) 33 _).set (.inl (by simp)) 34 _).set (.inl (by simp)) 35 _).set (.inl (by simp)) 36 _).set (.inl (by simp)) 37 _).set (.inl (by simp)) 38 _).set (.inl (by simp)) 39 _).set (.inl (by simp)) 40 _))
      ·have HE:Hid (zcm j=(j,zaq (sealE j.rh j.ru j.now))):=by rw[Hid,G0.o,if_neg he]
       have P7:(sealE j.rh j.ru j.now !=0)=true:=by simpa using he
       clear he;generalize sealE j.rh j.ru j.now=E at *;go_wp2_with fail;have i:=C8;have M:=G7;have KR:=F6;have A1:=J6;refine(zat E _).mono ?_;rintro e w2 ⟨rfl,C⟩;have O:=zaa (zad C A1 KR.o);have u:=zaa (i.o.below C);have A2:=zaa (M.o.trans (Y:=[]) (ButL.of_below C) M.o.size (by simp));clear C;obtain⟨⟨n,l,m⟩,yf⟩:=zbo O.o;go_wp2;exact zbe HE.o O.o u.o A2.o q R fun W u0 u1 u2=>by simp[results,results85,go_sem,u0,u1,u2]
     have H2:=zaa E9;clear E9 G6;have K0:Hid (IsTx (zas Q (w.heap.size::X)) (.agg #[.int .i64 j.now.seq,.slice c j.now.info.length Z,.slice d j.now.data.length b,.slice ne j.now.rev.length U,.bool j.now.h0.on,.int .i64 j.now.h0.left,.bool j.now.h1.on,.int .i64 j.now.h1.left,.bool j.now.h2.on,.int .i64 j.now.h2.left]) j.now):=H0.o.ext (Ext.newL B8.o (Nat.le_refl _));obtain⟨c3,c4⟩:=B3.o.ring;have C3:=zaa c3;have C4:=zaa c4;clear c3 c4;obtain⟨⟨n,l,m,y3,y4,y5,y6,y7,y8,y9⟩,_⟩:=zaj C0.o;have Q0:=zaa n;have Q1:=zaa l;have Q2:=zaa m;have Q3:=zaa y3;have Q4:=zaa y4;have Q5:=zaa y5;have Q6:=zaa y6;have Q7:=zaa y7;have Q8:=zaa y8;have Q9:=zaa y9;clear n l m y3 y4 y5 y6 y7 y8 y9;have F3:B<Q.heap.size:=by omega
     have K:w.heap.size+1<Q.heap.size:=by omega
     have M2:Hid (∀x∈(w.heap.size::X),x<Q.heap.size):=fun x hx=>by
      rcases List.mem_cons.1 hx with rfl|hx
      ·exact B1
      ·have:=HX.o x hx;omega
     refine(show∀A0:Act,A0=_→Code.wp prog _ _ A0 _ from fun A0 hA0=>?_) _ rfl;have I:A0.tmps.size=67:=by rw[hA0];rfl
     have E4:A0.defers=[]:=by rw[hA0]
     have v0:A0.eval (.tmp 0)=.pointer (some ⟨B,0,none⟩):=by rw[hA0];rfl
     have v2:A0.eval (.tmp 2)=.pointer (some ⟨w.heap.size,0,none⟩):=by rw[hA0];rfl
     have v3:A0.eval (.tmp 3)=.pointer (some ⟨w.heap.size+1,0,none⟩):=by rw[hA0];rfl
     have v4:A0.eval (.tmp 4)=undef:=by rw[hA0];rfl
     clear hA0;refine zde 13 4 (z1j Q) [29,30,31,32,33,34,28,35,36,37,4,4,5] (zd0 B j (w.heap.size::X) c Z d b ne U) (by kernel_rfl) (by kernel_rfl) (by kernel_rfl) (by kernel_rfl) (by decide) (⟨(Below.refl _ _).drew,.inl v4⟩) ⟨?_,?_,?_,?_,?_,?_,?_,?_,?_,?_,?_,?_,?_,trivial⟩ ?_
     ·intro a w' F A J;have z0:=(F.other 0 rfl).trans v0;exact zbx _ rfl rfl (by revert z0;generalize a.eval=ρ;intro z0;simp only[execOp];go_simp) F I A rfl
     ·intro a w' F A J;have p29:a.eval (.tmp 29)=.pointer (some ⟨B,0,none⟩):=J ⟨0,.data⟩ (by simp) rfl;exact zbx _ rfl rfl (by revert p29;generalize a.eval=ρ;intro p29;simp only[execOp];go_simp) F I A rfl
     ·intro a w' F A J;have p30:a.eval (.tmp 30)=.pointer (some ⟨B,0,none⟩):=J ⟨1,.data⟩ (by simp) rfl;exact zbx _ rfl rfl (by revert p30;generalize a.eval=ρ;intro p30;simp only[execOp];go_simp) F I A rfl
     ·intro a w' F A J;have p31:a.eval (.tmp 31)=.pointer (some ⟨B,3,none⟩):=J ⟨2,.data⟩ (by simp) rfl;have c0:w'.cell? ⟨B,3,none⟩=some (.int .i64 j.rh):=zac A.1 F3 C3.o;have c1:w'.cell? ⟨B,4,none⟩=some (.int .i64 j.ru):=zac A.1 F3 C4.o;exact zbx _ rfl rfl (by revert p31;generalize a.eval=ρ;intro p31;simp only[execOp];go_simp) F I A rfl
     ·intro a w' F A J;have z3:=(F.other 3 rfl).trans v3;have c0:w'.cell? ⟨w.heap.size+1,0,none⟩=some (.int .i64 j.now.seq):=zac A.1 K Q0.o;have c1:w'.cell? ⟨w.heap.size+1,1,none⟩=some (.slice c j.now.info.length Z):=zac A.1 K Q1.o;have c2:w'.cell? ⟨w.heap.size+1,2,none⟩=some (.slice d j.now.data.length b):=zac A.1 K Q2.o;have c3:w'.cell? ⟨w.heap.size+1,3,none⟩=some (.slice ne j.now.rev.length U):=zac A.1 K Q3.o;have c4:w'.cell? ⟨w.heap.size+1,4,none⟩=some (.bool j.now.h0.on):=zac A.1 K Q4.o;have c5:w'.cell? ⟨w.heap.size+1,5,none⟩=some (.int .i64 j.now.h0.left):=zac A.1 K Q5.o;have c6:w'.cell? ⟨w.heap.size+1,6,none⟩=some (.bool j.now.h1.on):=zac A.1 K Q6.o;have c7:w'.cell? ⟨w.heap.size+1,7,none⟩=some (.int .i64 j.now.h1.left):=zac A.1 K Q7.o;have c8:w'.cell? ⟨w.heap.size+1,8,none⟩=some (.bool j.now.h2.on):=zac A.1 K Q8.o;have c9:w'.cell? ⟨w.heap.size+1,9,none⟩=some (.int .i64 j.now.h2.left):=zac A.1 K Q9.o;exact zbx _ rfl rfl (by revert z3;generalize a.eval=ρ;intro z3;simp only[execOp];go_simp) F I A rfl
     ·intro a w' F A J;have p32:a.eval (.tmp 32)=.agg #[.int .i64 j.rh,.int .i64 j.ru]:=J ⟨3,.data⟩ (by simp) rfl;have p33:a.eval (.tmp 33)=.agg #[.int .i64 j.now.seq,.slice c j.now.info.length Z,.slice d j.now.data.length b,.slice ne j.now.rev.length U,.bool j.now.h0.on,.int .i64 j.now.h0.left,.bool j.now.h1.on,.int .i64 j.now.h1.left,.bool j.now.h2.on,.int .i64 j.now.h2.left]:=J ⟨4,.data⟩ (by simp) rfl;refine zby 125 #[.agg #[.int .i64 j.rh,.int .i64 j.ru],.agg #[.int .i64 j.now.seq,.slice c j.now.info.length Z,.slice d j.now.data.length b,.slice ne j.now.rev.length U,.bool j.now.h0.on,.int .i64 j.now.h0.left,.bool j.now.h1.on,.int .i64 j.now.h1.left,.bool j.now.h2.on,.int .i64 j.now.h2.left]] rfl rfl (by have pf:=Act.eval_func a 125;revert p32 p33 pf;generalize a.eval=ρ;intro p32 p33 pf;simp only[execOp];go_simp) _ (zt3 j.rh j.ru j.now c Z d b ne U _ ((K0.o.ext (Ext.seenL Q _)).below A.1) L6.o r1 r2) ?_;rintro e w2 ⟨a2,c2,rfl,L1,C,L9⟩;refine⟨_,rfl,_,rfl,?_,?_,?_⟩
      ·show z1j Q ((a.put (some 34) _).eval (.tmp 4)) w2;rw[Act.eval_put_ne _ _ _ _ (by decide)];exact zxx A C
      ·show zd0 _ _ _ _ _ _ _ _ _ _ ((a.put (some 34) _).eval (.tmp 34)) ((a.put (some 34) _).eval (.tmp 4)) w2;rw[zax F I (by decide),Act.eval_put_ne _ _ _ _ (by decide)];exact⟨_,rfl,okSt.made M2.o A L1 L9⟩
      ·intro kk x hk h;show zd0 _ _ _ _ _ _ _ _ _ kk x ((a.put (some 34) _).eval (.tmp 4)) w2;rw[Act.eval_put_ne _ _ _ _ (by decide)];exact zrv C kk x h
     ·intro a w' F A J;obtain⟨x,pc,ok⟩:∃x,a.eval (.tmp 34)=.tuple #[.agg #[.int .i64 (zcf j.rh j.ru j.now),.int .i64 (zca j.rh j.ru j.now)],x,.int .i64 (sealE j.rh j.ru j.now)]∧okSt (w.heap.size::X) (commitS j.rh j.ru j.now) x (a.eval (.tmp 4)) w':=J ⟨5,.data⟩ (by simp) rfl;refine zbb (.tuple #[.agg #[.int .i64 (zcf j.rh j.ru j.now),.int .i64 (zca j.rh j.ru j.now)],x,.int .i64 (sealE j.rh j.ru j.now)]) rfl rfl (by revert pc;generalize a.eval=ρ;intro pc;simp only[execOp];go_simp) ⟨_,rfl,?_,?_,?_⟩
      ·show z1j Q ((a.put (some 28) _).eval (.tmp 4)) w';rw[Act.eval_put_ne _ _ _ _ (by decide)];exact A
      ·show zd0 _ _ _ _ _ _ _ _ _ _ ((a.put (some 28) _).eval (.tmp 28)) ((a.put (some 28) _).eval (.tmp 4)) w';rw[zax F I (by decide),Act.eval_put_ne _ _ _ _ (by decide)];exact⟨x,rfl,ok⟩
      ·intro kk x hk h;show zd0 _ _ _ _ _ _ _ _ _ kk x ((a.put (some 28) _).eval (.tmp 4)) w';rw[Act.eval_put_ne _ _ _ _ (by decide)];exact h
     ·intro a w' F A J;obtain⟨x,pm,ok⟩:∃x,a.eval (.tmp 28)=.tuple #[.agg #[.int .i64 (zcf j.rh j.ru j.now),.int .i64 (zca j.rh j.ru j.now)],x,.int .i64 (sealE j.rh j.ru j.now)]∧okSt (w.heap.size::X) (commitS j.rh j.ru j.now) x (a.eval (.tmp 4)) w':=J ⟨6,.data⟩ (by simp) rfl;exact zbx _ rfl rfl (by revert pm;generalize a.eval=ρ;intro pm;simp only[execOp];go_simp) F I A rfl
     ·intro a w' F A J;obtain⟨x,pm,ok⟩:∃x,a.eval (.tmp 28)=.tuple #[.agg #[.int .i64 (zcf j.rh j.ru j.now),.int .i64 (zca j.rh j.ru j.now)],x,.int .i64 (sealE j.rh j.ru j.now)]∧okSt (w.heap.size::X) (commitS j.rh j.ru j.now) x (a.eval (.tmp 4)) w':=J ⟨6,.data⟩ (by simp) rfl;refine zbb (x) rfl rfl (by revert pm;generalize a.eval=ρ;intro pm;simp only[execOp];go_simp) ⟨_,rfl,?_,?_,?_⟩
      ·show z1j Q ((a.put (some 36) _).eval (.tmp 4)) w';rw[Act.eval_put_ne _ _ _ _ (by decide)];exact A
      ·show zd0 _ _ _ _ _ _ _ _ _ _ ((a.put (some 36) _).eval (.tmp 36)) ((a.put (some 36) _).eval (.tmp 4)) w';rw[zax F I (by decide),Act.eval_put_ne _ _ _ _ (by decide)];exact ok
      ·intro kk x hk h;show zd0 _ _ _ _ _ _ _ _ _ kk x ((a.put (some 36) _).eval (.tmp 4)) w';rw[Act.eval_put_ne _ _ _ _ (by decide)];exact h
     ·intro a w' F A J;obtain⟨x,pm,ok⟩:∃x,a.eval (.tmp 28)=.tuple #[.agg #[.int .i64 (zcf j.rh j.ru j.now),.int .i64 (zca j.rh j.ru j.now)],x,.int .i64 (sealE j.rh j.ru j.now)]∧okSt (w.heap.size::X) (commitS j.rh j.ru j.now) x (a.eval (.tmp 4)) w':=J ⟨6,.data⟩ (by simp) rfl;exact zbx _ rfl rfl (by revert pm;generalize a.eval=ρ;intro pm;simp only[execOp];go_simp) F I A rfl
     ·intro a w' F A J;refine zgj (.pointer (some ⟨w'.heap.size,0,none⟩)) rfl rfl (w':=w'.alloc (.cells #[.int .i64 0,.int .i64 0] 26)) (by simp only[execOp];go_simp) ⟨_,rfl,?_,?_,?_⟩
      ·show z1j Q ((a.put (some 4) _).eval (.tmp 4)) _;rw[zax F I (by decide)];exact⟨A.1.alloc A.1.size _,.inr ⟨_,rfl,A.1.size,by simp,_,_,heap_alloc_new _ _⟩⟩
      ·show zd0 _ _ _ _ _ _ _ _ _ _ ((a.put (some 4) _).eval (.tmp 4)) ((a.put (some 4) _).eval (.tmp 4)) _;rw[zax F I (by decide)];exact⟨_,rfl⟩
      ·intro kk x hk h;show zd0 _ _ _ _ _ _ _ _ _ kk x ((a.put (some 4) _).eval (.tmp 4)) _;rw[zax F I (by decide)];exact zrw _ kk x h
     ·intro a w' F A J;obtain⟨T,pT⟩:∃T,a.eval (.tmp 4)=.pointer (some ⟨T,0,none⟩):=J ⟨10,.data⟩ (by simp) rfl;have p0:a.eval (.tmp 35)=.agg #[.int .i64 (zcf j.rh j.ru j.now),.int .i64 (zca j.rh j.ru j.now)]:=J ⟨7,.data⟩ (by simp) rfl
      obtain⟨A9,K1,c0,c1,A5⟩:Q.heap.size≤T∧T<w'.heap.size∧∃c0 c1,w'.heap[T]?=some (.cells #[c0,c1] 26 (0,0)):=by
       rcases A.2 with h0|⟨T',e,h3,h4,h5⟩
       ·rw[h0]at pT;cases pT
       ·rw[e]at pT;cases pT;exact⟨h3,h4,h5⟩
      obtain⟨⟨t0,t1⟩,tf⟩:=zgr A5;refine zcw rfl rfl (w':=((w'.setCell ⟨T,0,none⟩ (.int .i64 (zcf j.rh j.ru j.now))).setCell ⟨T,1,none⟩ (.int .i64 (zca j.rh j.ru j.now)))) (by revert pT p0;generalize a.eval=ρ;intro pT p0;simp only[execOp];go_simp) ⟨_,rfl,?_,?_,?_⟩
      ·show z1j Q (a.eval (.tmp 4)) _;exact⟨(A.1.setCell (p:=⟨T,0,none⟩) A9 _).setCell (p:=⟨T,1,none⟩) A9 _,.inr ⟨T,pT,A9,by simpa[World.setCell] using K1,_,_,zjo A5 _ _⟩⟩
      ·show zd0 _ _ _ _ _ _ _ _ _ _ (a.eval (.tmp 4)) (a.eval (.tmp 4)) _;exact⟨T,pT,zjo A5 _ _⟩
      ·intro kk x hk h;show zd0 _ _ _ _ _ _ _ _ _ kk x (a.eval (.tmp 4)) _;rw[pT]at h⊢;exact zrx (fun x h=>h.store _ _) kk x hk h
     ·intro a w' F A J;have ok:okSt (w.heap.size::X) (commitS j.rh j.ru j.now) (a.eval (.tmp 36)) (a.eval (.tmp 4)) w':=J ⟨8,.data⟩ (by simp) rfl;obtain⟨y,hy⟩:∃y,y=a.eval (.tmp 36):=⟨_,rfl⟩;rw[←hy]at ok;have py:=hy.symm;refine zbb y rfl rfl (by revert py;generalize a.eval=ρ;intro py;simp only[execOp];go_simp) ⟨_,rfl,?_,?_,?_⟩
      ·show z1j Q ((a.put (some 5) _).eval (.tmp 4)) w';rw[Act.eval_put_ne _ _ _ _ (by decide)];exact A
      ·show zd0 _ _ _ _ _ _ _ _ _ _ ((a.put (some 5) _).eval (.tmp 5)) ((a.put (some 5) _).eval (.tmp 4)) w';rw[zax F I (by decide),Act.eval_put_ne _ _ _ _ (by decide)];exact ok
      ·intro kk x hk h;show zd0 _ _ _ _ _ _ _ _ _ kk x ((a.put (some 5) _).eval (.tmp 4)) w';rw[Act.eval_put_ne _ _ _ _ (by decide)];exact h
     ·intro a W F A J;obtain⟨T,pT,A5⟩:∃T,a.eval (.tmp 4)=.pointer (some ⟨T,0,none⟩)∧W.heap[T]?=some (.cells #[.int .i64 (zcf j.rh j.ru j.now),.int .i64 (zca j.rh j.ru j.now)] 26 (0,0)):=J 11 (by decide);obtain⟨ya,yc,pS,D4,C2,_⟩:okSt (w.heap.size::X) (commitS j.rh j.ru j.now) (a.eval (.tmp 5)) (a.eval (.tmp 4)) W:=J 12 (by decide);have pE:a.eval (.tmp 37)=.int .i64 (sealE j.rh j.ru j.now):=J 9 (by decide)
      have A9:Q.heap.size≤T:=by
       rcases A.2 with h0|⟨T',e,h3,h4,h5⟩
       ·rw[h0]at pT;cases pT
       ·rw[e]at pT;cases pT;exact h3
      show wpOps prog _ _ [13] a W;rw[wpOps_cons];refine zbb (.int .i64 (sealE j.rh j.ru j.now)) rfl rfl (by revert pE;generalize a.eval=ρ;intro pE;simp only[execOp];go_simp) ?_;have B5:a.tmps.size=67:=F.size.trans I;obtain⟨a2,A4⟩:∃a2,a2=a.put (some 6) (.int .i64 (sealE j.rh j.ru j.now)):=⟨_,rfl⟩;have f6:a2.eval (.tmp 6)=.int .i64 (sealE j.rh j.ru j.now):=by rw[A4];exact Act.eval_put_same _ _ _ (by rw[B5];decide)
      have f0:a2.eval (.tmp 0)=.pointer (some ⟨B,0,none⟩):=by rw[A4,Act.eval_put_ne _ _ _ _ (by decide)];exact(F.other 0 rfl).trans v0
      have f2:a2.eval (.tmp 2)=.pointer (some ⟨w.heap.size,0,none⟩):=by rw[A4,Act.eval_put_ne _ _ _ _ (by decide)];exact(F.other 2 rfl).trans v2
      have f3:a2.eval (.tmp 3)=.pointer (some ⟨w.heap.size+1,0,none⟩):=by rw[A4,Act.eval_put_ne _ _ _ _ (by decide)];exact(F.other 3 rfl).trans v3
      have f4:a2.eval (.tmp 4)=.pointer (some ⟨T,0,none⟩):=by rw[A4,Act.eval_put_ne _ _ _ _ (by decide)];exact pT
      have f5:a2.eval (.tmp 5)=.slice ya (commitS j.rh j.ru j.now).length yc:=by rw[A4,Act.eval_put_ne _ _ _ _ (by decide)];exact pS
      have A3:a2=⟨#[_,_,_,_,_,_,_,_,_,_,_,_,_,_,_,_,_,_,_,_,_,_,_,_,_,_,_,_,_,_,_,_,_,_,_,_,_,_,_,_,_,_,_,_,_,_,_,_,_,_,_,_,_,_,_,_,_,_,_,_,_,_,_,_,_,_,_],[]⟩:=zci a2 67 (by rw[A4,Act.size_put];exact B5) (by rw[A4,Act.defers_put'];exact F.defers.trans E4);dsimp only at A3;rw[f0,f2,f3,f4,f5,f6]at A3;show KK (a.put (some 6) (.int .i64 (sealE j.rh j.ru j.now))) _;rw[←A4];exact(congrArg (fun x=>KK x _) A3).mpr (H2.o (fun k=>a2.eval (.tmp k)) _ T ya yc A5 C2 D4 A9 A.1)
