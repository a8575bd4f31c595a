/-
  
-/
import Derived.Test.YtjnpndfpajjihacGreatGrTopOrdered40
import Derived.Test.YtjnpndfpajjihacGreatGrTopOrdered45
set_option maxRecDepth 100000
set_option maxHeartbeats 40000000
namespace Go.Proofs.YtjnpndfpajjihacGreat
open Go.RowKit
theorem zt7(rh ru:Int)(t:Tx)(na:Option Addr)(nc:Nat)(nb:Option Addr)(nd:Nat)(ne:Option Addr)(nf:Nat)(w:World)(hT:IsTx w (.agg #[.int .i64 t.seq,.slice na t.info.length nc,.slice nb t.data.length nd,.slice ne t.rev.length nf,.bool t.h0.on,.int .i64 t.h0.left,.bool t.h1.on,.int .i64 t.h1.left,.bool t.h2.on,.int .i64 t.h2.left]) t)(hR:RoomTx (.agg #[.int .i64 t.seq,.slice na t.info.length nc,.slice nb t.data.length nd,.slice ne t.rev.length nf,.bool t.h0.on,.int .i64 t.h0.left,.bool t.h1.on,.int .i64 t.h1.left,.bool t.h2.on,.int .i64 t.h2.left]))(r1:t.info.length*24≤140737488355328)(r2:t.data.length*24≤140737488355328):
  Calls Tryz.prog 125 #[.agg #[.int .i64 rh,.int .i64 ru],.agg #[.int .i64 t.seq,.slice na t.info.length nc,.slice nb t.data.length nd,.slice ne t.rev.length nf,.bool t.h0.on,.int .i64 t.h0.left,.bool t.h1.on,.int .i64 t.h1.left,.bool t.h2.on,.int .i64 t.h2.left]] w fun e w'=>∃a c,e=.returned (.tuple #[.agg #[.int .i64 (zcl rh ru t),.int .i64 (zce rh ru t)],.slice a (commitS rh ru t).length c,.int .i64 (sealE rh ru t)])∧(commitS rh ru t).length≤c∧Below w.heap.size w w'∧∀Y:List Nat,(∀x∈Y,x<w.heap.size)→SegSt (zau w' Y) a (commitS rh ru t):=by
 by_cases he:sealE rh ru t=0
 ·exact(z0s rh ru t na nb ne nc nd nf w hT hR.is.1 hR.is.2.2 he).mono fun _ _ ⟨a,c,h1,hc,hF,h2,h3⟩=>⟨a,c,h1,hc,h3,fun _ hY=>h2.hideF hF hY⟩
 ·exact(z0o rh ru _ t w hT r1 r2 he).mono fun _ _ ⟨a,c,h1,_,h3⟩=>⟨a,c,h1,by rw[commitS,if_neg he];exact Nat.zero_le _,h3,fun _ _=>.inl (by rw[commitS,if_neg he])⟩
def z1r (W:World)(u:Value)(w:World):Prop:=Below W.heap.size W w∧(u=undef∨∃T,u=.pointer (some ⟨T,0,none⟩)∧W.heap.size≤T∧T<w.heap.size∧∃c0 c1,w.heap[T]?=some (.cells #[c0,c1] 26 (0,0)))
theorem zx0{W:World}{u:Value}{w w':World}(h:z1r W u w)(hb:Below w.heap.size w w'):z1r W u w':=
 ⟨zae h.1 hb,h.2.imp id fun⟨T,h1,h2,h3,c0,c1,h4⟩=>⟨T,h1,h2,Nat.lt_of_lt_of_le h3 hb.size,c0,c1,zad hb h3 h4⟩⟩
def okSt (X:List Nat)(l:List St)(x u:Value)(w:World):Prop:=∃a c,x=.slice a l.length c∧l.length≤c∧SegSt (zau w X) a l∧∀T,u=.pointer (some ⟨T,0,none⟩)→SegSt (zau w (T::X)) a l
theorem okSt.below{X:List Nat}{l:List St}{x u:Value}{w w':World}(h:okSt X l x u w)(hb:Below w.heap.size w w'):okSt X l x u w':=by
 obtain⟨a,c,A,C,D,B⟩:=h;exact⟨a,c,A,C,D.ext (Ext.freshL hb),fun T e=>(B T e).ext (Ext.freshL hb)⟩
theorem okSt.alloc{X:List Nat}{l:List St}{x u:Value}{w:World}(h:okSt X l x u w)(o:Obj):okSt X l x (.pointer (some ⟨w.heap.size,0,none⟩)) (w.alloc o):=by
 obtain⟨a,c,B,C,A,_⟩:=h;exact⟨a,c,B,C,A.ext (Ext.freshL (zaa _ _)),fun T e=>by cases e;exact A.ext (Ext.newL (zaa _ _) (Nat.le_refl _))⟩
theorem okSt.store{X:List Nat}{l:List St}{x:Value}{T:Nat}{w:World}(h:okSt X l x (.pointer (some ⟨T,0,none⟩)) w)(v0 v1:Value):okSt X l x (.pointer (some ⟨T,0,none⟩)) ((w.setCell ⟨T,0,none⟩ (v0)).setCell ⟨T,1,none⟩ (v1)):=by
 obtain⟨a,c,A,C,_,B⟩:=h;have k:=((B T rfl).ext (Ext.setL (X:=T::X) (b:=T) (by simp) 0 v0)).ext (Ext.setL (X:=T::X) (b:=T) (by simp) 1 v1);exact⟨a,c,A,C,k.ext (Ext.lessL T),fun T' e=>by cases e;exact k⟩
theorem okSt.made{X:List Nat}{l:List St}{a:Option Addr}{c:Nat}{u:Value}{W w w2:World}(hX:∀x∈X,x<W.heap.size)(hB:z1r W u w)(hc:l.length≤c)(h:∀Y:List Nat,(∀x∈Y,x<w.heap.size)→SegSt (zau w2 Y) a l):okSt X l (.slice a l.length c) u w2:=by
 have hs:=hB.1.size;refine⟨a,c,rfl,hc,h X (fun x hx=>by have:=hX x hx;omega),fun T e=>h (T::X) (fun x hx=>?_)⟩;rcases List.mem_cons.1 hx with rfl|hx
 ·rcases hB.2 with h0|⟨T',e',h3,h4,_⟩
  ·rw[h0]at e;cases e
  ·rw[e']at e;cases e;exact h4
 ·have:=hX x hx;omega
open Go.Proofs.Tryz
def zt9 (B:Nat)(D:Nat)(j:Jn)(X:List Nat)(na:Option Addr)(nc:Nat)(nb:Option Addr)(nd:Nat)(ne:Option Addr)(nf:Nat)(sH:Int)(sU:Int):Nat→Value→World→Prop
 |0,v,_=>v=.pointer (some ⟨B,0,none⟩)
 |1,v,_=>v=.pointer (some ⟨B,0,none⟩)
 |2,v,_=>v=.agg #[.int .i64 j.now.seq,.slice na j.now.info.length nc,.slice nb j.now.data.length nd,.slice ne j.now.rev.length nf,.bool j.now.h0.on,.int .i64 j.now.h0.left,.bool j.now.h1.on,.int .i64 j.now.h1.left,.bool j.now.h2.on,.int .i64 j.now.h2.left]
 |3,v,_=>v=.pointer (some ⟨D,0,none⟩)
 |4,v,_=>v=.int .i64 j.now.seq
 |5,v,_=>v=.int .i64 (j.now.seq+1)
 |6,v,_=>v=.agg #[.int .i64 (j.now.seq+1),.slice none 0 0,.slice none 0 0,.slice none 0 0,.bool false,.int .i64 0,.bool false,.int .i64 0,.bool false,.int .i64 0]
 |7,v,_=>v=.pointer (some ⟨B,0,none⟩)
 |8,v,_=>v=.pointer (some ⟨B,41,none⟩)
 |9,_,w=>JAt w B X {j with rh:=sH,ru:=sU,sealed:=j.now}
 |_,_,_=>True
theorem zua{B:Nat}{D:Nat}{j:Jn}{X:List Nat}{na:Option Addr}{nc:Nat}{nb:Option Addr}{nd:Nat}{ne:Option Addr}{nf:Nat}{sH:Int}{sU:Int}{w w':World}:∀kk x,kk≠9→zt9 B D j X na nc nb nd ne nf sH sU kk x w→zt9 B D j X na nc nb nd ne nf sH sU kk x w':=by
 intro kk x A h
 match kk,h with
 |0,h|1,h|2,h|3,h|4,h|5,h|6,h|7,h|8,h=>exact h
 |9,_=>exact absurd rfl A
 |_+10,_=>exact trivial
theorem JAt.ring{w:World}{B:Nat}{X:List Nat}{j:Jn}(h:JAt w B X j):w.cell? ⟨B,3,none⟩=some (.int .i64 j.rh)∧w.cell? ⟨B,4,none⟩=some (.int .i64 j.ru):=by
 obtain⟨_,da,dc,db,dd,na,nc,nb,nd,ne,nf,sa,sc,sb,sd,se,sf,ca,cc,fa,fc,ta,tc,A,_⟩:=h;exact⟨(zak A 3).trans rfl,(zak A 4).trans rfl⟩
def zdw (B:Nat)(j:Jn)(X:List Nat)(na:Option Addr)(nc:Nat)(nb:Option Addr)(nd:Nat)(ne:Option Addr)(nf:Nat):Nat→Value→Value→World→Prop
 |0,v,_,_=>v=.pointer (some ⟨B,0,none⟩)
 |1,v,_,_=>v=.pointer (some ⟨B,0,none⟩)
 |2,v,_,_=>v=.pointer (some ⟨B,3,none⟩)
 |3,v,_,_=>v=.agg #[.int .i64 j.rh,.int .i64 j.ru]
 |4,v,_,_=>v=.agg #[.int .i64 j.now.seq,.slice na j.now.info.length nc,.slice nb j.now.data.length nd,.slice ne j.now.rev.length nf,.bool j.now.h0.on,.int .i64 j.now.h0.left,.bool j.now.h1.on,.int .i64 j.now.h1.left,.bool j.now.h2.on,.int .i64 j.now.h2.left]
 |5,v,u,w=>∃x,v=.tuple #[.agg #[.int .i64 (zcl j.rh j.ru j.now),.int .i64 (zce j.rh j.ru j.now)],x,.int .i64 (sealE j.rh j.ru j.now)]∧okSt X (commitS j.rh j.ru j.now) x u w
 |6,v,u,w=>∃x,v=.tuple #[.agg #[.int .i64 (zcl j.rh j.ru j.now),.int .i64 (zce j.rh j.ru j.now)],x,.int .i64 (sealE j.rh j.ru j.now)]∧okSt X (commitS j.rh j.ru j.now) x u w
 |7,v,_,_=>v=.agg #[.int .i64 (zcl j.rh j.ru j.now),.int .i64 (zce j.rh j.ru j.now)]
 |8,v,u,w=>okSt X (commitS j.rh j.ru j.now) v u w
 |9,v,_,_=>v=.int .i64 (sealE j.rh j.ru j.now)
 |10,v,_,_=>∃T,v=.pointer (some ⟨T,0,none⟩)
 |11,v,_,w=>∃T,v=.pointer (some ⟨T,0,none⟩)∧w.heap[T]?=some (.cells #[.int .i64 (zcl j.rh j.ru j.now),.int .i64 (zce j.rh j.ru j.now)] 26 (0,0))
 |12,v,u,w=>okSt X (commitS j.rh j.ru j.now) v u w
 |_,_,_,_=>True
theorem zr1{B:Nat}{j:Jn}{X:List Nat}{na:Option Addr}{nc:Nat}{nb:Option Addr}{nd:Nat}{ne:Option Addr}{nf:Nat}{u:Value}{w w':World}(hb:Below w.heap.size w w'):∀kk x,zdw B j X na nc nb nd ne nf kk x u w→zdw B j X na nc nb nd ne nf kk x u w':=by
 intro kk x h
 match kk,h with
 |0,h|1,h|2,h|3,h|4,h=>exact h
 |5,⟨x,h1,h2⟩=>exact⟨x,h1,h2.below hb⟩
 |6,⟨x,h1,h2⟩=>exact⟨x,h1,h2.below hb⟩
 |7,h=>exact h
 |8,h=>exact h.below hb
 |9,h|10,h=>exact h
 |11,⟨T,h1,h2⟩=>exact⟨T,h1,zad hb (Array.getElem?_eq_some_iff.1 h2).1 h2⟩
 |12,h=>exact h.below hb
 |_+13,_=>exact trivial
theorem zr2{B:Nat}{j:Jn}{X:List Nat}{na:Option Addr}{nc:Nat}{nb:Option Addr}{nd:Nat}{ne:Option Addr}{nf:Nat}{u:Value}{w:World}(o:Obj):∀kk x,zdw B j X na nc nb nd ne nf kk x u w→zdw B j X na nc nb nd ne nf kk x (.pointer (some ⟨w.heap.size,0,none⟩)) (w.alloc o):=by
 intro kk x h
 match kk,h with
 |0,h|1,h|2,h|3,h|4,h=>exact h
 |5,⟨x,h1,h2⟩=>exact⟨x,h1,h2.alloc o⟩
 |6,⟨x,h1,h2⟩=>exact⟨x,h1,h2.alloc o⟩
 |7,h=>exact h
 |8,h=>exact h.alloc o
 |9,h|10,h=>exact h
 |11,⟨T,h1,h2⟩=>exact⟨T,h1,zad (zaa _ _) (Array.getElem?_eq_some_iff.1 h2).1 h2⟩
 |12,h=>exact h.alloc o
 |_+13,_=>exact trivial
theorem zr3{B:Nat}{j:Jn}{X:List Nat}{na:Option Addr}{nc:Nat}{nb:Option Addr}{nd:Nat}{ne:Option Addr}{nf:Nat}{u:Value}{w w':World}(hs:∀x,okSt X (commitS j.rh j.ru j.now) x u w→okSt X (commitS j.rh j.ru j.now) x u w'):∀kk x,kk≠11→zdw B j X na nc nb nd ne nf kk x u w→zdw B j X na nc nb nd ne nf kk x u w':=by
 intro kk x A h
 match kk,h with
 |0,h|1,h|2,h|3,h|4,h=>exact h
 |5,⟨y,h1,h2⟩=>exact⟨y,h1,hs _ h2⟩
 |6,⟨y,h1,h2⟩=>exact⟨y,h1,hs _ h2⟩
 |7,h=>exact h
 |8,h=>exact hs _ h
 |9,h|10,h=>exact h
 |11,_=>exact absurd rfl A
 |12,h=>exact hs _ h
 |_+13,_=>exact trivial
theorem zub(B:Nat)(X:List Nat)(j:Jn)(w:World)(h:JAt w B X j)(hX:∀x∈X,x<w.heap.size)(r1:j.now.info.length*24≤140737488355328)(r2:j.now.data.length*24≤140737488355328)(hwp:IntKind.i64.wrap (j.now.seq+1)=j.now.seq+1):
  Calls prog 85 #[.pointer (some ⟨B,0,none⟩)] w (zdj w B X (zcx j)):=by
 have HJ:=zab h;have R8:=h.lt;have R:=h.1;have HX:=zab hX;have J9:=zab hwp;obtain⟨_,da,dc,db,dd,c,d,U,b,ne,Z,sa,sc,sb,sd,se,sf,ca,cc,fa,fc,ta,tc,D,hr⟩:=id h;have K2:w.cell? ⟨B,31,none⟩=some (.int .i64 j.now.seq):=zak D 31;have L5:w.cell? ⟨B,32,none⟩=some (.slice c j.now.info.length d):=zak D 32;have K0:w.cell? ⟨B,33,none⟩=some (.slice U j.now.data.length b):=zak D 33;have L3:w.cell? ⟨B,34,none⟩=some (.slice ne j.now.rev.length Z):=zak D 34;have M0:w.cell? ⟨B,35,none⟩=some (.bool j.now.h0.on):=zak D 35;have J8:w.cell? ⟨B,36,none⟩=some (.int .i64 j.now.h0.left):=zak D 36;have L9:w.cell? ⟨B,37,none⟩=some (.bool j.now.h1.on):=zak D 37;have K6:w.cell? ⟨B,38,none⟩=some (.int .i64 j.now.h1.left):=zak D 38;have L0:w.cell? ⟨B,39,none⟩=some (.bool j.now.h2.on):=zak D 39;have K3:w.cell? ⟨B,40,none⟩=some (.int .i64 j.now.h2.left):=zak D 40;have K7:=zab (hr.2.1.ext (Ext.seenL w X));have E7:=zab hr.2.1;have M3:=zab hr.2.2.2.2.2.2.1;clear h hX hwp D hr;have P3:¬w.heap.size=B:=by omega
 have L:¬w.heap.size+1=B:=by omega
 go_enter func85,ntmps85;go_wp2_with fail;obtain⟨W1,A7⟩:∃W1,W1=(w.alloc (.cells #[.int .i64 0,.int .i64 0,.string ⟨#[]⟩] 31)).alloc (.cells #[.int .i64 j.now.seq,.slice c j.now.info.length d,.slice U j.now.data.length b,.slice ne j.now.rev.length Z,.bool j.now.h0.on,.int .i64 j.now.h0.left,.bool j.now.h1.on,.int .i64 j.now.h1.left,.bool j.now.h2.on,.int .i64 j.now.h2.left] 40):=⟨_,rfl⟩;have J4:(w.alloc (.cells #[.int .i64 0,.int .i64 0,.string ⟨#[]⟩] 31)).heap.size=w.heap.size+1:=by simp
 have i:Hid (JAt W1 B (w.heap.size::X) j):=by rw[A7];exact(HJ.o.more (zaa _ _) (Nat.le_refl _)).below (zaa _ _)
 have N:Hid (ButL [B] w.heap.size w W1):=by rw[A7];exact ButL.of_below (zae (zaa _ _) (zaa _ _))
 have G2:Hid (Below w.heap.size w W1):=by rw[A7];exact zae (zaa _ _) (zaa _ _)
 have KR:Hid (W1.heap[w.heap.size]?=some (.cells #[.int .i64 0,.int .i64 0,.string ⟨#[]⟩] 31 (0,0))):=by rw[A7];exact zad (zaa _ _) (by omega) (heap_alloc_new _ _)
 have KA:Hid (W1.heap[w.heap.size+1]?=some (.cells #[.int .i64 j.now.seq,.slice c j.now.info.length d,.slice U j.now.data.length b,.slice ne j.now.rev.length Z,.bool j.now.h0.on,.int .i64 j.now.h0.left,.bool j.now.h1.on,.int .i64 j.now.h1.left,.bool j.now.h2.on,.int .i64 j.now.h2.left] 40 (0,0))):=by rw[A7,←J4];exact heap_alloc_new _ _
 have P1:W1.heap.size=w.heap.size+2:=by rw[A7];simp
 have A2:w.heap.size<W1.heap.size:=by omega
 have r:w.heap.size≠B:=by omega
 rw[←A7];clear A7 J4;refine(zfn B (w.heap.size::X) j W1 i.o).mono ?_;rintro e w' ⟨rfl,rfl⟩;by_cases hs:0<j.steps.length
 ·have HE:Hid (zcx j=(j,zat 9)):=by rw[Hid,zcx,if_pos (.inl (by intro e;rw[e]at hs;simp at hs))]
  have B4:decide (0<j.steps.length)=true:=by simpa using hs
  rw[B4];clear hs B4;go_wp2_with fail;refine(zav 9 _).mono ?_;rintro e w2 ⟨rfl,C⟩;have O:=zab (zad C A2 KR.o);have A1:=zab (i.o.below C);have q:=zab (N.o.trans (Y:=[]) (ButL.of_below C) N.o.size (by simp));clear C;obtain⟨⟨l,m,n⟩,yf⟩:=zbn O.o;go_wp2;exact zbd HE.o O.o A1.o q.o r R fun W u0 u1 u2=>by simp[results,results85,go_sem,u0,u1,u2]
 ·have B4:decide (0<j.steps.length)=false:=by simpa using hs
  have J3:j.steps=[]:=List.eq_nil_of_length_eq_zero (by omega);rw[B4];clear hs B4;obtain⟨⟨l,m,n,y3,y4,y5,y6,y7,y8,y9⟩,_⟩:=zaj KA.o;go_wp2_with fail;refine(zqu _ j.now _ (K7.o.below G2.o)).mono ?_;rintro e w1 ⟨rfl,M⟩;have G0:=zab (i.o.below M);have D3:Hid (ButL [B] w.heap.size w w1):=N.o.trans (Y:=[]) (ButL.of_below M) N.o.size (by simp);have G5:=zab (zae G2.o M);have H1:=zab (zad M A2 KR.o);have F4:=zab (zad M (show w.heap.size+1<w'.heap.size by omega) KA.o);have R1:w'.heap.size≤w1.heap.size:=M.size;clear M l m n y3 y4 y5 y6 y7 y8 y9 i N G2 KR KA;by_cases hop:zia j.now=true
  ·have HE:Hid (zcx j=(j,zat 9)):=by rw[Hid,zcx,if_pos (.inr hop)]
   rw[hop];clear hop;have i:=G0;have N:=D3;have KR:=H1;have A2:w.heap.size<w1.heap.size:=by omega
   go_wp2_with fail;refine(zav 9 _).mono ?_;rintro e w2 ⟨rfl,C⟩;have O:=zab (zad C A2 KR.o);have A1:=zab (i.o.below C);have q:=zab (N.o.trans (Y:=[]) (ButL.of_below C) N.o.size (by simp));clear C;obtain⟨⟨l,m,n⟩,yf⟩:=zbn O.o;go_wp2;exact zbd HE.o O.o A1.o q.o r R fun W u0 u1 u2=>by simp[results,results85,go_sem,u0,u1,u2]
  ·have B6:zia j.now=false:=by simpa using hop
   have E9:Hid (¬(j.steps≠[]∨zia j.now=true)):=by rw[Hid,J3,B6];simp
   rw[B6];clear hop B6 J3;obtain⟨⟨l,m,n,y3,y4,y5,y6,y7,y8,y9⟩,_⟩:=zaj F4.o;go_wp2_with fail;refine(zt1 j.now c d U b ne Z w1).mono ?_;rintro e w2 ⟨rfl,C⟩;have B2:=zab (G0.o.below C);have B3:Hid (ButL [B] w.heap.size w w2):=D3.o.trans (Y:=[]) (ButL.of_below C) D3.o.size (by simp);have B9:=zab (zae G5.o C);have C1:=zab (zad C (show w.heap.size<w1.heap.size by omega) H1.o);have D9:=zab (zad C (show w.heap.size+1<w1.heap.size by omega) F4.o);have S6:w1.heap.size≤w2.heap.size:=C.size;clear C l m n y3 y4 y5 y6 y7 y8 y9 G0 D3 G5 H1 F4;have B1:w.heap.size<w2.heap.size:=by omega
   clear A2;by_cases hem:zfd j.now=true
   ·have HE:Hid (zcx j=(j,zat 4)):=by rw[Hid,zcx,if_neg E9.o,if_pos hem]
    rw[hem];clear hem;have i:=B2;have N:=B3;have KR:=C1;have A2:=B1;go_wp2_with fail;refine(zav 4 _).mono ?_;rintro e w2 ⟨rfl,C⟩;have O:=zab (zad C A2 KR.o);have A1:=zab (i.o.below C);have q:=zab (N.o.trans (Y:=[]) (ButL.of_below C) N.o.size (by simp));clear C;obtain⟨⟨l,m,n⟩,yf⟩:=zbn O.o;go_wp2;exact zbd HE.o O.o A1.o q.o r R fun W u0 u1 u2=>by simp[results,results85,go_sem,u0,u1,u2]
   ·have B7:zfd j.now=false:=by simpa using hem
    rw[B7];obtain⟨⟨l,m,n,y3,y4,y5,y6,y7,y8,y9⟩,_⟩:=zaj D9.o;by_cases hq:2147483645<j.now.seq
    ·have HE:Hid (zcx j=(j,zat 11)):=by rw[Hid,zcx,if_neg E9.o,if_neg hem,if_pos hq]
     clear hem B7;have i:=B2;have N:=B3;have KR:=C1;have A2:=B1;go_wp2_with fail;clear l m n y3 y4 y5 y6 y7 y8 y9;refine(zav 11 _).mono ?_;rintro e w2 ⟨rfl,C⟩;have O:=zab (zad C A2 KR.o);have A1:=zab (i.o.below C);have q:=zab (N.o.trans (Y:=[]) (ButL.of_below C) N.o.size (by simp));clear C;obtain⟨⟨l,m,n⟩,yf⟩:=zbn O.o;go_wp2;exact zbd HE.o O.o A1.o q.o r R fun W u0 u1 u2=>by simp[results,results85,go_sem,u0,u1,u2]
    ·have G4:Hid (zcx j=if sealE j.rh j.ru j.now=0 then({j with rh:=zcl j.rh j.ru j.now,ru:=zce j.rh j.ru j.now,sealed:=j.now,now:=zcv (j.now.seq+1),work:=6,steps:=commitS j.rh j.ru j.now},⟨0,j.now.seq,⟨#[]⟩⟩) else(j,zat (sealE j.rh j.ru j.now))):=by rw[Hid,zcx,if_neg E9.o,if_neg hem,if_neg hq]
     have S5:j.now.seq≤2147483645:=by omega
     clear hem B7 hq;go_wp2;rename_i KK F9;clear l m n y3 y4 y5 y6 y7 y8 y9;obtain⟨Q,H5⟩:∃Q,Q=w2:=⟨_,rfl⟩;rw[←H5];subst H5
     have F5:∀(g:Nat→Value) (u:World) (T:Nat) (ya:Option Addr) (yc:Nat),u.heap[T]?=some (.cells #[.int .i64 (zcl j.rh j.ru j.now),.int .i64 (zce j.rh j.ru j.now)] 26 (0,0))→SegSt (zau u (w.heap.size::X)) ya (commitS j.rh j.ru j.now)→(commitS j.rh j.ru j.now).length≤yc→Q.heap.size≤T→Below Q.heap.size Q u→KK ⟨#[.pointer (some ⟨B,0,none⟩),g 1,.pointer (some ⟨w.heap.size,0,none⟩),.pointer (some ⟨w.heap.size+1,0,none⟩),.pointer (some ⟨T,0,none⟩),.slice ya (commitS j.rh j.ru j.now).length yc,.int .i64 (sealE j.rh j.ru j.now),g 7,g 8,g 9,g 10,g 11,g 12,g 13,g 14,g 15,g 16,g 17,g 18,g 19,g 20,g 21,g 22,g 23,g 24,g 25,g 26,g 27,g 28,g 29,g 30,g 31,g 32,g 33,g 34,g 35,g 36,g 37,g 38,g 39,g 40,g 41,g 42,g 43,g 44,g 45,g 46,g 47,g 48,g 49,g 50,g 51,g 52,g 53,g 54,g 55,g 56,g 57,g 58,g 59,g 60,g 61,g 62,g 63,g 64,g 65,g 66],[]⟩ u:=by
      intro g u T ya yc A6 E2 C9 A9 A8;apply F9;clear F9;have C7:=zab (B2.o.below A8);have G7:Hid (ButL [B] w.heap.size w u):=B3.o.trans (Y:=[]) (ButL.of_below A8) B3.o.size (by simp);have G1:=zab (zae B9.o A8);have G8:=zab (zad A8 B1 C1.o);have I5:=zab (zad A8 (show w.heap.size+1<Q.heap.size by omega) D9.o);have KT:=zab A6;have F3:=zab E2;have R9:Q.heap.size≤u.heap.size:=A8.size;have P5:T<u.heap.size:=(Array.getElem?_eq_some_iff.1 A6).1;have J6:w.heap.size<u.heap.size:=by omega
      clear A8 A6 E2 B2 B3 B9 C1 D9;by_cases he:sealE j.rh j.ru j.now=0
      ·have HE:Hid (zcx j=({j with rh:=zcl j.rh j.ru j.now,ru:=zce j.rh j.ru j.now,sealed:=j.now,now:=zcv (j.now.seq+1),work:=6,steps:=commitS j.rh j.ru j.now},⟨0,j.now.seq,⟨#[]⟩⟩)):=by rw[Hid,G4.o,if_pos he]
       rw[he];clear he G4;obtain⟨sH,I2⟩:∃x,x=zcl j.rh j.ru j.now:=⟨_,rfl⟩;obtain⟨sU,J0⟩:∃x,x=zce j.rh j.ru j.now:=⟨_,rfl⟩;obtain⟨cS,I6⟩:∃x,x=commitS j.rh j.ru j.now:=⟨_,rfl⟩;rw[←I2,←J0]at KT HE;rw[←I6]at HE F3 C9⊢;clear I2 J0 I6;obtain⟨⟨t0,t1⟩,tf⟩:=zgq KT.o;obtain⟨_,H0,G6,E6,F2,D7,D1,D2,D6,C5,E0,E1,C2,D5,D4,D8,C8,F6,G3,F8,E5,E8,F1,D,_⟩:=id C7.o;have c3:u.cell? ⟨B,3,none⟩=some (.int .i64 j.rh):=zak D 3;have c4:u.cell? ⟨B,4,none⟩=some (.int .i64 j.ru):=zak D 4;have L2:u.frozen? ⟨B,3,none⟩=false:=frozen_of_row u _ _ _ _ D;have M5:u.frozen? ⟨B,4,none⟩=false:=frozen_of_row u _ _ _ _ D;clear D;have P7:¬T=B:=by omega
       go_wp2;rename_i E4 B8;clear t0 t1 tf c3 c4 L2 M5;obtain⟨W4,A4⟩:∃W4,W4=(u.setCell ⟨B,3,none⟩ (.int .i64 sH)).setCell ⟨B,4,none⟩ (.int .i64 sU):=⟨_,rfl⟩;rw[←A4];have K4:Hid (JAt W4 B (w.heap.size::X) {j with rh:=sH,ru:=sU}):=by rw[A4];exact C7.o.putRing sH sU
       have J2:Hid (ButL [B] w.heap.size w W4):=by rw[A4];exact(G7.o.set (.inl (by simp)) 3 _).set (.inl (by simp)) 4 _
       have K8:Hid (W4.heap[w.heap.size]?=some (.cells #[.int .i64 0,.int .i64 0,.string ⟨#[]⟩] 31 (0,0))):=by rw[A4];exact(Below.heap_setCell _ _ _ _ r).trans ((Below.heap_setCell _ _ _ _ r).trans G8.o)
       have S:Hid (W4.heap[w.heap.size+1]?=some (.cells #[.int .i64 j.now.seq,.slice c j.now.info.length d,.slice U j.now.data.length b,.slice ne j.now.rev.length Z,.bool j.now.h0.on,.int .i64 j.now.h0.left,.bool j.now.h1.on,.int .i64 j.now.h1.left,.bool j.now.h2.on,.int .i64 j.now.h2.left] 40 (0,0))):=by rw[A4];exact(Below.heap_setCell _ _ _ _ L).trans ((Below.heap_setCell _ _ _ _ L).trans I5.o)
       have J7:Hid (SegSt (zau W4 (w.heap.size::X)) ya cS):=by rw[A4];exact(F3.o.ext (Ext.setL (by simp[R]) _ _)).ext (Ext.setL (by simp[R]) _ _)
       have M4:Hid (IsTx (zau W4 (w.heap.size::X)) (.agg #[.int .i64 j.now.seq,.slice c j.now.info.length d,.slice U j.now.data.length b,.slice ne j.now.rev.length Z,.bool j.now.h0.on,.int .i64 j.now.h0.left,.bool j.now.h1.on,.int .i64 j.now.h1.left,.bool j.now.h2.on,.int .i64 j.now.h2.left]) j.now):=by rw[A4];exact((E7.o.ext (Ext.newL G1.o (Nat.le_refl _))).ext (Ext.setL (by simp[R]) _ _)).ext (Ext.setL (by simp[R]) _ _)
       have R2:W4.heap.size=u.heap.size:=by rw[A4];simp[World.setCell]
       clear A4 C7 G7 G8 I5 KT F3 G1
       have C6:∀(g:Nat→Value) (W6:World),JAt W6 B (w.heap.size::X) {j with rh:=sH,ru:=sU,sealed:=j.now,now:=zcv (j.now.seq+1)}→ButL [B] W4.heap.size W4 W6→E4 ⟨#[.pointer (some ⟨B,0,none⟩),g 1,.pointer (some ⟨w.heap.size,0,none⟩),.pointer (some ⟨w.heap.size+1,0,none⟩),g 4,.slice ya cS.length yc,g 6,g 7,g 8,g 9,g 10,g 11,g 12,g 13,g 14,g 15,g 16,g 17,g 18,g 19,g 20,g 21,g 22,g 23,g 24,g 25,g 26,g 27,g 28,g 29,g 30,g 31,g 32,g 33,g 34,g 35,g 36,g 37,g 38,g 39,g 40,g 41,g 42,g 43,g 44,g 45,g 46,g 47,g 48,g 49,g 50,g 51,g 52,g 53,g 54,g 55,g 56,g 57,g 58,g 59,g 60,g 61,g 62,g 63,g 64,g 65,g 66],[]⟩ W6:=by
        intro g W6 I1 B0;apply B8;clear B8;have I4:=zab I1;have K5:Hid (ButL [B] w.heap.size w W6):=J2.o.trans B0 J2.o.size (by simp);have I8:Hid (W6.heap[w.heap.size]?=some (.cells #[.int .i64 0,.int .i64 0,.string ⟨#[]⟩] 31 (0,0))):=(B0.block _ (by omega) (by simpa using r)).trans K8.o;have K1:Hid (W6.heap[w.heap.size+1]?=some (.cells #[.int .i64 j.now.seq,.slice c j.now.info.length d,.slice U j.now.data.length b,.slice ne j.now.rev.length Z,.bool j.now.h0.on,.int .i64 j.now.h0.left,.bool j.now.h1.on,.int .i64 j.now.h1.left,.bool j.now.h2.on,.int .i64 j.now.h2.left] 40 (0,0))):=(B0.block _ (by omega) (by simpa using L)).trans S.o;have J5:Hid (SegSt (zau W6 (w.heap.size::X)) ya cS):=J7.o.ext (Ext.butL (B0.wider (Y:=(w.heap.size::X)) (by simp[R])));have R7:W4.heap.size≤W6.heap.size:=B0.size;have S4:B<W6.heap.size:=by omega
        clear I1 B0;obtain⟨_,H0,G6,E6,F2,D7,D1,D2,D6,C5,E0,E1,C2,D5,D4,D8,C8,F6,G3,F8,E5,E8,F1,D,_⟩:=id I4.o;have I3:∃v,W6.cell? ⟨B,55,none⟩=some v:=⟨_,(zak D 55).trans rfl⟩;have J1:∃v,W6.cell? ⟨B,56,none⟩=some v:=⟨_,(zak D 56).trans rfl⟩;have N8:W6.frozen? ⟨B,55,none⟩=false:=frozen_of_row W6 _ _ _ _ D;have M7:W6.frozen? ⟨B,56,none⟩=false:=frozen_of_row W6 _ _ _ _ D;obtain⟨P6,I3⟩:=I3;obtain⟨P9,J1⟩:=J1;clear D;obtain⟨⟨q0,_⟩,_⟩:=zaj K1.o;obtain⟨⟨l,m,n⟩,yf⟩:=zbn I8.o;go_wp2;obtain⟨W7,C0⟩:∃W7,W7=(W6.setCell ⟨B,55,none⟩ (.int .i64 6)).setCell ⟨B,56,none⟩ (.slice ya cS.length yc):=⟨_,rfl⟩;rw[←C0];have O:Hid (W7.heap[w.heap.size]?=some (.cells #[.int .i64 0,.int .i64 0,.string ⟨#[]⟩] 31 (0,0))):=by rw[C0];exact(Below.heap_setCell _ _ _ _ r).trans ((Below.heap_setCell _ _ _ _ r).trans I8.o)
        have A1:Hid (JAt W7 B (w.heap.size::X) {j with rh:=sH,ru:=sU,sealed:=j.now,now:=zcv (j.now.seq+1),work:=6,steps:=cS}):=by rw[C0];exact(I4.o.putWork 6).putSteps (J5.o.ext (Ext.setL (by simp[R]) 55 (.int .i64 6))) C9
        have q:Hid (ButL [B] w.heap.size w W7):=by rw[C0];exact(K5.o.set (.inl (by simp)) 55 _).set (.inl (by simp)) 56 _
        obtain⟨W,hW⟩:∃W,W=(((W7.setCell ⟨w.heap.size,0,none⟩ (.int .i64 0)).setCell ⟨w.heap.size,1,none⟩ (.int .i64 j.now.seq)).setCell ⟨w.heap.size,2,none⟩ (.string ⟨#[]⟩)):=⟨_,rfl⟩;have hX:=zge O.o (.int .i64 0) (.int .i64 j.now.seq) (.string ⟨#[]⟩);rw[←hW]at hX⊢;obtain⟨⟨u0,u1,u2⟩,_⟩:=zbn hX;refine bodyPost_ret (v:=.agg #[.int .i64 0,.int .i64 j.now.seq,.string ⟨#[]⟩]) (by simp[results,results85,go_sem,u0,u1,u2]) rfl ⟨by rw[HE.o];rfl,?_,?_⟩
        ·rw[HE.o,hW];exact zw7 A1.o r R _ _ _
        ·rw[hW];exact((q.o.set (.inr (by omega)) 0 _).set (.inr (by omega)) 1 _).set (.inr (by omega)) 2 _
       have F7:=zab C6;clear C6 B8;have hwp:=J9.o;have E3:B<W4.heap.size:=by omega
       have K:w.heap.size+1<W4.heap.size:=by omega
       obtain⟨⟨l,m,n,y3,y4,y5,y6,y7,y8,y9⟩,_⟩:=zaj S.o;have Q0:=zab l;have Q1:=zab m;have Q2:=zab n;have Q3:=zab y3;have Q4:=zab y4;have Q5:=zab y5;have Q6:=zab y6;have Q7:=zab y7;have Q8:=zab y8;have Q9:=zab y9;clear l m n y3 y4 y5 y6 y7 y8 y9;refine(show∀A0:Act,A0=_→Code.wp prog _ _ A0 _ from fun A0 hA0=>?_) _ rfl;have I:A0.tmps.size=67:=by rw[hA0];rfl
       have G9:A0.defers=[]:=by rw[hA0]
       have v0:A0.eval (.tmp 0)=.pointer (some ⟨B,0,none⟩):=by rw[hA0];rfl
       have v2:A0.eval (.tmp 2)=.pointer (some ⟨w.heap.size,0,none⟩):=by rw[hA0];rfl
       have v3:A0.eval (.tmp 3)=.pointer (some ⟨w.heap.size+1,0,none⟩):=by rw[hA0];rfl
       have v5:A0.eval (.tmp 5)=.slice ya cS.length yc:=by rw[hA0];rfl
       clear hA0;refine zbi 10 (fun w'=>(∃s,JAt w' B (w.heap.size::X) {j with rh:=sH,ru:=sU,sealed:=s})∧ButL [B] W4.heap.size W4 w') [46,47,48,49,50,51,52,53,54,54] (zt9 B (w.heap.size+1) j (w.heap.size::X) c d U b ne Z sH sU) (by kernel_rfl) (by kernel_rfl) (by kernel_rfl) (by kernel_rfl) (by decide) (⟨⟨_,K4.o.below (Below.refl _ _).drew⟩,ButL.of_below (Below.refl _ _).drew⟩) ⟨?_,?_,?_,?_,?_,?_,?_,?_,?_,?_,trivial⟩ ?_
       ·exact zbg v0 I (fun _=>rfl) fun ρ w' A z=>by simp only[execOp];go_simp
       ·exact zbg v0 I (fun _=>rfl) fun ρ w' A z=>by simp only[execOp];go_simp
       ·exact zbg v3 I (fun _=>rfl) fun ρ w' A z=>by have c0:w'.cell? ⟨w.heap.size+1,0,none⟩=some (.int .i64 j.now.seq):=(zaj ((A.2.block _ K (by simpa using L)).trans S.o)).1.1;have c1:w'.cell? ⟨w.heap.size+1,1,none⟩=some (.slice c j.now.info.length d):=(zaj ((A.2.block _ K (by simpa using L)).trans S.o)).1.2.1;have c2:w'.cell? ⟨w.heap.size+1,2,none⟩=some (.slice U j.now.data.length b):=(zaj ((A.2.block _ K (by simpa using L)).trans S.o)).1.2.2.1;have c3:w'.cell? ⟨w.heap.size+1,3,none⟩=some (.slice ne j.now.rev.length Z):=(zaj ((A.2.block _ K (by simpa using L)).trans S.o)).1.2.2.2.1;have c4:w'.cell? ⟨w.heap.size+1,4,none⟩=some (.bool j.now.h0.on):=(zaj ((A.2.block _ K (by simpa using L)).trans S.o)).1.2.2.2.2.1;have c5:w'.cell? ⟨w.heap.size+1,5,none⟩=some (.int .i64 j.now.h0.left):=(zaj ((A.2.block _ K (by simpa using L)).trans S.o)).1.2.2.2.2.2.1;have c6:w'.cell? ⟨w.heap.size+1,6,none⟩=some (.bool j.now.h1.on):=(zaj ((A.2.block _ K (by simpa using L)).trans S.o)).1.2.2.2.2.2.2.1;have c7:w'.cell? ⟨w.heap.size+1,7,none⟩=some (.int .i64 j.now.h1.left):=(zaj ((A.2.block _ K (by simpa using L)).trans S.o)).1.2.2.2.2.2.2.2.1;have c8:w'.cell? ⟨w.heap.size+1,8,none⟩=some (.bool j.now.h2.on):=(zaj ((A.2.block _ K (by simpa using L)).trans S.o)).1.2.2.2.2.2.2.2.2.1;have c9:w'.cell? ⟨w.heap.size+1,9,none⟩=some (.int .i64 j.now.h2.left):=(zaj ((A.2.block _ K (by simpa using L)).trans S.o)).1.2.2.2.2.2.2.2.2.2;simp only[execOp];go_simp
       ·exact zbg v3 I (fun _=>rfl) fun ρ w' A z=>by simp only[execOp];go_simp
       ·exact zam 3 49 I (fun _ _ h=>h) (fun _=>rfl) fun ρ w' A p=>by have c0:w'.cell? ⟨w.heap.size+1,0,none⟩=some (.int .i64 j.now.seq):=(zaj ((A.2.block _ K (by simpa using L)).trans S.o)).1.1;simp only[execOp];go_simp
       ·intro a w' F A J;have p50:a.eval (.tmp 50)=.int .i64 j.now.seq:=J ⟨4,.data⟩ (by simp) rfl;exact zgo _ rfl rfl (by have H4:=Act.eval_const a (.int .i64 1);revert p50 H4;generalize a.eval=ρ;intro p50 H4;simp only[execOp];go_simp) F I A rfl
       ·exact zam 5 51 I (fun _ _ h=>h) (fun _=>rfl) fun ρ w' A p=>by simp only[execOp];go_simp
       ·exact zam 0 46 I (fun _ _ h=>h) (fun _=>rfl) fun ρ w' A p=>by simp only[execOp];go_simp
       ·exact zam 7 53 I (fun _ _ h=>h) (fun _=>rfl) fun ρ w' A p=>by simp only[execOp];go_simp
       ·intro a w' F A J;have p54:a.eval (.tmp 54)=.pointer (some ⟨B,41,none⟩):=J ⟨8,.data⟩ (by simp) rfl;have p48:a.eval (.tmp 48)=.agg #[.int .i64 j.now.seq,.slice c j.now.info.length d,.slice U j.now.data.length b,.slice ne j.now.rev.length Z,.bool j.now.h0.on,.int .i64 j.now.h0.left,.bool j.now.h1.on,.int .i64 j.now.h1.left,.bool j.now.h2.on,.int .i64 j.now.h2.left]:=J ⟨2,.data⟩ (by simp) rfl;obtain⟨⟨s,F0⟩,I9⟩:=A;obtain⟨_,H0,G6,E6,F2,D7,D1,D2,D6,C5,E0,E1,C2,D5,D4,D8,C8,F6,G3,F8,E5,E8,F1,D,_⟩:=id F0;have S2:w'.cell? ⟨B,41,none⟩=some (.int .i64 s.seq):=zak D 41;have O7:w'.frozen? ⟨B,41,none⟩=false:=frozen_of_row w' _ _ _ _ D;have P8:w'.cell? ⟨B,42,none⟩=some (.slice E1 s.info.length C2):=zak D 42;have O4:w'.frozen? ⟨B,42,none⟩=false:=frozen_of_row w' _ _ _ _ D;have R6:w'.cell? ⟨B,43,none⟩=some (.slice D5 s.data.length D4):=zak D 43;have N1:w'.frozen? ⟨B,43,none⟩=false:=frozen_of_row w' _ _ _ _ D;have O9:w'.cell? ⟨B,44,none⟩=some (.slice D8 s.rev.length C8):=zak D 44;have N6:w'.frozen? ⟨B,44,none⟩=false:=frozen_of_row w' _ _ _ _ D;have S3:w'.cell? ⟨B,45,none⟩=some (.bool s.h0.on):=zak D 45;have N0:w'.frozen? ⟨B,45,none⟩=false:=frozen_of_row w' _ _ _ _ D;have P2:w'.cell? ⟨B,46,none⟩=some (.int .i64 s.h0.left):=zak D 46;have O1:w'.frozen? ⟨B,46,none⟩=false:=frozen_of_row w' _ _ _ _ D;have P0:w'.cell? ⟨B,47,none⟩=some (.bool s.h1.on):=zak D 47;have O0:w'.frozen? ⟨B,47,none⟩=false:=frozen_of_row w' _ _ _ _ D;have R0:w'.cell? ⟨B,48,none⟩=some (.int .i64 s.h1.left):=zak D 48;have O2:w'.frozen? ⟨B,48,none⟩=false:=frozen_of_row w' _ _ _ _ D;have P4:w'.cell? ⟨B,49,none⟩=some (.bool s.h2.on):=zak D 49;have N7:w'.frozen? ⟨B,49,none⟩=false:=frozen_of_row w' _ _ _ _ D;have R3:w'.cell? ⟨B,50,none⟩=some (.int .i64 s.h2.left):=zak D 50;have M9:w'.frozen? ⟨B,50,none⟩=false:=frozen_of_row w' _ _ _ _ D;have I7:IsTx (zau w' (w.heap.size::X)) (.agg #[.int .i64 j.now.seq,.slice c j.now.info.length d,.slice U j.now.data.length b,.slice ne j.now.rev.length Z,.bool j.now.h0.on,.int .i64 j.now.h0.left,.bool j.now.h1.on,.int .i64 j.now.h1.left,.bool j.now.h2.on,.int .i64 j.now.h2.left]) j.now:=M4.o.ext (Ext.butL (I9.wider (Y:=(w.heap.size::X)) (by simp[R])))
        refine zco rfl rfl (w':=((((((((((w'.setCell ⟨B,41,none⟩ (.int .i64 j.now.seq)).setCell ⟨B,42,none⟩ (.slice c j.now.info.length d)).setCell ⟨B,43,none⟩ (.slice U j.now.data.length b)).setCell ⟨B,44,none⟩ (.slice ne j.now.rev.length Z)).setCell ⟨B,45,none⟩ (.bool j.now.h0.on)).setCell ⟨B,46,none⟩ (.int .i64 j.now.h0.left)).setCell ⟨B,47,none⟩ (.bool j.now.h1.on)).setCell ⟨B,48,none⟩ (.int .i64 j.now.h1.left)).setCell ⟨B,49,none⟩ (.bool j.now.h2.on)).setCell ⟨B,50,none⟩ (.int .i64 j.now.h2.left))) (by revert p54 p48;generalize a.eval=ρ;intro p54 p48;simp only[execOp];go_simp) ⟨_,rfl,⟨⟨_,F0.putSealed I7⟩,?_⟩,?_,?_⟩
        ·exact(((((((((I9.set (.inl (by simp)) 41 _).set (.inl (by simp)) 42 _).set (.inl (by simp)) 43 _).set (.inl (by simp)) 44 _).set (.inl (by simp)) 45 _).set (.inl (by simp)) 46 _).set (.inl (by simp)) 47 _).set (.inl (by simp)) 48 _).set (.inl (by simp)) 49 _).set (.inl (by simp)) 50 _
        ·exact F0.putSealed I7
        ·exact zua
       ·intro a W F A J;have H9:a.eval (.tmp 47)=.pointer (some ⟨B,0,none⟩):=J 1 (by decide);have R5:a.eval (.tmp 48)=.agg #[.int .i64 j.now.seq,.slice c j.now.info.length d,.slice U j.now.data.length b,.slice ne j.now.rev.length Z,.bool j.now.h0.on,.int .i64 j.now.h0.left,.bool j.now.h1.on,.int .i64 j.now.h1.left,.bool j.now.h2.on,.int .i64 j.now.h2.left]:=J 2 (by decide);have K9:a.eval (.tmp 52)=.agg #[.int .i64 (j.now.seq+1),.slice none 0 0,.slice none 0 0,.slice none 0 0,.bool false,.int .i64 0,.bool false,.int .i64 0,.bool false,.int .i64 0]:=J 6 (by decide);have O8:a.eval (.tmp 54)=.pointer (some ⟨B,41,none⟩):=J 8 (by decide);have H3:JAt W B (w.heap.size::X) {j with rh:=sH,ru:=sU,sealed:=j.now}:=J 9 (by decide);obtain⟨_,H0,G6,E6,F2,D7,D1,D2,D6,C5,E0,E1,C2,D5,D4,D8,C8,F6,G3,F8,E5,E8,F1,D,_⟩:=id H3;have K2:W.cell? ⟨B,31,none⟩=some (.int .i64 j.now.seq):=zak D 31;have O6:W.frozen? ⟨B,31,none⟩=false:=frozen_of_row W _ _ _ _ D;have L5:W.cell? ⟨B,32,none⟩=some (.slice D7 j.now.info.length D1):=zak D 32;have M8:W.frozen? ⟨B,32,none⟩=false:=frozen_of_row W _ _ _ _ D;have K0:W.cell? ⟨B,33,none⟩=some (.slice D2 j.now.data.length D6):=zak D 33;have M6:W.frozen? ⟨B,33,none⟩=false:=frozen_of_row W _ _ _ _ D;have L3:W.cell? ⟨B,34,none⟩=some (.slice C5 j.now.rev.length E0):=zak D 34;have N5:W.frozen? ⟨B,34,none⟩=false:=frozen_of_row W _ _ _ _ D;have M0:W.cell? ⟨B,35,none⟩=some (.bool j.now.h0.on):=zak D 35;have N9:W.frozen? ⟨B,35,none⟩=false:=frozen_of_row W _ _ _ _ D;have J8:W.cell? ⟨B,36,none⟩=some (.int .i64 j.now.h0.left):=zak D 36;have N4:W.frozen? ⟨B,36,none⟩=false:=frozen_of_row W _ _ _ _ D;have L9:W.cell? ⟨B,37,none⟩=some (.bool j.now.h1.on):=zak D 37;have O3:W.frozen? ⟨B,37,none⟩=false:=frozen_of_row W _ _ _ _ D;have K6:W.cell? ⟨B,38,none⟩=some (.int .i64 j.now.h1.left):=zak D 38;have N2:W.frozen? ⟨B,38,none⟩=false:=frozen_of_row W _ _ _ _ D;have L0:W.cell? ⟨B,39,none⟩=some (.bool j.now.h2.on):=zak D 39
        have N3:W.frozen? ⟨B,39,none⟩=false:=frozen_of_row W _ _ _ _ D;have K3:W.cell? ⟨B,40,none⟩=some (.int .i64 j.now.h2.left):=zak D 40;have O5:W.frozen? ⟨B,40,none⟩=false:=frozen_of_row W _ _ _ _ D;show wpOps prog _ _ [10,11,12] a W;have B5:a.tmps.size=67:=F.size.trans I;rw[wpOps_cons];refine zar (.pointer (some ⟨B,0,none⟩)) rfl rfl (by revert H9;generalize a.eval=ρ;intro H9;simp only[execOp];go_simp) ?_;obtain⟨b1,M⟩:∃b1,b1=a.put (some 55) (.pointer (some ⟨B,0,none⟩)):=⟨_,rfl⟩;have H7:b1.eval (.tmp 55)=.pointer (some ⟨B,0,none⟩):=by rw[M];exact Act.eval_put_same _ _ _ (by rw[B5];decide)
        have M1:b1.eval (.tmp 52)=.agg #[.int .i64 (j.now.seq+1),.slice none 0 0,.slice none 0 0,.slice none 0 0,.bool false,.int .i64 0,.bool false,.int .i64 0,.bool false,.int .i64 0]:=by rw[M,Act.eval_put_ne _ _ _ _ (by decide)];exact K9
        show wpOps prog _ _ [11,12] (a.put (some 55) (.pointer (some ⟨B,0,none⟩))) W;rw[←M,wpOps_cons];refine zar (.pointer (some ⟨B,31,none⟩)) rfl rfl (by revert H7;generalize b1.eval=ρ;intro H7;simp only[execOp];go_simp) ?_;obtain⟨b2,C⟩:∃b2,b2=b1.put (some 56) (.pointer (some ⟨B,31,none⟩)):=⟨_,rfl⟩;have H6:b1.tmps.size=67:=by rw[M,Act.size_put];exact B5
        have I0:b2.eval (.tmp 56)=.pointer (some ⟨B,31,none⟩):=by rw[C];exact Act.eval_put_same _ _ _ (by rw[H6];decide)
        have H8:b2.eval (.tmp 52)=.agg #[.int .i64 (j.now.seq+1),.slice none 0 0,.slice none 0 0,.slice none 0 0,.bool false,.int .i64 0,.bool false,.int .i64 0,.bool false,.int .i64 0]:=by rw[C,Act.eval_put_ne _ _ _ _ (by decide)];exact M1
        show wpOps prog _ _ [12] (b1.put (some 56) (.pointer (some ⟨B,31,none⟩))) W;rw[←C,wpOps_cons];refine zco rfl rfl (w':=((((((((((W.setCell ⟨B,31,none⟩ (.int .i64 (j.now.seq+1))).setCell ⟨B,32,none⟩ (.slice none 0 0)).setCell ⟨B,33,none⟩ (.slice none 0 0)).setCell ⟨B,34,none⟩ (.slice none 0 0)).setCell ⟨B,35,none⟩ (.bool false)).setCell ⟨B,36,none⟩ (.int .i64 0)).setCell ⟨B,37,none⟩ (.bool false)).setCell ⟨B,38,none⟩ (.int .i64 0)).setCell ⟨B,39,none⟩ (.bool false)).setCell ⟨B,40,none⟩ (.int .i64 0))) (by revert I0 H8;generalize b2.eval=ρ;intro I0 H8;simp only[execOp];go_simp) ?_;have f0:b2.eval (.tmp 0)=.pointer (some ⟨B,0,none⟩):=by rw[C,Act.eval_put_ne _ _ _ _ (by decide),M,Act.eval_put_ne _ _ _ _ (by decide)];exact(F.other 0 rfl).trans v0
        have f2:b2.eval (.tmp 2)=.pointer (some ⟨w.heap.size,0,none⟩):=by rw[C,Act.eval_put_ne _ _ _ _ (by decide),M,Act.eval_put_ne _ _ _ _ (by decide)];exact(F.other 2 rfl).trans v2
        have f3:b2.eval (.tmp 3)=.pointer (some ⟨w.heap.size+1,0,none⟩):=by rw[C,Act.eval_put_ne _ _ _ _ (by decide),M,Act.eval_put_ne _ _ _ _ (by decide)];exact(F.other 3 rfl).trans v3
        have f5:b2.eval (.tmp 5)=.slice ya cS.length yc:=by rw[C,Act.eval_put_ne _ _ _ _ (by decide),M,Act.eval_put_ne _ _ _ _ (by decide)];exact(F.other 5 rfl).trans v5
        have A3:b2=⟨#[_,_,_,_,_,_,_,_,_,_,_,_,_,_,_,_,_,_,_,_,_,_,_,_,_,_,_,_,_,_,_,_,_,_,_,_,_,_,_,_,_,_,_,_,_,_,_,_,_,_,_,_,_,_,_,_,_,_,_,_,_,_,_,_,_,_,_],[]⟩:=zcn b2 67 (by rw[C,Act.size_put];exact H6) (by rw[C,Act.defers_put',M,Act.defers_put'];exact F.defers.trans G9);dsimp only at A3;rw[f0,f2,f3,f5]at A3;show E4 b2 _;exact(congrArg (fun x=>E4 x _) A3).mpr (F7.o (fun k=>b2.eval (.tmp k)) _ (H3.putNow (t:=zcv (j.now.seq+1)) (zrc _ _) (z3c _)) ((((((((((A.2.set (.inl (by simp)) 31 _).set (.inl (by simp)) 32 _).set (.inl (by simp)) 33 _).set (.inl (by simp)) 34 _).set (.inl (by simp)) 35 _).set (.inl (by simp)) 36 _).set (.inl (by simp)) 37 _).set (.inl (by simp)) 38 _).set (.inl (by simp)) 39 _).set (.inl (by simp)) 40 _))
      ·have HE:Hid (zcx j=(j,zat (sealE j.rh j.ru j.now))):=by rw[Hid,G4.o,if_neg he]
       have R4:(sealE j.rh j.ru j.now !=0)=true:=by simpa using he
       clear he;generalize sealE j.rh j.ru j.now=E at *;go_wp2_with fail;have i:=C7;have N:=G7;have KR:=G8;have A2:=J6;refine(zav E _).mono ?_;rintro e w2 ⟨rfl,C⟩;have O:=zab (zad C A2 KR.o);have A1:=zab (i.o.below C);have q:=zab (N.o.trans (Y:=[]) (ButL.of_below C) N.o.size (by simp));clear C;obtain⟨⟨l,m,n⟩,yf⟩:=zbn O.o;go_wp2;exact zbd HE.o O.o A1.o q.o r R fun W u0 u1 u2=>by simp[results,results85,go_sem,u0,u1,u2]
     have H2:=zab F5;clear F5 F9;have L6:Hid (IsTx (zau Q (w.heap.size::X)) (.agg #[.int .i64 j.now.seq,.slice c j.now.info.length d,.slice U j.now.data.length b,.slice ne j.now.rev.length Z,.bool j.now.h0.on,.int .i64 j.now.h0.left,.bool j.now.h1.on,.int .i64 j.now.h1.left,.bool j.now.h2.on,.int .i64 j.now.h2.left]) j.now):=E7.o.ext (Ext.newL B9.o (Nat.le_refl _));obtain⟨c3,c4⟩:=B2.o.ring;have C3:=zab c3;have C4:=zab c4;clear c3 c4;obtain⟨⟨l,m,n,y3,y4,y5,y6,y7,y8,y9⟩,_⟩:=zaj D9.o;have Q0:=zab l;have Q1:=zab m;have Q2:=zab n;have Q3:=zab y3;have Q4:=zab y4;have Q5:=zab y5;have Q6:=zab y6;have Q7:=zab y7;have Q8:=zab y8;have Q9:=zab y9;clear l m n y3 y4 y5 y6 y7 y8 y9;have E3:B<Q.heap.size:=by omega
     have K:w.heap.size+1<Q.heap.size:=by omega
     have L8:Hid (∀x∈(w.heap.size::X),x<Q.heap.size):=fun x hx=>by
      rcases List.mem_cons.1 hx with rfl|hx
      ·exact B1
      ·have:=HX.o x hx;omega
     refine(show∀A0:Act,A0=_→Code.wp prog _ _ A0 _ from fun A0 hA0=>?_) _ rfl;have I:A0.tmps.size=67:=by rw[hA0];rfl
     have G9:A0.defers=[]:=by rw[hA0]
     have v0:A0.eval (.tmp 0)=.pointer (some ⟨B,0,none⟩):=by rw[hA0];rfl
     have v2:A0.eval (.tmp 2)=.pointer (some ⟨w.heap.size,0,none⟩):=by rw[hA0];rfl
     have v3:A0.eval (.tmp 3)=.pointer (some ⟨w.heap.size+1,0,none⟩):=by rw[hA0];rfl
     have v4:A0.eval (.tmp 4)=undef:=by rw[hA0];rfl
     clear hA0;refine zde 13 4 (z1r Q) [29,30,31,32,33,34,28,35,36,37,4,4,5] (zdw B j (w.heap.size::X) c d U b ne Z) (by kernel_rfl) (by kernel_rfl) (by kernel_rfl) (by kernel_rfl) (by decide) (⟨(Below.refl _ _).drew,.inl v4⟩) ⟨?_,?_,?_,?_,?_,?_,?_,?_,?_,?_,?_,?_,?_,trivial⟩ ?_
     ·intro a w' F A J;have z0:=(F.other 0 rfl).trans v0;exact zby _ rfl rfl (by revert z0;generalize a.eval=ρ;intro z0;simp only[execOp];go_simp) F I A rfl
     ·intro a w' F A J;have p29:a.eval (.tmp 29)=.pointer (some ⟨B,0,none⟩):=J ⟨0,.data⟩ (by simp) rfl;exact zby _ rfl rfl (by revert p29;generalize a.eval=ρ;intro p29;simp only[execOp];go_simp) F I A rfl
     ·intro a w' F A J;have p30:a.eval (.tmp 30)=.pointer (some ⟨B,0,none⟩):=J ⟨1,.data⟩ (by simp) rfl;exact zby _ rfl rfl (by revert p30;generalize a.eval=ρ;intro p30;simp only[execOp];go_simp) F I A rfl
     ·intro a w' F A J;have p31:a.eval (.tmp 31)=.pointer (some ⟨B,3,none⟩):=J ⟨2,.data⟩ (by simp) rfl;have c0:w'.cell? ⟨B,3,none⟩=some (.int .i64 j.rh):=zac A.1 E3 C3.o;have c1:w'.cell? ⟨B,4,none⟩=some (.int .i64 j.ru):=zac A.1 E3 C4.o;exact zby _ rfl rfl (by revert p31;generalize a.eval=ρ;intro p31;simp only[execOp];go_simp) F I A rfl
     ·intro a w' F A J;have z3:=(F.other 3 rfl).trans v3;have c0:w'.cell? ⟨w.heap.size+1,0,none⟩=some (.int .i64 j.now.seq):=zac A.1 K Q0.o;have c1:w'.cell? ⟨w.heap.size+1,1,none⟩=some (.slice c j.now.info.length d):=zac A.1 K Q1.o;have c2:w'.cell? ⟨w.heap.size+1,2,none⟩=some (.slice U j.now.data.length b):=zac A.1 K Q2.o;have c3:w'.cell? ⟨w.heap.size+1,3,none⟩=some (.slice ne j.now.rev.length Z):=zac A.1 K Q3.o;have c4:w'.cell? ⟨w.heap.size+1,4,none⟩=some (.bool j.now.h0.on):=zac A.1 K Q4.o;have c5:w'.cell? ⟨w.heap.size+1,5,none⟩=some (.int .i64 j.now.h0.left):=zac A.1 K Q5.o;have c6:w'.cell? ⟨w.heap.size+1,6,none⟩=some (.bool j.now.h1.on):=zac A.1 K Q6.o;have c7:w'.cell? ⟨w.heap.size+1,7,none⟩=some (.int .i64 j.now.h1.left):=zac A.1 K Q7.o;have c8:w'.cell? ⟨w.heap.size+1,8,none⟩=some (.bool j.now.h2.on):=zac A.1 K Q8.o;have c9:w'.cell? ⟨w.heap.size+1,9,none⟩=some (.int .i64 j.now.h2.left):=zac A.1 K Q9.o;exact zby _ rfl rfl (by revert z3;generalize a.eval=ρ;intro z3;simp only[execOp];go_simp) F I A rfl
     ·intro a w' F A J;have p32:a.eval (.tmp 32)=.agg #[.int .i64 j.rh,.int .i64 j.ru]:=J ⟨3,.data⟩ (by simp) rfl;have p33:a.eval (.tmp 33)=.agg #[.int .i64 j.now.seq,.slice c j.now.info.length d,.slice U j.now.data.length b,.slice ne j.now.rev.length Z,.bool j.now.h0.on,.int .i64 j.now.h0.left,.bool j.now.h1.on,.int .i64 j.now.h1.left,.bool j.now.h2.on,.int .i64 j.now.h2.left]:=J ⟨4,.data⟩ (by simp) rfl;refine zbp 125 #[.agg #[.int .i64 j.rh,.int .i64 j.ru],.agg #[.int .i64 j.now.seq,.slice c j.now.info.length d,.slice U j.now.data.length b,.slice ne j.now.rev.length Z,.bool j.now.h0.on,.int .i64 j.now.h0.left,.bool j.now.h1.on,.int .i64 j.now.h1.left,.bool j.now.h2.on,.int .i64 j.now.h2.left]] rfl rfl (by have pf:=Act.eval_func a 125;revert p32 p33 pf;generalize a.eval=ρ;intro p32 p33 pf;simp only[execOp];go_simp) _ (zt7 j.rh j.ru j.now c d U b ne Z _ ((L6.o.ext (Ext.seenL Q _)).below A.1) M3.o r1 r2) ?_;rintro e w2 ⟨a2,c2,rfl,M2,C,L4⟩;refine⟨_,rfl,_,rfl,?_,?_,?_⟩
      ·show z1r Q ((a.put (some 34) _).eval (.tmp 4)) w2;rw[Act.eval_put_ne _ _ _ _ (by decide)];exact zx0 A C
      ·show zdw _ _ _ _ _ _ _ _ _ _ ((a.put (some 34) _).eval (.tmp 34)) ((a.put (some 34) _).eval (.tmp 4)) w2;rw[zan F I (by decide),Act.eval_put_ne _ _ _ _ (by decide)];exact⟨_,rfl,okSt.made L8.o A M2 L4⟩
      ·intro kk x hk h;show zdw _ _ _ _ _ _ _ _ _ kk x ((a.put (some 34) _).eval (.tmp 4)) w2;rw[Act.eval_put_ne _ _ _ _ (by decide)];exact zr1 C kk x h
     ·intro a w' F A J;obtain⟨x,pc,ok⟩:∃x,a.eval (.tmp 34)=.tuple #[.agg #[.int .i64 (zcl j.rh j.ru j.now),.int .i64 (zce j.rh j.ru j.now)],x,.int .i64 (sealE j.rh j.ru j.now)]∧okSt (w.heap.size::X) (commitS j.rh j.ru j.now) x (a.eval (.tmp 4)) w':=J ⟨5,.data⟩ (by simp) rfl;refine zar (.tuple #[.agg #[.int .i64 (zcl j.rh j.ru j.now),.int .i64 (zce j.rh j.ru j.now)],x,.int .i64 (sealE j.rh j.ru j.now)]) rfl rfl (by revert pc;generalize a.eval=ρ;intro pc;simp only[execOp];go_simp) ⟨_,rfl,?_,?_,?_⟩
      ·show z1r Q ((a.put (some 28) _).eval (.tmp 4)) w';rw[Act.eval_put_ne _ _ _ _ (by decide)];exact A
      ·show zdw _ _ _ _ _ _ _ _ _ _ ((a.put (some 28) _).eval (.tmp 28)) ((a.put (some 28) _).eval (.tmp 4)) w';rw[zan F I (by decide),Act.eval_put_ne _ _ _ _ (by decide)];exact⟨x,rfl,ok⟩
      ·intro kk x hk h;show zdw _ _ _ _ _ _ _ _ _ kk x ((a.put (some 28) _).eval (.tmp 4)) w';rw[Act.eval_put_ne _ _ _ _ (by decide)];exact h
     ·intro a w' F A J;obtain⟨x,pm,ok⟩:∃x,a.eval (.tmp 28)=.tuple #[.agg #[.int .i64 (zcl j.rh j.ru j.now),.int .i64 (zce j.rh j.ru j.now)],x,.int .i64 (sealE j.rh j.ru j.now)]∧okSt (w.heap.size::X) (commitS j.rh j.ru j.now) x (a.eval (.tmp 4)) w':=J ⟨6,.data⟩ (by simp) rfl;exact zby _ rfl rfl (by revert pm;generalize a.eval=ρ;intro pm;simp only[execOp];go_simp) F I A rfl
     ·intro a w' F A J;obtain⟨x,pm,ok⟩:∃x,a.eval (.tmp 28)=.tuple #[.agg #[.int .i64 (zcl j.rh j.ru j.now),.int .i64 (zce j.rh j.ru j.now)],x,.int .i64 (sealE j.rh j.ru j.now)]∧okSt (w.heap.size::X) (commitS j.rh j.ru j.now) x (a.eval (.tmp 4)) w':=J ⟨6,.data⟩ (by simp) rfl;refine zar (x) rfl rfl (by revert pm;generalize a.eval=ρ;intro pm;simp only[execOp];go_simp) ⟨_,rfl,?_,?_,?_⟩
      ·show z1r Q ((a.put (some 36) _).eval (.tmp 4)) w';rw[Act.eval_put_ne _ _ _ _ (by decide)];exact A
      ·show zdw _ _ _ _ _ _ _ _ _ _ ((a.put (some 36) _).eval (.tmp 36)) ((a.put (some 36) _).eval (.tmp 4)) w';rw[zan F I (by decide),Act.eval_put_ne _ _ _ _ (by decide)];exact ok
      ·intro kk x hk h;show zdw _ _ _ _ _ _ _ _ _ kk x ((a.put (some 36) _).eval (.tmp 4)) w';rw[Act.eval_put_ne _ _ _ _ (by decide)];exact h
     ·intro a w' F A J;obtain⟨x,pm,ok⟩:∃x,a.eval (.tmp 28)=.tuple #[.agg #[.int .i64 (zcl j.rh j.ru j.now),.int .i64 (zce j.rh j.ru j.now)],x,.int .i64 (sealE j.rh j.ru j.now)]∧okSt (w.heap.size::X) (commitS j.rh j.ru j.now) x (a.eval (.tmp 4)) w':=J ⟨6,.data⟩ (by simp) rfl;exact zby _ rfl rfl (by revert pm;generalize a.eval=ρ;intro pm;simp only[execOp];go_simp) F I A rfl
     ·intro a w' F A J;refine zfl (.pointer (some ⟨w'.heap.size,0,none⟩)) rfl rfl (w':=w'.alloc (.cells #[.int .i64 0,.int .i64 0] 26)) (by simp only[execOp];go_simp) ⟨_,rfl,?_,?_,?_⟩
      ·show z1r Q ((a.put (some 4) _).eval (.tmp 4)) _;rw[zan F I (by decide)];exact⟨A.1.alloc A.1.size _,.inr ⟨_,rfl,A.1.size,by simp,_,_,heap_alloc_new _ _⟩⟩
      ·show zdw _ _ _ _ _ _ _ _ _ _ ((a.put (some 4) _).eval (.tmp 4)) ((a.put (some 4) _).eval (.tmp 4)) _;rw[zan F I (by decide)];exact⟨_,rfl⟩
      ·intro kk x hk h;show zdw _ _ _ _ _ _ _ _ _ kk x ((a.put (some 4) _).eval (.tmp 4)) _;rw[zan F I (by decide)];exact zr2 _ kk x h
     ·intro a w' F A J;obtain⟨T,pT⟩:∃T,a.eval (.tmp 4)=.pointer (some ⟨T,0,none⟩):=J ⟨10,.data⟩ (by simp) rfl;have p0:a.eval (.tmp 35)=.agg #[.int .i64 (zcl j.rh j.ru j.now),.int .i64 (zce j.rh j.ru j.now)]:=J ⟨7,.data⟩ (by simp) rfl
      obtain⟨A9,L1,c0,c1,A6⟩:Q.heap.size≤T∧T<w'.heap.size∧∃c0 c1,w'.heap[T]?=some (.cells #[c0,c1] 26 (0,0)):=by
       rcases A.2 with h0|⟨T',e,h3,h4,h5⟩
       ·rw[h0]at pT;cases pT
       ·rw[e]at pT;cases pT;exact⟨h3,h4,h5⟩
      obtain⟨⟨t0,t1⟩,tf⟩:=zgq A6;refine zco rfl rfl (w':=((w'.setCell ⟨T,0,none⟩ (.int .i64 (zcl j.rh j.ru j.now))).setCell ⟨T,1,none⟩ (.int .i64 (zce j.rh j.ru j.now)))) (by revert pT p0;generalize a.eval=ρ;intro pT p0;simp only[execOp];go_simp) ⟨_,rfl,?_,?_,?_⟩
      ·show z1r Q (a.eval (.tmp 4)) _;exact⟨(A.1.setCell (p:=⟨T,0,none⟩) A9 _).setCell (p:=⟨T,1,none⟩) A9 _,.inr ⟨T,pT,A9,by simpa[World.setCell] using L1,_,_,zjs A6 _ _⟩⟩
      ·show zdw _ _ _ _ _ _ _ _ _ _ (a.eval (.tmp 4)) (a.eval (.tmp 4)) _;exact⟨T,pT,zjs A6 _ _⟩
      ·intro kk x hk h;show zdw _ _ _ _ _ _ _ _ _ kk x (a.eval (.tmp 4)) _;rw[pT]at h⊢;exact zr3 (fun x h=>h.store _ _) kk x hk h
     ·intro a w' F A J;have ok:okSt (w.heap.size::X) (commitS j.rh j.ru j.now) (a.eval (.tmp 36)) (a.eval (.tmp 4)) w':=J ⟨8,.data⟩ (by simp) rfl;obtain⟨y,hy⟩:∃y,y=a.eval (.tmp 36):=⟨_,rfl⟩;rw[←hy]at ok;have py:=hy.symm;refine zar y rfl rfl (by revert py;generalize a.eval=ρ;intro py;simp only[execOp];go_simp) ⟨_,rfl,?_,?_,?_⟩
      ·show z1r Q ((a.put (some 5) _).eval (.tmp 4)) w';rw[Act.eval_put_ne _ _ _ _ (by decide)];exact A
      ·show zdw _ _ _ _ _ _ _ _ _ _ ((a.put (some 5) _).eval (.tmp 5)) ((a.put (some 5) _).eval (.tmp 4)) w';rw[zan F I (by decide),Act.eval_put_ne _ _ _ _ (by decide)];exact ok
      ·intro kk x hk h;show zdw _ _ _ _ _ _ _ _ _ kk x ((a.put (some 5) _).eval (.tmp 4)) w';rw[Act.eval_put_ne _ _ _ _ (by decide)];exact h
     ·intro a W F A J;obtain⟨T,pT,A6⟩:∃T,a.eval (.tmp 4)=.pointer (some ⟨T,0,none⟩)∧W.heap[T]?=some (.cells #[.int .i64 (zcl j.rh j.ru j.now),.int .i64 (zce j.rh j.ru j.now)] 26 (0,0)):=J 11 (by decide);obtain⟨ya,yc,pS,C9,E2,_⟩:okSt (w.heap.size::X) (commitS j.rh j.ru j.now) (a.eval (.tmp 5)) (a.eval (.tmp 4)) W:=J 12 (by decide);have pE:a.eval (.tmp 37)=.int .i64 (sealE j.rh j.ru j.now):=J 9 (by decide)
      have A9:Q.heap.size≤T:=by
       rcases A.2 with h0|⟨T',e,h3,h4,h5⟩
       ·rw[h0]at pT;cases pT
       ·rw[e]at pT;cases pT;exact h3
      show wpOps prog _ _ [13] a W;rw[wpOps_cons];refine zar (.int .i64 (sealE j.rh j.ru j.now)) rfl rfl (by revert pE;generalize a.eval=ρ;intro pE;simp only[execOp];go_simp) ?_;have B5:a.tmps.size=67:=F.size.trans I;obtain⟨a2,A5⟩:∃a2,a2=a.put (some 6) (.int .i64 (sealE j.rh j.ru j.now)):=⟨_,rfl⟩;have f6:a2.eval (.tmp 6)=.int .i64 (sealE j.rh j.ru j.now):=by rw[A5];exact Act.eval_put_same _ _ _ (by rw[B5];decide)
      have f0:a2.eval (.tmp 0)=.pointer (some ⟨B,0,none⟩):=by rw[A5,Act.eval_put_ne _ _ _ _ (by decide)];exact(F.other 0 rfl).trans v0
      have f2:a2.eval (.tmp 2)=.pointer (some ⟨w.heap.size,0,none⟩):=by rw[A5,Act.eval_put_ne _ _ _ _ (by decide)];exact(F.other 2 rfl).trans v2
      have f3:a2.eval (.tmp 3)=.pointer (some ⟨w.heap.size+1,0,none⟩):=by rw[A5,Act.eval_put_ne _ _ _ _ (by decide)];exact(F.other 3 rfl).trans v3
      have f4:a2.eval (.tmp 4)=.pointer (some ⟨T,0,none⟩):=by rw[A5,Act.eval_put_ne _ _ _ _ (by decide)];exact pT
      have f5:a2.eval (.tmp 5)=.slice ya (commitS j.rh j.ru j.now).length yc:=by rw[A5,Act.eval_put_ne _ _ _ _ (by decide)];exact pS
      have A3:a2=⟨#[_,_,_,_,_,_,_,_,_,_,_,_,_,_,_,_,_,_,_,_,_,_,_,_,_,_,_,_,_,_,_,_,_,_,_,_,_,_,_,_,_,_,_,_,_,_,_,_,_,_,_,_,_,_,_,_,_,_,_,_,_,_,_,_,_,_,_],[]⟩:=zcn a2 67 (by rw[A5,Act.size_put];exact B5) (by rw[A5,Act.defers_put'];exact F.defers.trans G9);dsimp only at A3;rw[f0,f2,f3,f4,f5,f6]at A3;show KK (a.put (some 6) (.int .i64 (sealE j.rh j.ru j.now))) _;rw[←A5];exact(congrArg (fun x=>KK x _) A3).mpr (H2.o (fun k=>a2.eval (.tmp k)) _ T ya yc A6 E2 C9 A9 A.1)
