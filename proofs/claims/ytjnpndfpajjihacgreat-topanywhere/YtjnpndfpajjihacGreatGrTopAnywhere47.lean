/-
  
-/
import Derived.Test.YtjnpndfpajjihacGreatGrTopAnywhere41
import Derived.Test.YtjnpndfpajjihacGreatGrTopAnywhere46
set_option maxRecDepth 100000
set_option maxHeartbeats 40000000
namespace Go.Proofs.YtjnpndfpajjihacGreat
open Go.RowKit
theorem zt4(rh ru:Int)(t:Tx)(na:Option Addr)(nc:Nat)(nb:Option Addr)(nd:Nat)(ne:Option Addr)(nf:Nat)(w:World)(hT:IsTx w (.agg #[.int .i64 t.seq,.slice na t.info.length nc,.slice nb t.data.length nd,.slice ne t.rev.length nf,.bool t.h0.on,.int .i64 t.h0.left,.bool t.h1.on,.int .i64 t.h1.left,.bool t.h2.on,.int .i64 t.h2.left]) t)(hR:RoomTx (.agg #[.int .i64 t.seq,.slice na t.info.length nc,.slice nb t.data.length nd,.slice ne t.rev.length nf,.bool t.h0.on,.int .i64 t.h0.left,.bool t.h1.on,.int .i64 t.h1.left,.bool t.h2.on,.int .i64 t.h2.left]))(r1:t.info.length*24≤140737488355328)(r2:t.data.length*24≤140737488355328):
  Calls Tryz.prog 125 #[.agg #[.int .i64 rh,.int .i64 ru],.agg #[.int .i64 t.seq,.slice na t.info.length nc,.slice nb t.data.length nd,.slice ne t.rev.length nf,.bool t.h0.on,.int .i64 t.h0.left,.bool t.h1.on,.int .i64 t.h1.left,.bool t.h2.on,.int .i64 t.h2.left]] w fun e w'=>∃a c,e=.returned (.tuple #[.agg #[.int .i64 (zcm rh ru t),.int .i64 (zch rh ru t)],.slice a (commitS rh ru t).length c,.int .i64 (sealE rh ru t)])∧(commitS rh ru t).length≤c∧Below w.heap.size w w'∧∀Y:List Nat,(∀x∈Y,x<w.heap.size)→SegSt (zas w' Y) a (commitS rh ru t):=by
 by_cases he:sealE rh ru t=0
 ·exact(z0t rh ru t na nb ne nc nd nf w hT hR.is.1 hR.is.2.2 he).mono fun _ _ ⟨a,c,h1,hc,hF,h2,h3⟩=>⟨a,c,h1,hc,h3,fun _ hY=>h2.hideF hF hY⟩
 ·exact(z0p rh ru _ t w hT r1 r2 he).mono fun _ _ ⟨a,c,h1,_,h3⟩=>⟨a,c,h1,by rw[commitS,if_neg he];exact Nat.zero_le _,h3,fun _ _=>.inl (by rw[commitS,if_neg he])⟩
def z1u (W:World)(u:Value)(w:World):Prop:=Below W.heap.size W w∧(u=undef∨∃T,u=.pointer (some ⟨T,0,none⟩)∧W.heap.size≤T∧T<w.heap.size∧∃c0 c1,w.heap[T]?=some (.cells #[c0,c1] 26 (0,0)))
theorem zxy{W:World}{u:Value}{w w':World}(h:z1u W u w)(hb:Below w.heap.size w w'):z1u W u w':=
 ⟨zae h.1 hb,h.2.imp id fun⟨T,h1,h2,h3,c0,c1,h4⟩=>⟨T,h1,h2,Nat.lt_of_lt_of_le h3 hb.size,c0,c1,zad hb h3 h4⟩⟩
def okSt (X:List Nat)(l:List St)(x u:Value)(w:World):Prop:=∃a c,x=.slice a l.length c∧l.length≤c∧SegSt (zas w X) a l∧∀T,u=.pointer (some ⟨T,0,none⟩)→SegSt (zas w (T::X)) a l
theorem okSt.below{X:List Nat}{l:List St}{x u:Value}{w w':World}(h:okSt X l x u w)(hb:Below w.heap.size w w'):okSt X l x u w':=by
 obtain⟨a,c,B,A,C,D⟩:=h;exact⟨a,c,B,A,C.ext (Ext.freshL hb),fun T e=>(D T e).ext (Ext.freshL hb)⟩
theorem okSt.alloc{X:List Nat}{l:List St}{x u:Value}{w:World}(h:okSt X l x u w)(o:Obj):okSt X l x (.pointer (some ⟨w.heap.size,0,none⟩)) (w.alloc o):=by
 obtain⟨a,c,C,B,A,_⟩:=h;exact⟨a,c,C,B,A.ext (Ext.freshL (zab _ _)),fun T e=>by cases e;exact A.ext (Ext.newL (zab _ _) (Nat.le_refl _))⟩
theorem okSt.store{X:List Nat}{l:List St}{x:Value}{T:Nat}{w:World}(h:okSt X l x (.pointer (some ⟨T,0,none⟩)) w)(v0 v1:Value):okSt X l x (.pointer (some ⟨T,0,none⟩)) ((w.setCell ⟨T,0,none⟩ (v0)).setCell ⟨T,1,none⟩ (v1)):=by
 obtain⟨a,c,B,A,_,C⟩:=h;have k:=((C T rfl).ext (Ext.setL (X:=T::X) (b:=T) (by simp) 0 v0)).ext (Ext.setL (X:=T::X) (b:=T) (by simp) 1 v1);exact⟨a,c,B,A,k.ext (Ext.lessL T),fun T' e=>by cases e;exact k⟩
theorem okSt.made{X:List Nat}{l:List St}{a:Option Addr}{c:Nat}{u:Value}{W w w2:World}(hX:∀x∈X,x<W.heap.size)(hB:z1u W u w)(hc:l.length≤c)(h:∀Y:List Nat,(∀x∈Y,x<w.heap.size)→SegSt (zas w2 Y) a l):okSt X l (.slice a l.length c) u w2:=by
 have hs:=hB.1.size;refine⟨a,c,rfl,hc,h X (fun x hx=>by have:=hX x hx;omega),fun T e=>h (T::X) (fun x hx=>?_)⟩;rcases List.mem_cons.1 hx with rfl|hx
 ·rcases hB.2 with h0|⟨T',e',h3,h4,_⟩
  ·rw[h0]at e;cases e
  ·rw[e']at e;cases e;exact h4
 ·have:=hX x hx;omega
open Go.Proofs.Tryz
def zt6 (B:Nat)(D:Nat)(j:Jn)(X:List Nat)(na:Option Addr)(nc:Nat)(nb:Option Addr)(nd:Nat)(ne:Option Addr)(nf:Nat)(sH:Int)(sU:Int):Nat→Value→World→Prop
 |0,v,_=>v=.pointer (some ⟨B,0,none⟩)
 |1,v,_=>v=.pointer (some ⟨B,0,none⟩)
 |2,v,_=>v=.agg #[.int .i64 j.now.seq,.slice na j.now.info.length nc,.slice nb j.now.data.length nd,.slice ne j.now.rev.length nf,.bool j.now.h0.on,.int .i64 j.now.h0.left,.bool j.now.h1.on,.int .i64 j.now.h1.left,.bool j.now.h2.on,.int .i64 j.now.h2.left]
 |3,v,_=>v=.pointer (some ⟨D,0,none⟩)
 |4,v,_=>v=.int .i64 j.now.seq
 |5,v,_=>v=.int .i64 (j.now.seq+1)
 |6,v,_=>v=.agg #[.int .i64 (j.now.seq+1),.slice none 0 0,.slice none 0 0,.slice none 0 0,.bool false,.int .i64 0,.bool false,.int .i64 0,.bool false,.int .i64 0]
 |7,v,_=>v=.pointer (some ⟨B,0,none⟩)
 |8,v,_=>v=.pointer (some ⟨B,41,none⟩)
 |9,_,w=>JAt w B X {j with rh:=sH,ru:=sU,sealed:=j.now}
 |_,_,_=>True
theorem zt7{B:Nat}{D:Nat}{j:Jn}{X:List Nat}{na:Option Addr}{nc:Nat}{nb:Option Addr}{nd:Nat}{ne:Option Addr}{nf:Nat}{sH:Int}{sU:Int}{w w':World}:∀kk x,kk≠9→zt6 B D j X na nc nb nd ne nf sH sU kk x w→zt6 B D j X na nc nb nd ne nf sH sU kk x w':=by
 intro kk x A h
 match kk,h with
 |0,h|1,h|2,h|3,h|4,h|5,h|6,h|7,h|8,h=>exact h
 |9,_=>exact absurd rfl A
 |_+10,_=>exact trivial
theorem JAt.ring{w:World}{B:Nat}{X:List Nat}{j:Jn}(h:JAt w B X j):w.cell? ⟨B,3,none⟩=some (.int .i64 j.rh)∧w.cell? ⟨B,4,none⟩=some (.int .i64 j.ru):=by
 obtain⟨_,da,dc,db,dd,na,nc,nb,nd,ne,nf,sa,sc,sb,sd,se,sf,ca,cc,fa,fc,ta,tc,A,_⟩:=h;exact⟨(zak A 3).trans rfl,(zak A 4).trans rfl⟩
def zdw (B:Nat)(j:Jn)(X:List Nat)(na:Option Addr)(nc:Nat)(nb:Option Addr)(nd:Nat)(ne:Option Addr)(nf:Nat):Nat→Value→Value→World→Prop
 |0,v,_,_=>v=.pointer (some ⟨B,0,none⟩)
 |1,v,_,_=>v=.pointer (some ⟨B,0,none⟩)
 |2,v,_,_=>v=.pointer (some ⟨B,3,none⟩)
 |3,v,_,_=>v=.agg #[.int .i64 j.rh,.int .i64 j.ru]
 |4,v,_,_=>v=.agg #[.int .i64 j.now.seq,.slice na j.now.info.length nc,.slice nb j.now.data.length nd,.slice ne j.now.rev.length nf,.bool j.now.h0.on,.int .i64 j.now.h0.left,.bool j.now.h1.on,.int .i64 j.now.h1.left,.bool j.now.h2.on,.int .i64 j.now.h2.left]
 |5,v,u,w=>∃x,v=.tuple #[.agg #[.int .i64 (zcm j.rh j.ru j.now),.int .i64 (zch j.rh j.ru j.now)],x,.int .i64 (sealE j.rh j.ru j.now)]∧okSt X (commitS j.rh j.ru j.now) x u w
 |6,v,u,w=>∃x,v=.tuple #[.agg #[.int .i64 (zcm j.rh j.ru j.now),.int .i64 (zch j.rh j.ru j.now)],x,.int .i64 (sealE j.rh j.ru j.now)]∧okSt X (commitS j.rh j.ru j.now) x u w
 |7,v,_,_=>v=.agg #[.int .i64 (zcm j.rh j.ru j.now),.int .i64 (zch j.rh j.ru j.now)]
 |8,v,u,w=>okSt X (commitS j.rh j.ru j.now) v u w
 |9,v,_,_=>v=.int .i64 (sealE j.rh j.ru j.now)
 |10,v,_,_=>∃T,v=.pointer (some ⟨T,0,none⟩)
 |11,v,_,w=>∃T,v=.pointer (some ⟨T,0,none⟩)∧w.heap[T]?=some (.cells #[.int .i64 (zcm j.rh j.ru j.now),.int .i64 (zch j.rh j.ru j.now)] 26 (0,0))
 |12,v,u,w=>okSt X (commitS j.rh j.ru j.now) v u w
 |_,_,_,_=>True
theorem zr3{B:Nat}{j:Jn}{X:List Nat}{na:Option Addr}{nc:Nat}{nb:Option Addr}{nd:Nat}{ne:Option Addr}{nf:Nat}{u:Value}{w w':World}(hb:Below w.heap.size w w'):∀kk x,zdw B j X na nc nb nd ne nf kk x u w→zdw B j X na nc nb nd ne nf kk x u w':=by
 intro kk x h
 match kk,h with
 |0,h|1,h|2,h|3,h|4,h=>exact h
 |5,⟨x,h1,h2⟩=>exact⟨x,h1,h2.below hb⟩
 |6,⟨x,h1,h2⟩=>exact⟨x,h1,h2.below hb⟩
 |7,h=>exact h
 |8,h=>exact h.below hb
 |9,h|10,h=>exact h
 |11,⟨T,h1,h2⟩=>exact⟨T,h1,zad hb (Array.getElem?_eq_some_iff.1 h2).1 h2⟩
 |12,h=>exact h.below hb
 |_+13,_=>exact trivial
theorem zr4{B:Nat}{j:Jn}{X:List Nat}{na:Option Addr}{nc:Nat}{nb:Option Addr}{nd:Nat}{ne:Option Addr}{nf:Nat}{u:Value}{w:World}(o:Obj):∀kk x,zdw B j X na nc nb nd ne nf kk x u w→zdw B j X na nc nb nd ne nf kk x (.pointer (some ⟨w.heap.size,0,none⟩)) (w.alloc o):=by
 intro kk x h
 match kk,h with
 |0,h|1,h|2,h|3,h|4,h=>exact h
 |5,⟨x,h1,h2⟩=>exact⟨x,h1,h2.alloc o⟩
 |6,⟨x,h1,h2⟩=>exact⟨x,h1,h2.alloc o⟩
 |7,h=>exact h
 |8,h=>exact h.alloc o
 |9,h|10,h=>exact h
 |11,⟨T,h1,h2⟩=>exact⟨T,h1,zad (zab _ _) (Array.getElem?_eq_some_iff.1 h2).1 h2⟩
 |12,h=>exact h.alloc o
 |_+13,_=>exact trivial
theorem zr5{B:Nat}{j:Jn}{X:List Nat}{na:Option Addr}{nc:Nat}{nb:Option Addr}{nd:Nat}{ne:Option Addr}{nf:Nat}{u:Value}{w w':World}(hs:∀x,okSt X (commitS j.rh j.ru j.now) x u w→okSt X (commitS j.rh j.ru j.now) x u w'):∀kk x,kk≠11→zdw B j X na nc nb nd ne nf kk x u w→zdw B j X na nc nb nd ne nf kk x u w':=by
 intro kk x A h
 match kk,h with
 |0,h|1,h|2,h|3,h|4,h=>exact h
 |5,⟨y,h1,h2⟩=>exact⟨y,h1,hs _ h2⟩
 |6,⟨y,h1,h2⟩=>exact⟨y,h1,hs _ h2⟩
 |7,h=>exact h
 |8,h=>exact hs _ h
 |9,h|10,h=>exact h
 |11,_=>exact absurd rfl A
 |12,h=>exact hs _ h
 |_+13,_=>exact trivial
theorem zt8(B:Nat)(X:List Nat)(j:Jn)(w:World)(h:JAt w B X j)(hX:∀x∈X,x<w.heap.size)(r1:j.now.info.length*24≤140737488355328)(r2:j.now.data.length*24≤140737488355328)(hwp:IntKind.i64.wrap (j.now.seq+1)=j.now.seq+1):
  Calls prog 85 #[.pointer (some ⟨B,0,none⟩)] w (zdg w B X (zcv j)):=by
 have HJ:=zaa h;have P6:=h.lt;have R:=h.1;have HX:=zaa hX;have L4:=zaa hwp;obtain⟨_,da,dc,db,dd,b,Z,c,d,ne,U,sa,sc,sb,sd,se,sf,ca,cc,fa,fc,ta,tc,D,hr⟩:=id h;have K5:w.cell? ⟨B,31,none⟩=some (.int .i64 j.now.seq):=zak D 31;have K4:w.cell? ⟨B,32,none⟩=some (.slice b j.now.info.length Z):=zak D 32;have J9:w.cell? ⟨B,33,none⟩=some (.slice c j.now.data.length d):=zak D 33;have L1:w.cell? ⟨B,34,none⟩=some (.slice ne j.now.rev.length U):=zak D 34;have L9:w.cell? ⟨B,35,none⟩=some (.bool j.now.h0.on):=zak D 35;have L5:w.cell? ⟨B,36,none⟩=some (.int .i64 j.now.h0.left):=zak D 36;have L6:w.cell? ⟨B,37,none⟩=some (.bool j.now.h1.on):=zak D 37;have M6:w.cell? ⟨B,38,none⟩=some (.int .i64 j.now.h1.left):=zak D 38;have K1:w.cell? ⟨B,39,none⟩=some (.bool j.now.h2.on):=zak D 39;have L0:w.cell? ⟨B,40,none⟩=some (.int .i64 j.now.h2.left):=zak D 40;have M3:=zaa (hr.2.1.ext (Ext.seenL w X));have E4:=zaa hr.2.1;have K3:=zaa hr.2.2.2.2.2.2.1;clear h hX hwp D hr;have S2:¬w.heap.size=B:=by omega
 have L:¬w.heap.size+1=B:=by omega
 go_enter func85,ntmps85;go_wp2_with fail;obtain⟨W1,A8⟩:∃W1,W1=(w.alloc (.cells #[.int .i64 0,.int .i64 0,.string ⟨#[]⟩] 31)).alloc (.cells #[.int .i64 j.now.seq,.slice b j.now.info.length Z,.slice c j.now.data.length d,.slice ne j.now.rev.length U,.bool j.now.h0.on,.int .i64 j.now.h0.left,.bool j.now.h1.on,.int .i64 j.now.h1.left,.bool j.now.h2.on,.int .i64 j.now.h2.left] 40):=⟨_,rfl⟩;have I5:(w.alloc (.cells #[.int .i64 0,.int .i64 0,.string ⟨#[]⟩] 31)).heap.size=w.heap.size+1:=by simp
 have i:Hid (JAt W1 B (w.heap.size::X) j):=by rw[A8];exact(HJ.o.more (zab _ _) (Nat.le_refl _)).below (zab _ _)
 have M:Hid (ButL [B] w.heap.size w W1):=by rw[A8];exact ButL.of_below (zae (zab _ _) (zab _ _))
 have G3:Hid (Below w.heap.size w W1):=by rw[A8];exact zae (zab _ _) (zab _ _)
 have KR:Hid (W1.heap[w.heap.size]?=some (.cells #[.int .i64 0,.int .i64 0,.string ⟨#[]⟩] 31 (0,0))):=by rw[A8];exact zad (zab _ _) (by omega) (heap_alloc_new _ _)
 have KA:Hid (W1.heap[w.heap.size+1]?=some (.cells #[.int .i64 j.now.seq,.slice b j.now.info.length Z,.slice c j.now.data.length d,.slice ne j.now.rev.length U,.bool j.now.h0.on,.int .i64 j.now.h0.left,.bool j.now.h1.on,.int .i64 j.now.h1.left,.bool j.now.h2.on,.int .i64 j.now.h2.left] 40 (0,0))):=by rw[A8,←I5];exact heap_alloc_new _ _
 have R8:W1.heap.size=w.heap.size+2:=by rw[A8];simp
 have q:w.heap.size<W1.heap.size:=by omega
 have A3:w.heap.size≠B:=by omega
 rw[←A8];clear A8 I5;refine(zfl B (w.heap.size::X) j W1 i.o).mono ?_;rintro e w' ⟨rfl,rfl⟩;by_cases hs:0<j.steps.length
 ·have HE:Hid (zcv j=(j,zat 9)):=by rw[Hid,zcv,if_pos (.inl (by intro e;rw[e]at hs;simp at hs))]
  have B6:decide (0<j.steps.length)=true:=by simpa using hs
  rw[B6];clear hs B6;go_wp2_with fail;refine(zau 9 _).mono ?_;rintro e w2 ⟨rfl,C⟩;have O:=zaa (zad C q KR.o);have A1:=zaa (i.o.below C);have A2:=zaa (M.o.trans (Y:=[]) (ButL.of_below C) M.o.size (by simp));clear C;obtain⟨⟨m,l,n⟩,yf⟩:=zbl O.o;go_wp2;exact zbg HE.o O.o A1.o A2.o A3 R fun W u0 u1 u2=>by simp[results,results85,go_sem,u0,u1,u2]
 ·have B6:decide (0<j.steps.length)=false:=by simpa using hs
  have I2:j.steps=[]:=List.eq_nil_of_length_eq_zero (by omega);rw[B6];clear hs B6;obtain⟨⟨m,l,n,y3,y4,y5,y6,y7,y8,y9⟩,_⟩:=zaj KA.o;go_wp2_with fail;refine(zqw _ j.now _ (M3.o.below G3.o)).mono ?_;rintro e w1 ⟨rfl,N⟩;have E8:=zaa (i.o.below N);have C6:Hid (ButL [B] w.heap.size w w1):=M.o.trans (Y:=[]) (ButL.of_below N) M.o.size (by simp);have E7:=zaa (zae G3.o N);have F2:=zaa (zad N q KR.o);have G5:=zaa (zad N (show w.heap.size+1<w'.heap.size by omega) KA.o);have R6:w'.heap.size≤w1.heap.size:=N.size;clear N m l n y3 y4 y5 y6 y7 y8 y9 i M G3 KR KA;by_cases hop:zic j.now=true
  ·have HE:Hid (zcv j=(j,zat 9)):=by rw[Hid,zcv,if_pos (.inr hop)]
   rw[hop];clear hop;have i:=E8;have M:=C6;have KR:=F2;have q:w.heap.size<w1.heap.size:=by omega
   go_wp2_with fail;refine(zau 9 _).mono ?_;rintro e w2 ⟨rfl,C⟩;have O:=zaa (zad C q KR.o);have A1:=zaa (i.o.below C);have A2:=zaa (M.o.trans (Y:=[]) (ButL.of_below C) M.o.size (by simp));clear C;obtain⟨⟨m,l,n⟩,yf⟩:=zbl O.o;go_wp2;exact zbg HE.o O.o A1.o A2.o A3 R fun W u0 u1 u2=>by simp[results,results85,go_sem,u0,u1,u2]
  ·have B8:zic j.now=false:=by simpa using hop
   have E9:Hid (¬(j.steps≠[]∨zic j.now=true)):=by rw[Hid,I2,B8];simp
   rw[B8];clear hop B8 I2;obtain⟨⟨m,l,n,y3,y4,y5,y6,y7,y8,y9⟩,_⟩:=zaj G5.o;go_wp2_with fail;refine(zty j.now b Z c d ne U w1).mono ?_;rintro e w2 ⟨rfl,C⟩;have B4:=zaa (E8.o.below C);have B5:Hid (ButL [B] w.heap.size w w2):=C6.o.trans (Y:=[]) (ButL.of_below C) C6.o.size (by simp);have B9:=zaa (zae E7.o C);have D2:=zaa (zad C (show w.heap.size<w1.heap.size by omega) F2.o);have D1:=zaa (zad C (show w.heap.size+1<w1.heap.size by omega) G5.o);have R3:w1.heap.size≤w2.heap.size:=C.size;clear C m l n y3 y4 y5 y6 y7 y8 y9 E8 C6 E7 F2 G5;have B2:w.heap.size<w2.heap.size:=by omega
   clear q;by_cases hem:zfd j.now=true
   ·have HE:Hid (zcv j=(j,zat 4)):=by rw[Hid,zcv,if_neg E9.o,if_pos hem]
    rw[hem];clear hem;have i:=B4;have M:=B5;have KR:=D2;have q:=B2;go_wp2_with fail;refine(zau 4 _).mono ?_;rintro e w2 ⟨rfl,C⟩;have O:=zaa (zad C q KR.o);have A1:=zaa (i.o.below C);have A2:=zaa (M.o.trans (Y:=[]) (ButL.of_below C) M.o.size (by simp));clear C;obtain⟨⟨m,l,n⟩,yf⟩:=zbl O.o;go_wp2;exact zbg HE.o O.o A1.o A2.o A3 R fun W u0 u1 u2=>by simp[results,results85,go_sem,u0,u1,u2]
   ·have C0:zfd j.now=false:=by simpa using hem
    rw[C0];obtain⟨⟨m,l,n,y3,y4,y5,y6,y7,y8,y9⟩,_⟩:=zaj D1.o;by_cases hq:2147483645<j.now.seq
    ·have HE:Hid (zcv j=(j,zat 11)):=by rw[Hid,zcv,if_neg E9.o,if_neg hem,if_pos hq]
     clear hem C0;have i:=B4;have M:=B5;have KR:=D2;have q:=B2;go_wp2_with fail;clear m l n y3 y4 y5 y6 y7 y8 y9;refine(zau 11 _).mono ?_;rintro e w2 ⟨rfl,C⟩;have O:=zaa (zad C q KR.o);have A1:=zaa (i.o.below C);have A2:=zaa (M.o.trans (Y:=[]) (ButL.of_below C) M.o.size (by simp));clear C;obtain⟨⟨m,l,n⟩,yf⟩:=zbl O.o;go_wp2;exact zbg HE.o O.o A1.o A2.o A3 R fun W u0 u1 u2=>by simp[results,results85,go_sem,u0,u1,u2]
    ·have F4:Hid (zcv j=if sealE j.rh j.ru j.now=0 then({j with rh:=zcm j.rh j.ru j.now,ru:=zch j.rh j.ru j.now,sealed:=j.now,now:=zct (j.now.seq+1),work:=6,steps:=commitS j.rh j.ru j.now},⟨0,j.now.seq,⟨#[]⟩⟩) else(j,zat (sealE j.rh j.ru j.now))):=by rw[Hid,zcv,if_neg E9.o,if_neg hem,if_neg hq]
     have R0:j.now.seq≤2147483645:=by omega
     clear hem C0 hq;go_wp2;rename_i KK G1;clear m l n y3 y4 y5 y6 y7 y8 y9;obtain⟨Q,H6⟩:∃Q,Q=w2:=⟨_,rfl⟩;rw[←H6];subst H6
     have F7:∀(g:Nat→Value) (r:World) (T:Nat) (ya:Option Addr) (yc:Nat),r.heap[T]?=some (.cells #[.int .i64 (zcm j.rh j.ru j.now),.int .i64 (zch j.rh j.ru j.now)] 26 (0,0))→SegSt (zas r (w.heap.size::X)) ya (commitS j.rh j.ru j.now)→(commitS j.rh j.ru j.now).length≤yc→Q.heap.size≤T→Below Q.heap.size Q r→KK ⟨#[.pointer (some ⟨B,0,none⟩),g 1,.pointer (some ⟨w.heap.size,0,none⟩),.pointer (some ⟨w.heap.size+1,0,none⟩),.pointer (some ⟨T,0,none⟩),.slice ya (commitS j.rh j.ru j.now).length yc,.int .i64 (sealE j.rh j.ru j.now),g 7,g 8,g 9,g 10,g 11,g 12,g 13,g 14,g 15,g 16,g 17,g 18,g 19,g 20,g 21,g 22,g 23,g 24,g 25,g 26,g 27,g 28,g 29,g 30,g 31,g 32,g 33,g 34,g 35,g 36,g 37,g 38,g 39,g 40,g 41,g 42,g 43,g 44,g 45,g 46,g 47,g 48,g 49,g 50,g 51,g 52,g 53,g 54,g 55,g 56,g 57,g 58,g 59,g 60,g 61,g 62,g 63,g 64,g 65,g 66],[]⟩ r:=by
      intro g r T ya yc A6 D9 D4 B0 A9;apply G1;clear G1;have D5:=zaa (B4.o.below A9);have G4:Hid (ButL [B] w.heap.size w r):=B5.o.trans (Y:=[]) (ButL.of_below A9) B5.o.size (by simp);have G7:=zaa (zae B9.o A9);have H2:=zaa (zad A9 B2 D2.o);have H5:=zaa (zad A9 (show w.heap.size+1<Q.heap.size by omega) D1.o);have KT:=zaa A6;have G2:=zaa D9;have R9:Q.heap.size≤r.heap.size:=A9.size;have S5:T<r.heap.size:=(Array.getElem?_eq_some_iff.1 A6).1;have J6:w.heap.size<r.heap.size:=by omega
      clear A9 A6 D9 B4 B5 B9 D2 D1;by_cases he:sealE j.rh j.ru j.now=0
      ·have HE:Hid (zcv j=({j with rh:=zcm j.rh j.ru j.now,ru:=zch j.rh j.ru j.now,sealed:=j.now,now:=zct (j.now.seq+1),work:=6,steps:=commitS j.rh j.ru j.now},⟨0,j.now.seq,⟨#[]⟩⟩)):=by rw[Hid,F4.o,if_pos he]
       rw[he];clear he F4;obtain⟨sH,I8⟩:∃x,x=zcm j.rh j.ru j.now:=⟨_,rfl⟩;obtain⟨sU,I9⟩:∃x,x=zch j.rh j.ru j.now:=⟨_,rfl⟩;obtain⟨cS,I6⟩:∃x,x=commitS j.rh j.ru j.now:=⟨_,rfl⟩;rw[←I8,←I9]at KT HE;rw[←I6]at HE G2 D4⊢;clear I8 I9 I6;obtain⟨⟨t0,t1⟩,tf⟩:=zgo KT.o;obtain⟨_,G0,G6,F1,H0,C1,C2,E0,D6,C7,E3,D3,E2,C9,C5,D7,C8,F0,G9,E5,F6,G8,F9,D,_⟩:=id D5.o;have c3:r.cell? ⟨B,3,none⟩=some (.int .i64 j.rh):=zak D 3;have c4:r.cell? ⟨B,4,none⟩=some (.int .i64 j.ru):=zak D 4;have L3:r.frozen? ⟨B,3,none⟩=false:=frozen_of_row r _ _ _ _ D;have K7:r.frozen? ⟨B,4,none⟩=false:=frozen_of_row r _ _ _ _ D;clear D;have P5:¬T=B:=by omega
       go_wp2;rename_i F5 B7;clear t0 t1 tf c3 c4 L3 K7;obtain⟨W4,A5⟩:∃W4,W4=(r.setCell ⟨B,3,none⟩ (.int .i64 sH)).setCell ⟨B,4,none⟩ (.int .i64 sU):=⟨_,rfl⟩;rw[←A5];have L2:Hid (JAt W4 B (w.heap.size::X) {j with rh:=sH,ru:=sU}):=by rw[A5];exact D5.o.putRing sH sU
       have J1:Hid (ButL [B] w.heap.size w W4):=by rw[A5];exact(G4.o.set (.inl (by simp)) 3 _).set (.inl (by simp)) 4 _
       have K0:Hid (W4.heap[w.heap.size]?=some (.cells #[.int .i64 0,.int .i64 0,.string ⟨#[]⟩] 31 (0,0))):=by rw[A5];exact(Below.heap_setCell _ _ _ _ A3).trans ((Below.heap_setCell _ _ _ _ A3).trans H2.o)
       have S:Hid (W4.heap[w.heap.size+1]?=some (.cells #[.int .i64 j.now.seq,.slice b j.now.info.length Z,.slice c j.now.data.length d,.slice ne j.now.rev.length U,.bool j.now.h0.on,.int .i64 j.now.h0.left,.bool j.now.h1.on,.int .i64 j.now.h1.left,.bool j.now.h2.on,.int .i64 j.now.h2.left] 40 (0,0))):=by rw[A5];exact(Below.heap_setCell _ _ _ _ L).trans ((Below.heap_setCell _ _ _ _ L).trans H5.o)
       have J8:Hid (SegSt (zas W4 (w.heap.size::X)) ya cS):=by rw[A5];exact(G2.o.ext (Ext.setL (by simp[R]) _ _)).ext (Ext.setL (by simp[R]) _ _)
       have K9:Hid (IsTx (zas W4 (w.heap.size::X)) (.agg #[.int .i64 j.now.seq,.slice b j.now.info.length Z,.slice c j.now.data.length d,.slice ne j.now.rev.length U,.bool j.now.h0.on,.int .i64 j.now.h0.left,.bool j.now.h1.on,.int .i64 j.now.h1.left,.bool j.now.h2.on,.int .i64 j.now.h2.left]) j.now):=by rw[A5];exact((E4.o.ext (Ext.newL G7.o (Nat.le_refl _))).ext (Ext.setL (by simp[R]) _ _)).ext (Ext.setL (by simp[R]) _ _)
       have O9:W4.heap.size=r.heap.size:=by rw[A5];simp[World.setCell]
       clear A5 D5 G4 H2 H5 KT G2 G7
       have D8:∀(g:Nat→Value) (u:World),JAt u B (w.heap.size::X) {j with rh:=sH,ru:=sU,sealed:=j.now,now:=zct (j.now.seq+1)}→ButL [B] W4.heap.size W4 u→F5 ⟨#[.pointer (some ⟨B,0,none⟩),g 1,.pointer (some ⟨w.heap.size,0,none⟩),.pointer (some ⟨w.heap.size+1,0,none⟩),g 4,.slice ya cS.length yc,g 6,g 7,g 8,g 9,g 10,g 11,g 12,g 13,g 14,g 15,g 16,g 17,g 18,g 19,g 20,g 21,g 22,g 23,g 24,g 25,g 26,g 27,g 28,g 29,g 30,g 31,g 32,g 33,g 34,g 35,g 36,g 37,g 38,g 39,g 40,g 41,g 42,g 43,g 44,g 45,g 46,g 47,g 48,g 49,g 50,g 51,g 52,g 53,g 54,g 55,g 56,g 57,g 58,g 59,g 60,g 61,g 62,g 63,g 64,g 65,g 66],[]⟩ u:=by
        intro g u H4 B1;apply B7;clear B7;have J3:=zaa H4;have L8:Hid (ButL [B] w.heap.size w u):=J1.o.trans B1 J1.o.size (by simp);have H8:Hid (u.heap[w.heap.size]?=some (.cells #[.int .i64 0,.int .i64 0,.string ⟨#[]⟩] 31 (0,0))):=(B1.block _ (by omega) (by simpa using A3)).trans K0.o;have K8:Hid (u.heap[w.heap.size+1]?=some (.cells #[.int .i64 j.now.seq,.slice b j.now.info.length Z,.slice c j.now.data.length d,.slice ne j.now.rev.length U,.bool j.now.h0.on,.int .i64 j.now.h0.left,.bool j.now.h1.on,.int .i64 j.now.h1.left,.bool j.now.h2.on,.int .i64 j.now.h2.left] 40 (0,0))):=(B1.block _ (by omega) (by simpa using L)).trans S.o;have J7:Hid (SegSt (zas u (w.heap.size::X)) ya cS):=J8.o.ext (Ext.butL (B1.wider (Y:=(w.heap.size::X)) (by simp[R])));have P4:W4.heap.size≤u.heap.size:=B1.size;have S6:B<u.heap.size:=by omega
        clear H4 B1;obtain⟨_,G0,G6,F1,H0,C1,C2,E0,D6,C7,E3,D3,E2,C9,C5,D7,C8,F0,G9,E5,F6,G8,F9,D,_⟩:=id J3.o;have J4:∃v,u.cell? ⟨B,55,none⟩=some v:=⟨_,(zak D 55).trans rfl⟩;have J5:∃v,u.cell? ⟨B,56,none⟩=some v:=⟨_,(zak D 56).trans rfl⟩;have N6:u.frozen? ⟨B,55,none⟩=false:=frozen_of_row u _ _ _ _ D;have N4:u.frozen? ⟨B,56,none⟩=false:=frozen_of_row u _ _ _ _ D;obtain⟨P2,J4⟩:=J4;obtain⟨R4,J5⟩:=J5;clear D;obtain⟨⟨q0,_⟩,_⟩:=zaj K8.o;obtain⟨⟨m,l,n⟩,yf⟩:=zbl H8.o;go_wp2;obtain⟨W7,E1⟩:∃W7,W7=(u.setCell ⟨B,55,none⟩ (.int .i64 6)).setCell ⟨B,56,none⟩ (.slice ya cS.length yc):=⟨_,rfl⟩;rw[←E1];have O:Hid (W7.heap[w.heap.size]?=some (.cells #[.int .i64 0,.int .i64 0,.string ⟨#[]⟩] 31 (0,0))):=by rw[E1];exact(Below.heap_setCell _ _ _ _ A3).trans ((Below.heap_setCell _ _ _ _ A3).trans H8.o)
        have A1:Hid (JAt W7 B (w.heap.size::X) {j with rh:=sH,ru:=sU,sealed:=j.now,now:=zct (j.now.seq+1),work:=6,steps:=cS}):=by rw[E1];exact(J3.o.putWork 6).putSteps (J7.o.ext (Ext.setL (by simp[R]) 55 (.int .i64 6))) D4
        have A2:Hid (ButL [B] w.heap.size w W7):=by rw[E1];exact(L8.o.set (.inl (by simp)) 55 _).set (.inl (by simp)) 56 _
        obtain⟨W,hW⟩:∃W,W=(((W7.setCell ⟨w.heap.size,0,none⟩ (.int .i64 0)).setCell ⟨w.heap.size,1,none⟩ (.int .i64 j.now.seq)).setCell ⟨w.heap.size,2,none⟩ (.string ⟨#[]⟩)):=⟨_,rfl⟩;have hX:=zgc O.o (.int .i64 0) (.int .i64 j.now.seq) (.string ⟨#[]⟩);rw[←hW]at hX⊢;obtain⟨⟨u0,u1,u2⟩,_⟩:=zbl hX;refine bodyPost_ret (v:=.agg #[.int .i64 0,.int .i64 j.now.seq,.string ⟨#[]⟩]) (by simp[results,results85,go_sem,u0,u1,u2]) rfl ⟨by rw[HE.o];rfl,?_,?_⟩
        ·rw[HE.o,hW];exact zw5 A1.o A3 R _ _ _
        ·rw[hW];exact((A2.o.set (.inr (by omega)) 0 _).set (.inr (by omega)) 1 _).set (.inr (by omega)) 2 _
       have F8:=zaa D8;clear D8 B7;have hwp:=L4.o;have E6:B<W4.heap.size:=by omega
       have K:w.heap.size+1<W4.heap.size:=by omega
       obtain⟨⟨m,l,n,y3,y4,y5,y6,y7,y8,y9⟩,_⟩:=zaj S.o;have Q0:=zaa m;have Q1:=zaa l;have Q2:=zaa n;have Q3:=zaa y3;have Q4:=zaa y4;have Q5:=zaa y5;have Q6:=zaa y6;have Q7:=zaa y7;have Q8:=zaa y8;have Q9:=zaa y9;clear m l n y3 y4 y5 y6 y7 y8 y9;refine(show∀A0:Act,A0=_→Code.wp prog _ _ A0 _ from fun A0 hA0=>?_) _ rfl;have I:A0.tmps.size=67:=by rw[hA0];rfl
       have H1:A0.defers=[]:=by rw[hA0]
       have v0:A0.eval (.tmp 0)=.pointer (some ⟨B,0,none⟩):=by rw[hA0];rfl
       have v2:A0.eval (.tmp 2)=.pointer (some ⟨w.heap.size,0,none⟩):=by rw[hA0];rfl
       have v3:A0.eval (.tmp 3)=.pointer (some ⟨w.heap.size+1,0,none⟩):=by rw[hA0];rfl
       have v5:A0.eval (.tmp 5)=.slice ya cS.length yc:=by rw[hA0];rfl
       clear hA0;refine zbb 10 (fun w'=>(∃s,JAt w' B (w.heap.size::X) {j with rh:=sH,ru:=sU,sealed:=s})∧ButL [B] W4.heap.size W4 w') [46,47,48,49,50,51,52,53,54,54] (zt6 B (w.heap.size+1) j (w.heap.size::X) b Z c d ne U sH sU) (by kernel_rfl) (by kernel_rfl) (by kernel_rfl) (by kernel_rfl) (by decide) (⟨⟨_,L2.o.below (Below.refl _ _).drew⟩,ButL.of_below (Below.refl _ _).drew⟩) ⟨?_,?_,?_,?_,?_,?_,?_,?_,?_,?_,trivial⟩ ?_
       ·exact zbd v0 I (fun _=>rfl) fun ρ w' A z=>by simp only[execOp];go_simp
       ·exact zbd v0 I (fun _=>rfl) fun ρ w' A z=>by simp only[execOp];go_simp
       ·exact zbd v3 I (fun _=>rfl) fun ρ w' A z=>by have c0:w'.cell? ⟨w.heap.size+1,0,none⟩=some (.int .i64 j.now.seq):=(zaj ((A.2.block _ K (by simpa using L)).trans S.o)).1.1;have c1:w'.cell? ⟨w.heap.size+1,1,none⟩=some (.slice b j.now.info.length Z):=(zaj ((A.2.block _ K (by simpa using L)).trans S.o)).1.2.1;have c2:w'.cell? ⟨w.heap.size+1,2,none⟩=some (.slice c j.now.data.length d):=(zaj ((A.2.block _ K (by simpa using L)).trans S.o)).1.2.2.1;have c3:w'.cell? ⟨w.heap.size+1,3,none⟩=some (.slice ne j.now.rev.length U):=(zaj ((A.2.block _ K (by simpa using L)).trans S.o)).1.2.2.2.1;have c4:w'.cell? ⟨w.heap.size+1,4,none⟩=some (.bool j.now.h0.on):=(zaj ((A.2.block _ K (by simpa using L)).trans S.o)).1.2.2.2.2.1;have c5:w'.cell? ⟨w.heap.size+1,5,none⟩=some (.int .i64 j.now.h0.left):=(zaj ((A.2.block _ K (by simpa using L)).trans S.o)).1.2.2.2.2.2.1;have c6:w'.cell? ⟨w.heap.size+1,6,none⟩=some (.bool j.now.h1.on):=(zaj ((A.2.block _ K (by simpa using L)).trans S.o)).1.2.2.2.2.2.2.1;have c7:w'.cell? ⟨w.heap.size+1,7,none⟩=some (.int .i64 j.now.h1.left):=(zaj ((A.2.block _ K (by simpa using L)).trans S.o)).1.2.2.2.2.2.2.2.1;have c8:w'.cell? ⟨w.heap.size+1,8,none⟩=some (.bool j.now.h2.on):=(zaj ((A.2.block _ K (by simpa using L)).trans S.o)).1.2.2.2.2.2.2.2.2.1;have c9:w'.cell? ⟨w.heap.size+1,9,none⟩=some (.int .i64 j.now.h2.left):=(zaj ((A.2.block _ K (by simpa using L)).trans S.o)).1.2.2.2.2.2.2.2.2.2;simp only[execOp];go_simp
       ·exact zbd v3 I (fun _=>rfl) fun ρ w' A z=>by simp only[execOp];go_simp
       ·exact zal 3 49 I (fun _ _ h=>h) (fun _=>rfl) fun ρ w' A p=>by have c0:w'.cell? ⟨w.heap.size+1,0,none⟩=some (.int .i64 j.now.seq):=(zaj ((A.2.block _ K (by simpa using L)).trans S.o)).1.1;simp only[execOp];go_simp
       ·intro a w' F A J;have p50:a.eval (.tmp 50)=.int .i64 j.now.seq:=J ⟨4,.data⟩ (by simp) rfl;exact zgm _ rfl rfl (by have I7:=Act.eval_const a (.int .i64 1);revert p50 I7;generalize a.eval=ρ;intro p50 I7;simp only[execOp];go_simp) F I A rfl
       ·exact zal 5 51 I (fun _ _ h=>h) (fun _=>rfl) fun ρ w' A p=>by simp only[execOp];go_simp
       ·exact zal 0 46 I (fun _ _ h=>h) (fun _=>rfl) fun ρ w' A p=>by simp only[execOp];go_simp
       ·exact zal 7 53 I (fun _ _ h=>h) (fun _=>rfl) fun ρ w' A p=>by simp only[execOp];go_simp
       ·intro a w' F A J;have p54:a.eval (.tmp 54)=.pointer (some ⟨B,41,none⟩):=J ⟨8,.data⟩ (by simp) rfl;have p48:a.eval (.tmp 48)=.agg #[.int .i64 j.now.seq,.slice b j.now.info.length Z,.slice c j.now.data.length d,.slice ne j.now.rev.length U,.bool j.now.h0.on,.int .i64 j.now.h0.left,.bool j.now.h1.on,.int .i64 j.now.h1.left,.bool j.now.h2.on,.int .i64 j.now.h2.left]:=J ⟨2,.data⟩ (by simp) rfl;obtain⟨⟨s,F3⟩,I4⟩:=A;obtain⟨_,G0,G6,F1,H0,C1,C2,E0,D6,C7,E3,D3,E2,C9,C5,D7,C8,F0,G9,E5,F6,G8,F9,D,_⟩:=id F3;have P0:w'.cell? ⟨B,41,none⟩=some (.int .i64 s.seq):=zak D 41;have O5:w'.frozen? ⟨B,41,none⟩=false:=frozen_of_row w' _ _ _ _ D;have S7:w'.cell? ⟨B,42,none⟩=some (.slice D3 s.info.length E2):=zak D 42;have N8:w'.frozen? ⟨B,42,none⟩=false:=frozen_of_row w' _ _ _ _ D;have R2:w'.cell? ⟨B,43,none⟩=some (.slice C9 s.data.length C5):=zak D 43;have O8:w'.frozen? ⟨B,43,none⟩=false:=frozen_of_row w' _ _ _ _ D;have S3:w'.cell? ⟨B,44,none⟩=some (.slice D7 s.rev.length C8):=zak D 44;have N3:w'.frozen? ⟨B,44,none⟩=false:=frozen_of_row w' _ _ _ _ D;have P9:w'.cell? ⟨B,45,none⟩=some (.bool s.h0.on):=zak D 45;have M9:w'.frozen? ⟨B,45,none⟩=false:=frozen_of_row w' _ _ _ _ D;have S4:w'.cell? ⟨B,46,none⟩=some (.int .i64 s.h0.left):=zak D 46;have M8:w'.frozen? ⟨B,46,none⟩=false:=frozen_of_row w' _ _ _ _ D;have P7:w'.cell? ⟨B,47,none⟩=some (.bool s.h1.on):=zak D 47;have O0:w'.frozen? ⟨B,47,none⟩=false:=frozen_of_row w' _ _ _ _ D;have R1:w'.cell? ⟨B,48,none⟩=some (.int .i64 s.h1.left):=zak D 48;have O6:w'.frozen? ⟨B,48,none⟩=false:=frozen_of_row w' _ _ _ _ D;have P3:w'.cell? ⟨B,49,none⟩=some (.bool s.h2.on):=zak D 49;have N5:w'.frozen? ⟨B,49,none⟩=false:=frozen_of_row w' _ _ _ _ D;have R5:w'.cell? ⟨B,50,none⟩=some (.int .i64 s.h2.left):=zak D 50;have N0:w'.frozen? ⟨B,50,none⟩=false:=frozen_of_row w' _ _ _ _ D;have J0:IsTx (zas w' (w.heap.size::X)) (.agg #[.int .i64 j.now.seq,.slice b j.now.info.length Z,.slice c j.now.data.length d,.slice ne j.now.rev.length U,.bool j.now.h0.on,.int .i64 j.now.h0.left,.bool j.now.h1.on,.int .i64 j.now.h1.left,.bool j.now.h2.on,.int .i64 j.now.h2.left]) j.now:=K9.o.ext (Ext.butL (I4.wider (Y:=(w.heap.size::X)) (by simp[R])))
        refine zce rfl rfl (w':=((((((((((w'.setCell ⟨B,41,none⟩ (.int .i64 j.now.seq)).setCell ⟨B,42,none⟩ (.slice b j.now.info.length Z)).setCell ⟨B,43,none⟩ (.slice c j.now.data.length d)).setCell ⟨B,44,none⟩ (.slice ne j.now.rev.length U)).setCell ⟨B,45,none⟩ (.bool j.now.h0.on)).setCell ⟨B,46,none⟩ (.int .i64 j.now.h0.left)).setCell ⟨B,47,none⟩ (.bool j.now.h1.on)).setCell ⟨B,48,none⟩ (.int .i64 j.now.h1.left)).setCell ⟨B,49,none⟩ (.bool j.now.h2.on)).setCell ⟨B,50,none⟩ (.int .i64 j.now.h2.left))) (by revert p54 p48;generalize a.eval=ρ;intro p54 p48;simp only[execOp];go_simp) ⟨_,rfl,⟨⟨_,F3.putSealed J0⟩,?_⟩,?_,?_⟩
        ·exact(((((((((I4.set (.inl (by simp)) 41 _).set (.inl (by simp)) 42 _).set (.inl (by simp)) 43 _).set (.inl (by simp)) 44 _).set (.inl (by simp)) 45 _).set (.inl (by simp)) 46 _).set (.inl (by simp)) 47 _).set (.inl (by simp)) 48 _).set (.inl (by simp)) 49 _).set (.inl (by simp)) 50 _
        ·exact F3.putSealed J0
        ·exact zt7
       ·intro a W F A J;have J2:a.eval (.tmp 47)=.pointer (some ⟨B,0,none⟩):=J 1 (by decide);have P8:a.eval (.tmp 48)=.agg #[.int .i64 j.now.seq,.slice b j.now.info.length Z,.slice c j.now.data.length d,.slice ne j.now.rev.length U,.bool j.now.h0.on,.int .i64 j.now.h0.left,.bool j.now.h1.on,.int .i64 j.now.h1.left,.bool j.now.h2.on,.int .i64 j.now.h2.left]:=J 2 (by decide);have M5:a.eval (.tmp 52)=.agg #[.int .i64 (j.now.seq+1),.slice none 0 0,.slice none 0 0,.slice none 0 0,.bool false,.int .i64 0,.bool false,.int .i64 0,.bool false,.int .i64 0]:=J 6 (by decide);have R7:a.eval (.tmp 54)=.pointer (some ⟨B,41,none⟩):=J 8 (by decide);have I1:JAt W B (w.heap.size::X) {j with rh:=sH,ru:=sU,sealed:=j.now}:=J 9 (by decide);obtain⟨_,G0,G6,F1,H0,C1,C2,E0,D6,C7,E3,D3,E2,C9,C5,D7,C8,F0,G9,E5,F6,G8,F9,D,_⟩:=id I1;have K5:W.cell? ⟨B,31,none⟩=some (.int .i64 j.now.seq):=zak D 31;have N2:W.frozen? ⟨B,31,none⟩=false:=frozen_of_row W _ _ _ _ D;have K4:W.cell? ⟨B,32,none⟩=some (.slice C1 j.now.info.length C2):=zak D 32;have O7:W.frozen? ⟨B,32,none⟩=false:=frozen_of_row W _ _ _ _ D;have J9:W.cell? ⟨B,33,none⟩=some (.slice E0 j.now.data.length D6):=zak D 33;have N7:W.frozen? ⟨B,33,none⟩=false:=frozen_of_row W _ _ _ _ D;have L1:W.cell? ⟨B,34,none⟩=some (.slice C7 j.now.rev.length E3):=zak D 34;have O2:W.frozen? ⟨B,34,none⟩=false:=frozen_of_row W _ _ _ _ D;have L9:W.cell? ⟨B,35,none⟩=some (.bool j.now.h0.on):=zak D 35;have N1:W.frozen? ⟨B,35,none⟩=false:=frozen_of_row W _ _ _ _ D;have L5:W.cell? ⟨B,36,none⟩=some (.int .i64 j.now.h0.left):=zak D 36;have M7:W.frozen? ⟨B,36,none⟩=false:=frozen_of_row W _ _ _ _ D;have L6:W.cell? ⟨B,37,none⟩=some (.bool j.now.h1.on):=zak D 37;have O3:W.frozen? ⟨B,37,none⟩=false:=frozen_of_row W _ _ _ _ D;have M6:W.cell? ⟨B,38,none⟩=some (.int .i64 j.now.h1.left):=zak D 38;have N9:W.frozen? ⟨B,38,none⟩=false:=frozen_of_row W _ _ _ _ D;have K1:W.cell? ⟨B,39,none⟩=some (.bool j.now.h2.on):=zak D 39
        have O1:W.frozen? ⟨B,39,none⟩=false:=frozen_of_row W _ _ _ _ D;have L0:W.cell? ⟨B,40,none⟩=some (.int .i64 j.now.h2.left):=zak D 40;have O4:W.frozen? ⟨B,40,none⟩=false:=frozen_of_row W _ _ _ _ D;show wpOps prog _ _ [10,11,12] a W;have B3:a.tmps.size=67:=F.size.trans I;rw[wpOps_cons];refine zay (.pointer (some ⟨B,0,none⟩)) rfl rfl (by revert J2;generalize a.eval=ρ;intro J2;simp only[execOp];go_simp) ?_;obtain⟨b1,N⟩:∃b1,b1=a.put (some 55) (.pointer (some ⟨B,0,none⟩)):=⟨_,rfl⟩;have H7:b1.eval (.tmp 55)=.pointer (some ⟨B,0,none⟩):=by rw[N];exact Act.eval_put_same _ _ _ (by rw[B3];decide)
        have M2:b1.eval (.tmp 52)=.agg #[.int .i64 (j.now.seq+1),.slice none 0 0,.slice none 0 0,.slice none 0 0,.bool false,.int .i64 0,.bool false,.int .i64 0,.bool false,.int .i64 0]:=by rw[N,Act.eval_put_ne _ _ _ _ (by decide)];exact M5
        show wpOps prog _ _ [11,12] (a.put (some 55) (.pointer (some ⟨B,0,none⟩))) W;rw[←N,wpOps_cons];refine zay (.pointer (some ⟨B,31,none⟩)) rfl rfl (by revert H7;generalize b1.eval=ρ;intro H7;simp only[execOp];go_simp) ?_;obtain⟨b2,C⟩:∃b2,b2=b1.put (some 56) (.pointer (some ⟨B,31,none⟩)):=⟨_,rfl⟩;have I0:b1.tmps.size=67:=by rw[N,Act.size_put];exact B3
        have H9:b2.eval (.tmp 56)=.pointer (some ⟨B,31,none⟩):=by rw[C];exact Act.eval_put_same _ _ _ (by rw[I0];decide)
        have I3:b2.eval (.tmp 52)=.agg #[.int .i64 (j.now.seq+1),.slice none 0 0,.slice none 0 0,.slice none 0 0,.bool false,.int .i64 0,.bool false,.int .i64 0,.bool false,.int .i64 0]:=by rw[C,Act.eval_put_ne _ _ _ _ (by decide)];exact M2
        show wpOps prog _ _ [12] (b1.put (some 56) (.pointer (some ⟨B,31,none⟩))) W;rw[←C,wpOps_cons];refine zce rfl rfl (w':=((((((((((W.setCell ⟨B,31,none⟩ (.int .i64 (j.now.seq+1))).setCell ⟨B,32,none⟩ (.slice none 0 0)).setCell ⟨B,33,none⟩ (.slice none 0 0)).setCell ⟨B,34,none⟩ (.slice none 0 0)).setCell ⟨B,35,none⟩ (.bool false)).setCell ⟨B,36,none⟩ (.int .i64 0)).setCell ⟨B,37,none⟩ (.bool false)).setCell ⟨B,38,none⟩ (.int .i64 0)).setCell ⟨B,39,none⟩ (.bool false)).setCell ⟨B,40,none⟩ (.int .i64 0))) (by revert H9 I3;generalize b2.eval=ρ;intro H9 I3;simp only[execOp];go_simp) ?_;have f0:b2.eval (.tmp 0)=.pointer (some ⟨B,0,none⟩):=by rw[C,Act.eval_put_ne _ _ _ _ (by decide),N,Act.eval_put_ne _ _ _ _ (by decide)];exact(F.other 0 rfl).trans v0
        have f2:b2.eval (.tmp 2)=.pointer (some ⟨w.heap.size,0,none⟩):=by rw[C,Act.eval_put_ne _ _ _ _ (by decide),N,Act.eval_put_ne _ _ _ _ (by decide)];exact(F.other 2 rfl).trans v2
        have f3:b2.eval (.tmp 3)=.pointer (some ⟨w.heap.size+1,0,none⟩):=by rw[C,Act.eval_put_ne _ _ _ _ (by decide),N,Act.eval_put_ne _ _ _ _ (by decide)];exact(F.other 3 rfl).trans v3
        have f5:b2.eval (.tmp 5)=.slice ya cS.length yc:=by rw[C,Act.eval_put_ne _ _ _ _ (by decide),N,Act.eval_put_ne _ _ _ _ (by decide)];exact(F.other 5 rfl).trans v5
        have A4:b2=⟨#[_,_,_,_,_,_,_,_,_,_,_,_,_,_,_,_,_,_,_,_,_,_,_,_,_,_,_,_,_,_,_,_,_,_,_,_,_,_,_,_,_,_,_,_,_,_,_,_,_,_,_,_,_,_,_,_,_,_,_,_,_,_,_,_,_,_,_],[]⟩:=zb9 b2 67 (by rw[C,Act.size_put];exact I0) (by rw[C,Act.defers_put',N,Act.defers_put'];exact F.defers.trans H1);dsimp only at A4;rw[f0,f2,f3,f5]at A4;show F5 b2 _;exact(congrArg (fun x=>F5 x _) A4).mpr (F8.o (fun k=>b2.eval (.tmp k)) _ (I1.putNow (t:=zct (j.now.seq+1)) (zre _ _) (z3j _)) ((((((((((A.2.set (.inl (by simp)) 31 _).set (.inl (by simp)) 32 _).set (.inl (by simp)) 33 _).set (.inl (by simp)) 34 _).set (.inl (by simp)) 35 _).set (.inl (by simp)) 36 _).set (.inl (by simp)) 37 _).set (.inl (by simp)) 38 _).set (.inl (by simp)) 39 _).set (.inl (by simp)) 40 _))
      ·have HE:Hid (zcv j=(j,zat (sealE j.rh j.ru j.now))):=by rw[Hid,F4.o,if_neg he]
       have P1:(sealE j.rh j.ru j.now !=0)=true:=by simpa using he
       clear he;generalize sealE j.rh j.ru j.now=E at *;go_wp2_with fail;have i:=D5;have M:=G4;have KR:=H2;have q:=J6;refine(zau E _).mono ?_;rintro e w2 ⟨rfl,C⟩;have O:=zaa (zad C q KR.o);have A1:=zaa (i.o.below C);have A2:=zaa (M.o.trans (Y:=[]) (ButL.of_below C) M.o.size (by simp));clear C;obtain⟨⟨m,l,n⟩,yf⟩:=zbl O.o;go_wp2;exact zbg HE.o O.o A1.o A2.o A3 R fun W u0 u1 u2=>by simp[results,results85,go_sem,u0,u1,u2]
     have H3:=zaa F7;clear F7 G1;have M0:Hid (IsTx (zas Q (w.heap.size::X)) (.agg #[.int .i64 j.now.seq,.slice b j.now.info.length Z,.slice c j.now.data.length d,.slice ne j.now.rev.length U,.bool j.now.h0.on,.int .i64 j.now.h0.left,.bool j.now.h1.on,.int .i64 j.now.h1.left,.bool j.now.h2.on,.int .i64 j.now.h2.left]) j.now):=E4.o.ext (Ext.newL B9.o (Nat.le_refl _));obtain⟨c3,c4⟩:=B4.o.ring;have C3:=zaa c3;have C4:=zaa c4;clear c3 c4;obtain⟨⟨m,l,n,y3,y4,y5,y6,y7,y8,y9⟩,_⟩:=zaj D1.o;have Q0:=zaa m;have Q1:=zaa l;have Q2:=zaa n;have Q3:=zaa y3;have Q4:=zaa y4;have Q5:=zaa y5;have Q6:=zaa y6;have Q7:=zaa y7;have Q8:=zaa y8;have Q9:=zaa y9;clear m l n y3 y4 y5 y6 y7 y8 y9;have E6:B<Q.heap.size:=by omega
     have K:w.heap.size+1<Q.heap.size:=by omega
     have K6:Hid (∀x∈(w.heap.size::X),x<Q.heap.size):=fun x hx=>by
      rcases List.mem_cons.1 hx with rfl|hx
      ·exact B2
      ·have:=HX.o x hx;omega
     refine(show∀A0:Act,A0=_→Code.wp prog _ _ A0 _ from fun A0 hA0=>?_) _ rfl;have I:A0.tmps.size=67:=by rw[hA0];rfl
     have H1:A0.defers=[]:=by rw[hA0]
     have v0:A0.eval (.tmp 0)=.pointer (some ⟨B,0,none⟩):=by rw[hA0];rfl
     have v2:A0.eval (.tmp 2)=.pointer (some ⟨w.heap.size,0,none⟩):=by rw[hA0];rfl
     have v3:A0.eval (.tmp 3)=.pointer (some ⟨w.heap.size+1,0,none⟩):=by rw[hA0];rfl
     have v4:A0.eval (.tmp 4)=undef:=by rw[hA0];rfl
     clear hA0;refine zdb 13 4 (z1u Q) [29,30,31,32,33,34,28,35,36,37,4,4,5] (zdw B j (w.heap.size::X) b Z c d ne U) (by kernel_rfl) (by kernel_rfl) (by kernel_rfl) (by kernel_rfl) (by decide) (⟨(Below.refl _ _).drew,.inl v4⟩) ⟨?_,?_,?_,?_,?_,?_,?_,?_,?_,?_,?_,?_,?_,trivial⟩ ?_
     ·intro a w' F A J;have z0:=(F.other 0 rfl).trans v0;exact zby _ rfl rfl (by revert z0;generalize a.eval=ρ;intro z0;simp only[execOp];go_simp) F I A rfl
     ·intro a w' F A J;have p29:a.eval (.tmp 29)=.pointer (some ⟨B,0,none⟩):=J ⟨0,.data⟩ (by simp) rfl;exact zby _ rfl rfl (by revert p29;generalize a.eval=ρ;intro p29;simp only[execOp];go_simp) F I A rfl
     ·intro a w' F A J;have p30:a.eval (.tmp 30)=.pointer (some ⟨B,0,none⟩):=J ⟨1,.data⟩ (by simp) rfl;exact zby _ rfl rfl (by revert p30;generalize a.eval=ρ;intro p30;simp only[execOp];go_simp) F I A rfl
     ·intro a w' F A J;have p31:a.eval (.tmp 31)=.pointer (some ⟨B,3,none⟩):=J ⟨2,.data⟩ (by simp) rfl;have c0:w'.cell? ⟨B,3,none⟩=some (.int .i64 j.rh):=zac A.1 E6 C3.o;have c1:w'.cell? ⟨B,4,none⟩=some (.int .i64 j.ru):=zac A.1 E6 C4.o;exact zby _ rfl rfl (by revert p31;generalize a.eval=ρ;intro p31;simp only[execOp];go_simp) F I A rfl
     ·intro a w' F A J;have z3:=(F.other 3 rfl).trans v3;have c0:w'.cell? ⟨w.heap.size+1,0,none⟩=some (.int .i64 j.now.seq):=zac A.1 K Q0.o;have c1:w'.cell? ⟨w.heap.size+1,1,none⟩=some (.slice b j.now.info.length Z):=zac A.1 K Q1.o;have c2:w'.cell? ⟨w.heap.size+1,2,none⟩=some (.slice c j.now.data.length d):=zac A.1 K Q2.o;have c3:w'.cell? ⟨w.heap.size+1,3,none⟩=some (.slice ne j.now.rev.length U):=zac A.1 K Q3.o;have c4:w'.cell? ⟨w.heap.size+1,4,none⟩=some (.bool j.now.h0.on):=zac A.1 K Q4.o;have c5:w'.cell? ⟨w.heap.size+1,5,none⟩=some (.int .i64 j.now.h0.left):=zac A.1 K Q5.o;have c6:w'.cell? ⟨w.heap.size+1,6,none⟩=some (.bool j.now.h1.on):=zac A.1 K Q6.o;have c7:w'.cell? ⟨w.heap.size+1,7,none⟩=some (.int .i64 j.now.h1.left):=zac A.1 K Q7.o;have c8:w'.cell? ⟨w.heap.size+1,8,none⟩=some (.bool j.now.h2.on):=zac A.1 K Q8.o;have c9:w'.cell? ⟨w.heap.size+1,9,none⟩=some (.int .i64 j.now.h2.left):=zac A.1 K Q9.o;exact zby _ rfl rfl (by revert z3;generalize a.eval=ρ;intro z3;simp only[execOp];go_simp) F I A rfl
     ·intro a w' F A J;have p32:a.eval (.tmp 32)=.agg #[.int .i64 j.rh,.int .i64 j.ru]:=J ⟨3,.data⟩ (by simp) rfl;have p33:a.eval (.tmp 33)=.agg #[.int .i64 j.now.seq,.slice b j.now.info.length Z,.slice c j.now.data.length d,.slice ne j.now.rev.length U,.bool j.now.h0.on,.int .i64 j.now.h0.left,.bool j.now.h1.on,.int .i64 j.now.h1.left,.bool j.now.h2.on,.int .i64 j.now.h2.left]:=J ⟨4,.data⟩ (by simp) rfl;refine zbo 125 #[.agg #[.int .i64 j.rh,.int .i64 j.ru],.agg #[.int .i64 j.now.seq,.slice b j.now.info.length Z,.slice c j.now.data.length d,.slice ne j.now.rev.length U,.bool j.now.h0.on,.int .i64 j.now.h0.left,.bool j.now.h1.on,.int .i64 j.now.h1.left,.bool j.now.h2.on,.int .i64 j.now.h2.left]] rfl rfl (by have pf:=Act.eval_func a 125;revert p32 p33 pf;generalize a.eval=ρ;intro p32 p33 pf;simp only[execOp];go_simp) _ (zt4 j.rh j.ru j.now b Z c d ne U _ ((M0.o.ext (Ext.seenL Q _)).below A.1) K3.o r1 r2) ?_;rintro e w2 ⟨a2,c2,rfl,K2,C,M4⟩;refine⟨_,rfl,_,rfl,?_,?_,?_⟩
      ·show z1u Q ((a.put (some 34) _).eval (.tmp 4)) w2;rw[Act.eval_put_ne _ _ _ _ (by decide)];exact zxy A C
      ·show zdw _ _ _ _ _ _ _ _ _ _ ((a.put (some 34) _).eval (.tmp 34)) ((a.put (some 34) _).eval (.tmp 4)) w2;rw[zaq F I (by decide),Act.eval_put_ne _ _ _ _ (by decide)];exact⟨_,rfl,okSt.made K6.o A K2 M4⟩
      ·intro kk x hk h;show zdw _ _ _ _ _ _ _ _ _ kk x ((a.put (some 34) _).eval (.tmp 4)) w2;rw[Act.eval_put_ne _ _ _ _ (by decide)];exact zr3 C kk x h
     ·intro a w' F A J;obtain⟨x,pc,ok⟩:∃x,a.eval (.tmp 34)=.tuple #[.agg #[.int .i64 (zcm j.rh j.ru j.now),.int .i64 (zch j.rh j.ru j.now)],x,.int .i64 (sealE j.rh j.ru j.now)]∧okSt (w.heap.size::X) (commitS j.rh j.ru j.now) x (a.eval (.tmp 4)) w':=J ⟨5,.data⟩ (by simp) rfl;refine zay (.tuple #[.agg #[.int .i64 (zcm j.rh j.ru j.now),.int .i64 (zch j.rh j.ru j.now)],x,.int .i64 (sealE j.rh j.ru j.now)]) rfl rfl (by revert pc;generalize a.eval=ρ;intro pc;simp only[execOp];go_simp) ⟨_,rfl,?_,?_,?_⟩
      ·show z1u Q ((a.put (some 28) _).eval (.tmp 4)) w';rw[Act.eval_put_ne _ _ _ _ (by decide)];exact A
      ·show zdw _ _ _ _ _ _ _ _ _ _ ((a.put (some 28) _).eval (.tmp 28)) ((a.put (some 28) _).eval (.tmp 4)) w';rw[zaq F I (by decide),Act.eval_put_ne _ _ _ _ (by decide)];exact⟨x,rfl,ok⟩
      ·intro kk x hk h;show zdw _ _ _ _ _ _ _ _ _ kk x ((a.put (some 28) _).eval (.tmp 4)) w';rw[Act.eval_put_ne _ _ _ _ (by decide)];exact h
     ·intro a w' F A J;obtain⟨x,pm,ok⟩:∃x,a.eval (.tmp 28)=.tuple #[.agg #[.int .i64 (zcm j.rh j.ru j.now),.int .i64 (zch j.rh j.ru j.now)],x,.int .i64 (sealE j.rh j.ru j.now)]∧okSt (w.heap.size::X) (commitS j.rh j.ru j.now) x (a.eval (.tmp 4)) w':=J ⟨6,.data⟩ (by simp) rfl;exact zby _ rfl rfl (by revert pm;generalize a.eval=ρ;intro pm;simp only[execOp];go_simp) F I A rfl
     ·intro a w' F A J;obtain⟨x,pm,ok⟩:∃x,a.eval (.tmp 28)=.tuple #[.agg #[.int .i64 (zcm j.rh j.ru j.now),.int .i64 (zch j.rh j.ru j.now)],x,.int .i64 (sealE j.rh j.ru j.now)]∧okSt (w.heap.size::X) (commitS j.rh j.ru j.now) x (a.eval (.tmp 4)) w':=J ⟨6,.data⟩ (by simp) rfl;refine zay (x) rfl rfl (by revert pm;generalize a.eval=ρ;intro pm;simp only[execOp];go_simp) ⟨_,rfl,?_,?_,?_⟩
      ·show z1u Q ((a.put (some 36) _).eval (.tmp 4)) w';rw[Act.eval_put_ne _ _ _ _ (by decide)];exact A
      ·show zdw _ _ _ _ _ _ _ _ _ _ ((a.put (some 36) _).eval (.tmp 36)) ((a.put (some 36) _).eval (.tmp 4)) w';rw[zaq F I (by decide),Act.eval_put_ne _ _ _ _ (by decide)];exact ok
      ·intro kk x hk h;show zdw _ _ _ _ _ _ _ _ _ kk x ((a.put (some 36) _).eval (.tmp 4)) w';rw[Act.eval_put_ne _ _ _ _ (by decide)];exact h
     ·intro a w' F A J;obtain⟨x,pm,ok⟩:∃x,a.eval (.tmp 28)=.tuple #[.agg #[.int .i64 (zcm j.rh j.ru j.now),.int .i64 (zch j.rh j.ru j.now)],x,.int .i64 (sealE j.rh j.ru j.now)]∧okSt (w.heap.size::X) (commitS j.rh j.ru j.now) x (a.eval (.tmp 4)) w':=J ⟨6,.data⟩ (by simp) rfl;exact zby _ rfl rfl (by revert pm;generalize a.eval=ρ;intro pm;simp only[execOp];go_simp) F I A rfl
     ·intro a w' F A J;refine zfk (.pointer (some ⟨w'.heap.size,0,none⟩)) rfl rfl (w':=w'.alloc (.cells #[.int .i64 0,.int .i64 0] 26)) (by simp only[execOp];go_simp) ⟨_,rfl,?_,?_,?_⟩
      ·show z1u Q ((a.put (some 4) _).eval (.tmp 4)) _;rw[zaq F I (by decide)];exact⟨A.1.alloc A.1.size _,.inr ⟨_,rfl,A.1.size,by simp,_,_,heap_alloc_new _ _⟩⟩
      ·show zdw _ _ _ _ _ _ _ _ _ _ ((a.put (some 4) _).eval (.tmp 4)) ((a.put (some 4) _).eval (.tmp 4)) _;rw[zaq F I (by decide)];exact⟨_,rfl⟩
      ·intro kk x hk h;show zdw _ _ _ _ _ _ _ _ _ kk x ((a.put (some 4) _).eval (.tmp 4)) _;rw[zaq F I (by decide)];exact zr4 _ kk x h
     ·intro a w' F A J;obtain⟨T,pT⟩:∃T,a.eval (.tmp 4)=.pointer (some ⟨T,0,none⟩):=J ⟨10,.data⟩ (by simp) rfl;have p0:a.eval (.tmp 35)=.agg #[.int .i64 (zcm j.rh j.ru j.now),.int .i64 (zch j.rh j.ru j.now)]:=J ⟨7,.data⟩ (by simp) rfl
      obtain⟨B0,M1,c0,c1,A6⟩:Q.heap.size≤T∧T<w'.heap.size∧∃c0 c1,w'.heap[T]?=some (.cells #[c0,c1] 26 (0,0)):=by
       rcases A.2 with h0|⟨T',e,h3,h4,h5⟩
       ·rw[h0]at pT;cases pT
       ·rw[e]at pT;cases pT;exact⟨h3,h4,h5⟩
      obtain⟨⟨t0,t1⟩,tf⟩:=zgo A6;refine zce rfl rfl (w':=((w'.setCell ⟨T,0,none⟩ (.int .i64 (zcm j.rh j.ru j.now))).setCell ⟨T,1,none⟩ (.int .i64 (zch j.rh j.ru j.now)))) (by revert pT p0;generalize a.eval=ρ;intro pT p0;simp only[execOp];go_simp) ⟨_,rfl,?_,?_,?_⟩
      ·show z1u Q (a.eval (.tmp 4)) _;exact⟨(A.1.setCell (p:=⟨T,0,none⟩) B0 _).setCell (p:=⟨T,1,none⟩) B0 _,.inr ⟨T,pT,B0,by simpa[World.setCell] using M1,_,_,zjq A6 _ _⟩⟩
      ·show zdw _ _ _ _ _ _ _ _ _ _ (a.eval (.tmp 4)) (a.eval (.tmp 4)) _;exact⟨T,pT,zjq A6 _ _⟩
      ·intro kk x hk h;show zdw _ _ _ _ _ _ _ _ _ kk x (a.eval (.tmp 4)) _;rw[pT]at h⊢;exact zr5 (fun x h=>h.store _ _) kk x hk h
     ·intro a w' F A J;have ok:okSt (w.heap.size::X) (commitS j.rh j.ru j.now) (a.eval (.tmp 36)) (a.eval (.tmp 4)) w':=J ⟨8,.data⟩ (by simp) rfl;obtain⟨y,hy⟩:∃y,y=a.eval (.tmp 36):=⟨_,rfl⟩;rw[←hy]at ok;have py:=hy.symm;refine zay y rfl rfl (by revert py;generalize a.eval=ρ;intro py;simp only[execOp];go_simp) ⟨_,rfl,?_,?_,?_⟩
      ·show z1u Q ((a.put (some 5) _).eval (.tmp 4)) w';rw[Act.eval_put_ne _ _ _ _ (by decide)];exact A
      ·show zdw _ _ _ _ _ _ _ _ _ _ ((a.put (some 5) _).eval (.tmp 5)) ((a.put (some 5) _).eval (.tmp 4)) w';rw[zaq F I (by decide),Act.eval_put_ne _ _ _ _ (by decide)];exact ok
      ·intro kk x hk h;show zdw _ _ _ _ _ _ _ _ _ kk x ((a.put (some 5) _).eval (.tmp 4)) w';rw[Act.eval_put_ne _ _ _ _ (by decide)];exact h
     ·intro a W F A J;obtain⟨T,pT,A6⟩:∃T,a.eval (.tmp 4)=.pointer (some ⟨T,0,none⟩)∧W.heap[T]?=some (.cells #[.int .i64 (zcm j.rh j.ru j.now),.int .i64 (zch j.rh j.ru j.now)] 26 (0,0)):=J 11 (by decide);obtain⟨ya,yc,pS,D4,D9,_⟩:okSt (w.heap.size::X) (commitS j.rh j.ru j.now) (a.eval (.tmp 5)) (a.eval (.tmp 4)) W:=J 12 (by decide);have pE:a.eval (.tmp 37)=.int .i64 (sealE j.rh j.ru j.now):=J 9 (by decide)
      have B0:Q.heap.size≤T:=by
       rcases A.2 with h0|⟨T',e,h3,h4,h5⟩
       ·rw[h0]at pT;cases pT
       ·rw[e]at pT;cases pT;exact h3
      show wpOps prog _ _ [13] a W;rw[wpOps_cons];refine zay (.int .i64 (sealE j.rh j.ru j.now)) rfl rfl (by revert pE;generalize a.eval=ρ;intro pE;simp only[execOp];go_simp) ?_;have B3:a.tmps.size=67:=F.size.trans I;obtain⟨a2,A7⟩:∃a2,a2=a.put (some 6) (.int .i64 (sealE j.rh j.ru j.now)):=⟨_,rfl⟩;have f6:a2.eval (.tmp 6)=.int .i64 (sealE j.rh j.ru j.now):=by rw[A7];exact Act.eval_put_same _ _ _ (by rw[B3];decide)
      have f0:a2.eval (.tmp 0)=.pointer (some ⟨B,0,none⟩):=by rw[A7,Act.eval_put_ne _ _ _ _ (by decide)];exact(F.other 0 rfl).trans v0
      have f2:a2.eval (.tmp 2)=.pointer (some ⟨w.heap.size,0,none⟩):=by rw[A7,Act.eval_put_ne _ _ _ _ (by decide)];exact(F.other 2 rfl).trans v2
      have f3:a2.eval (.tmp 3)=.pointer (some ⟨w.heap.size+1,0,none⟩):=by rw[A7,Act.eval_put_ne _ _ _ _ (by decide)];exact(F.other 3 rfl).trans v3
      have f4:a2.eval (.tmp 4)=.pointer (some ⟨T,0,none⟩):=by rw[A7,Act.eval_put_ne _ _ _ _ (by decide)];exact pT
      have f5:a2.eval (.tmp 5)=.slice ya (commitS j.rh j.ru j.now).length yc:=by rw[A7,Act.eval_put_ne _ _ _ _ (by decide)];exact pS
      have A4:a2=⟨#[_,_,_,_,_,_,_,_,_,_,_,_,_,_,_,_,_,_,_,_,_,_,_,_,_,_,_,_,_,_,_,_,_,_,_,_,_,_,_,_,_,_,_,_,_,_,_,_,_,_,_,_,_,_,_,_,_,_,_,_,_,_,_,_,_,_,_],[]⟩:=zb9 a2 67 (by rw[A7,Act.size_put];exact B3) (by rw[A7,Act.defers_put'];exact F.defers.trans H1);dsimp only at A4;rw[f0,f2,f3,f4,f5,f6]at A4;show KK (a.put (some 6) (.int .i64 (sealE j.rh j.ru j.now))) _;rw[←A7];exact(congrArg (fun x=>KK x _) A4).mpr (H3.o (fun k=>a2.eval (.tmp k)) _ T ya yc A6 D9 D4 B0 A.1)
