/-
  
-/
import Derived.Test.YtjnpndfpajjihacGreatGrTopWhole41
import Derived.Test.YtjnpndfpajjihacGreatGrTopWhole46
set_option maxRecDepth 100000
set_option maxHeartbeats 40000000
namespace Go.Proofs.YtjnpndfpajjihacGreat
open Go.RowKit
theorem zty (rh ru:Int)(t:Tx)(na:Option Addr)(nc:Nat)(nb:Option Addr)(nd:Nat)(ne:Option Addr)(nf:Nat)(w:World)(hT:IsTx w (.agg #[.int .i64 t.seq,.slice na t.info.length nc,.slice nb t.data.length nd,.slice ne t.rev.length nf,.bool t.h0.on,.int .i64 t.h0.left,.bool t.h1.on,.int .i64 t.h1.left,.bool t.h2.on,.int .i64 t.h2.left]) t)(hR:RoomTx (.agg #[.int .i64 t.seq,.slice na t.info.length nc,.slice nb t.data.length nd,.slice ne t.rev.length nf,.bool t.h0.on,.int .i64 t.h0.left,.bool t.h1.on,.int .i64 t.h1.left,.bool t.h2.on,.int .i64 t.h2.left]))(r1:t.info.length*24≤140737488355328)(r2:t.data.length*24≤140737488355328):
  Calls Tryz.prog 125 #[.agg #[.int .i64 rh,.int .i64 ru],.agg #[.int .i64 t.seq,.slice na t.info.length nc,.slice nb t.data.length nd,.slice ne t.rev.length nf,.bool t.h0.on,.int .i64 t.h0.left,.bool t.h1.on,.int .i64 t.h1.left,.bool t.h2.on,.int .i64 t.h2.left]] w fun e w'=>∃a c,e=.returned (.tuple #[.agg #[.int .i64 (zcn rh ru t),.int .i64 (zci rh ru t)],.slice a (commitS rh ru t).length c,.int .i64 (sealE rh ru t)])∧(commitS rh ru t).length≤c∧Below w.heap.size w w'∧∀Y:List Nat,(∀x∈Y,x<w.heap.size)→SegSt (zar w' Y) a (commitS rh ru t):=by
 by_cases he:sealE rh ru t=0
 ·exact(z0o rh ru t na nb ne nc nd nf w hT hR.is.1 hR.is.2.2 he).mono fun _ _ ⟨a,c,h1,hc,hF,h2,h3⟩=>⟨a,c,h1,hc,h3,fun _ hY=>h2.hideF hF hY⟩
 ·exact(z0k rh ru _ t w hT r1 r2 he).mono fun _ _ ⟨a,c,h1,_,h3⟩=>⟨a,c,h1,by rw[commitS,if_neg he];exact Nat.zero_le _,h3,fun _ _=>.inl (by rw[commitS,if_neg he])⟩
def z1n (W:World)(u:Value)(w:World):Prop:=Below W.heap.size W w∧(u=undef∨∃T,u=.pointer (some ⟨T,0,none⟩)∧W.heap.size≤T∧T<w.heap.size∧∃c0 c1,w.heap[T]?=some (.cells #[c0,c1] 26 (0,0)))
theorem zxu {W:World}{u:Value}{w w':World}(h:z1n W u w)(hb:Below w.heap.size w w'):z1n W u w':=
 ⟨zae h.1 hb,h.2.imp id fun⟨T,h1,h2,h3,c0,c1,h4⟩=>⟨T,h1,h2,Nat.lt_of_lt_of_le h3 hb.size,c0,c1,zad hb h3 h4⟩⟩
def okSt (X:List Nat)(l:List St)(x u:Value)(w:World):Prop:=∃a c,x=.slice a l.length c∧l.length≤c∧SegSt (zar w X) a l∧∀T,u=.pointer (some ⟨T,0,none⟩)→SegSt (zar w (T::X)) a l
theorem okSt.below {X:List Nat}{l:List St}{x u:Value}{w w':World}(h:okSt X l x u w)(hb:Below w.heap.size w w'):okSt X l x u w':=by
 obtain⟨a,c,B,A,D,C⟩:=h;exact⟨a,c,B,A,D.ext (Ext.freshL hb),fun T e=>(C T e).ext (Ext.freshL hb)⟩
theorem okSt.alloc {X:List Nat}{l:List St}{x u:Value}{w:World}(h:okSt X l x u w)(o:Obj):okSt X l x (.pointer (some ⟨w.heap.size,0,none⟩)) (w.alloc o):=by
 obtain⟨a,c,C,B,A,_⟩:=h;exact⟨a,c,C,B,A.ext (Ext.freshL (zaa _ _)),fun T e=>by cases e;exact A.ext (Ext.newL (zaa _ _) (Nat.le_refl _))⟩
theorem okSt.store {X:List Nat}{l:List St}{x:Value}{T:Nat}{w:World}(h:okSt X l x (.pointer (some ⟨T,0,none⟩)) w)(v0 v1:Value):okSt X l x (.pointer (some ⟨T,0,none⟩)) ((w.setCell ⟨T,0,none⟩ (v0)).setCell ⟨T,1,none⟩ (v1)):=by
 obtain⟨a,c,B,A,_,C⟩:=h;have k:=((C T rfl).ext (Ext.setL (X:=T::X) (b:=T) (by simp) 0 v0)).ext (Ext.setL (X:=T::X) (b:=T) (by simp) 1 v1);exact⟨a,c,B,A,k.ext (Ext.lessL T),fun T' e=>by cases e;exact k⟩
theorem okSt.made {X:List Nat}{l:List St}{a:Option Addr}{c:Nat}{u:Value}{W w w2:World}(hX:∀x∈X,x<W.heap.size)(hB:z1n W u w)(hc:l.length≤c)(h:∀Y:List Nat,(∀x∈Y,x<w.heap.size)→SegSt (zar w2 Y) a l):okSt X l (.slice a l.length c) u w2:=by
 have hs:=hB.1.size;refine⟨a,c,rfl,hc,h X (fun x hx=>by have:=hX x hx;omega),fun T e=>h (T::X) (fun x hx=>?_)⟩;rcases List.mem_cons.1 hx with rfl|hx
 ·rcases hB.2 with h0|⟨T',e',h3,h4,_⟩
  ·rw[h0] at e;cases e
  ·rw[e'] at e;cases e;exact h4
 ·have:=hX x hx;omega
end Go.Proofs.YtjnpndfpajjihacGreat


namespace Go.Proofs.YtjnpndfpajjihacGreat
open Tryz
open Go.RowKit
def zt0 (B:Nat)(D:Nat)(j:Jn)(X:List Nat)(na:Option Addr)(nc:Nat)(nb:Option Addr)(nd:Nat)(ne:Option Addr)(nf:Nat)(sH:Int)(sU:Int):Nat→Value→World→Prop
 |0,v,_=>v=.pointer (some ⟨B,0,none⟩)
 |1,v,_=>v=.pointer (some ⟨B,0,none⟩)
 |2,v,_=>v=.agg #[.int .i64 j.now.seq,.slice na j.now.info.length nc,.slice nb j.now.data.length nd,.slice ne j.now.rev.length nf,.bool j.now.h0.on,.int .i64 j.now.h0.left,.bool j.now.h1.on,.int .i64 j.now.h1.left,.bool j.now.h2.on,.int .i64 j.now.h2.left]
 |3,v,_=>v=.pointer (some ⟨D,0,none⟩)
 |4,v,_=>v=.int .i64 j.now.seq
 |5,v,_=>v=.int .i64 (j.now.seq+1)
 |6,v,_=>v=.agg #[.int .i64 (j.now.seq+1),.slice none 0 0,.slice none 0 0,.slice none 0 0,.bool false,.int .i64 0,.bool false,.int .i64 0,.bool false,.int .i64 0]
 |7,v,_=>v=.pointer (some ⟨B,0,none⟩)
 |8,v,_=>v=.pointer (some ⟨B,41,none⟩)
 |9,_,w=>JAt w B X {j with rh:=sH,ru:=sU,sealed:=j.now}
 |_,_,_=>True
theorem zt1 {B:Nat}{D:Nat}{j:Jn}{X:List Nat}{na:Option Addr}{nc:Nat}{nb:Option Addr}{nd:Nat}{ne:Option Addr}{nf:Nat}{sH:Int}{sU:Int}{w w':World}:∀kk x,kk≠9→zt0 B D j X na nc nb nd ne nf sH sU kk x w→zt0 B D j X na nc nb nd ne nf sH sU kk x w':=by
 intro kk x A h
 match kk,h with
 |0,h|1,h|2,h|3,h|4,h|5,h|6,h|7,h|8,h=>exact h
 |9,_=>exact absurd rfl A
 |_+10,_=>exact trivial
theorem JAt.ring {w:World}{B:Nat}{X:List Nat}{j:Jn}(h:JAt w B X j):w.cell? ⟨B,3,none⟩=some (.int .i64 j.rh)∧w.cell? ⟨B,4,none⟩=some (.int .i64 j.ru):=by
 obtain⟨_,da,dc,db,dd,na,nc,nb,nd,ne,nf,sa,sc,sb,sd,se,sf,ca,cc,fa,fc,ta,tc,A,_⟩:=h;exact⟨(zak A 3).trans rfl,(zak A 4).trans rfl⟩
def zdw (B:Nat)(j:Jn)(X:List Nat)(na:Option Addr)(nc:Nat)(nb:Option Addr)(nd:Nat)(ne:Option Addr)(nf:Nat):Nat→Value→Value→World→Prop
 |0,v,_,_=>v=.pointer (some ⟨B,0,none⟩)
 |1,v,_,_=>v=.pointer (some ⟨B,0,none⟩)
 |2,v,_,_=>v=.pointer (some ⟨B,3,none⟩)
 |3,v,_,_=>v=.agg #[.int .i64 j.rh,.int .i64 j.ru]
 |4,v,_,_=>v=.agg #[.int .i64 j.now.seq,.slice na j.now.info.length nc,.slice nb j.now.data.length nd,.slice ne j.now.rev.length nf,.bool j.now.h0.on,.int .i64 j.now.h0.left,.bool j.now.h1.on,.int .i64 j.now.h1.left,.bool j.now.h2.on,.int .i64 j.now.h2.left]
 |5,v,u,w=>∃x,v=.tuple #[.agg #[.int .i64 (zcn j.rh j.ru j.now),.int .i64 (zci j.rh j.ru j.now)],x,.int .i64 (sealE j.rh j.ru j.now)]∧okSt X (commitS j.rh j.ru j.now) x u w
 |6,v,u,w=>∃x,v=.tuple #[.agg #[.int .i64 (zcn j.rh j.ru j.now),.int .i64 (zci j.rh j.ru j.now)],x,.int .i64 (sealE j.rh j.ru j.now)]∧okSt X (commitS j.rh j.ru j.now) x u w
 |7,v,_,_=>v=.agg #[.int .i64 (zcn j.rh j.ru j.now),.int .i64 (zci j.rh j.ru j.now)]
 |8,v,u,w=>okSt X (commitS j.rh j.ru j.now) v u w
 |9,v,_,_=>v=.int .i64 (sealE j.rh j.ru j.now)
 |10,v,_,_=>∃T,v=.pointer (some ⟨T,0,none⟩)
 |11,v,_,w=>∃T,v=.pointer (some ⟨T,0,none⟩)∧w.heap[T]?=some (.cells #[.int .i64 (zcn j.rh j.ru j.now),.int .i64 (zci j.rh j.ru j.now)] 26 (0,0))
 |12,v,u,w=>okSt X (commitS j.rh j.ru j.now) v u w
 |_,_,_,_=>True
theorem zrx {B:Nat}{j:Jn}{X:List Nat}{na:Option Addr}{nc:Nat}{nb:Option Addr}{nd:Nat}{ne:Option Addr}{nf:Nat}{u:Value}{w w':World}(hb:Below w.heap.size w w'):∀kk x,zdw B j X na nc nb nd ne nf kk x u w→zdw B j X na nc nb nd ne nf kk x u w':=by
 intro kk x h
 match kk,h with
 |0,h|1,h|2,h|3,h|4,h=>exact h
 |5,⟨x,h1,h2⟩=>exact⟨x,h1,h2.below hb⟩
 |6,⟨x,h1,h2⟩=>exact⟨x,h1,h2.below hb⟩
 |7,h=>exact h
 |8,h=>exact h.below hb
 |9,h|10,h=>exact h
 |11,⟨T,h1,h2⟩=>exact⟨T,h1,zad hb (Array.getElem?_eq_some_iff.1 h2).1 h2⟩
 |12,h=>exact h.below hb
 |_+13,_=>exact trivial
theorem zry {B:Nat}{j:Jn}{X:List Nat}{na:Option Addr}{nc:Nat}{nb:Option Addr}{nd:Nat}{ne:Option Addr}{nf:Nat}{u:Value}{w:World}(o:Obj):∀kk x,zdw B j X na nc nb nd ne nf kk x u w→zdw B j X na nc nb nd ne nf kk x (.pointer (some ⟨w.heap.size,0,none⟩)) (w.alloc o):=by
 intro kk x h
 match kk,h with
 |0,h|1,h|2,h|3,h|4,h=>exact h
 |5,⟨x,h1,h2⟩=>exact⟨x,h1,h2.alloc o⟩
 |6,⟨x,h1,h2⟩=>exact⟨x,h1,h2.alloc o⟩
 |7,h=>exact h
 |8,h=>exact h.alloc o
 |9,h|10,h=>exact h
 |11,⟨T,h1,h2⟩=>exact⟨T,h1,zad (zaa _ _) (Array.getElem?_eq_some_iff.1 h2).1 h2⟩
 |12,h=>exact h.alloc o
 |_+13,_=>exact trivial
theorem zrz {B:Nat}{j:Jn}{X:List Nat}{na:Option Addr}{nc:Nat}{nb:Option Addr}{nd:Nat}{ne:Option Addr}{nf:Nat}{u:Value}{w w':World}(hs:∀x,okSt X (commitS j.rh j.ru j.now) x u w→okSt X (commitS j.rh j.ru j.now) x u w'):∀kk x,kk≠11→zdw B j X na nc nb nd ne nf kk x u w→zdw B j X na nc nb nd ne nf kk x u w':=by
 intro kk x A h
 match kk,h with
 |0,h|1,h|2,h|3,h|4,h=>exact h
 |5,⟨y,h1,h2⟩=>exact⟨y,h1,hs _ h2⟩
 |6,⟨y,h1,h2⟩=>exact⟨y,h1,hs _ h2⟩
 |7,h=>exact h
 |8,h=>exact hs _ h
 |9,h|10,h=>exact h
 |11,_=>exact absurd rfl A
 |12,h=>exact hs _ h
 |_+13,_=>exact trivial
theorem zt2 (B:Nat)(X:List Nat)(j:Jn)(w:World)(h:JAt w B X j)(hX:∀x∈X,x<w.heap.size)(r1:j.now.info.length*24≤140737488355328)(r2:j.now.data.length*24≤140737488355328)(hwp:IntKind.i64.wrap (j.now.seq+1)=j.now.seq+1):
  Calls prog 85 #[.pointer (some ⟨B,0,none⟩)] w (zdf w B X (zcw j)):=by
 have HJ:=zab h;have R1:=h.lt;have R:=h.1;have HX:=zab hX;have L1:=zab hwp;obtain⟨_,da,dc,db,dd,U,b,c,d,ne,Z,sa,sc,sb,sd,se,sf,ca,cc,fa,fc,ta,tc,D,hr⟩:=id h;have K6:w.cell? ⟨B,31,none⟩=some (.int .i64 j.now.seq):=zak D 31;have M2:w.cell? ⟨B,32,none⟩=some (.slice U j.now.info.length b):=zak D 32;have K2:w.cell? ⟨B,33,none⟩=some (.slice c j.now.data.length d):=zak D 33;have K0:w.cell? ⟨B,34,none⟩=some (.slice ne j.now.rev.length Z):=zak D 34;have K7:w.cell? ⟨B,35,none⟩=some (.bool j.now.h0.on):=zak D 35;have L5:w.cell? ⟨B,36,none⟩=some (.int .i64 j.now.h0.left):=zak D 36;have M4:w.cell? ⟨B,37,none⟩=some (.bool j.now.h1.on):=zak D 37;have K4:w.cell? ⟨B,38,none⟩=some (.int .i64 j.now.h1.left):=zak D 38;have M5:w.cell? ⟨B,39,none⟩=some (.bool j.now.h2.on):=zak D 39;have K3:w.cell? ⟨B,40,none⟩=some (.int .i64 j.now.h2.left):=zak D 40;have M0:=zab (hr.2.1.ext (Ext.seenL w X));have F7:=zab hr.2.1;have L4:=zab hr.2.2.2.2.2.2.1;clear h hX hwp D hr;have P2:¬w.heap.size=B:=by omega
 have L:¬w.heap.size+1=B:=by omega
 go_enter func85,ntmps85;go_wp2_with fail;obtain⟨W1,A8⟩:∃W1,W1=(w.alloc (.cells #[.int .i64 0,.int .i64 0,.string ⟨#[]⟩] 31)).alloc (.cells #[.int .i64 j.now.seq,.slice U j.now.info.length b,.slice c j.now.data.length d,.slice ne j.now.rev.length Z,.bool j.now.h0.on,.int .i64 j.now.h0.left,.bool j.now.h1.on,.int .i64 j.now.h1.left,.bool j.now.h2.on,.int .i64 j.now.h2.left] 40):=⟨_,rfl⟩;have H4:(w.alloc (.cells #[.int .i64 0,.int .i64 0,.string ⟨#[]⟩] 31)).heap.size=w.heap.size+1:=by simp
 have i:Hid (JAt W1 B (w.heap.size::X) j):=by rw[A8];exact(HJ.o.more (zaa _ _) (Nat.le_refl _)).below (zaa _ _)
 have M:Hid (ButL [B] w.heap.size w W1):=by rw[A8];exact ButL.of_below (zae (zaa _ _) (zaa _ _))
 have G3:Hid (Below w.heap.size w W1):=by rw[A8];exact zae (zaa _ _) (zaa _ _)
 have KR:Hid (W1.heap[w.heap.size]?=some (.cells #[.int .i64 0,.int .i64 0,.string ⟨#[]⟩] 31 (0,0))):=by rw[A8];exact zad (zaa _ _) (by omega) (heap_alloc_new _ _)
 have KA:Hid (W1.heap[w.heap.size+1]?=some (.cells #[.int .i64 j.now.seq,.slice U j.now.info.length b,.slice c j.now.data.length d,.slice ne j.now.rev.length Z,.bool j.now.h0.on,.int .i64 j.now.h0.left,.bool j.now.h1.on,.int .i64 j.now.h1.left,.bool j.now.h2.on,.int .i64 j.now.h2.left] 40 (0,0))):=by rw[A8,←H4];exact heap_alloc_new _ _
 have S2:W1.heap.size=w.heap.size+2:=by rw[A8];simp
 have A1:w.heap.size<W1.heap.size:=by omega
 have A3:w.heap.size≠B:=by omega
 rw[←A8];clear A8 H4;refine(zfk B (w.heap.size::X) j W1 i.o).mono ?_;rintro e w' ⟨rfl,rfl⟩;by_cases hs:0<j.steps.length
 ·have HE:Hid (zcw j=(j,zas 9)):=by rw[Hid,zcw,if_pos (.inl (by intro e;rw[e] at hs;simp at hs))]
  have B4:decide (0<j.steps.length)=true:=by simpa using hs
  rw[B4];clear hs B4;go_wp2_with fail;refine(zat 9 _).mono ?_;rintro e w2 ⟨rfl,C⟩;have O:=zab (zad C A1 KR.o);have A2:=zab (i.o.below C);have r:=zab (M.o.trans (Y:=[]) (ButL.of_below C) M.o.size (by simp));clear C;obtain⟨⟨l,m,n⟩,yf⟩:=zbl O.o;go_wp2;exact zbf HE.o O.o A2.o r.o A3 R fun W u0 u1 u2=>by simp[results,results85,go_sem,u0,u1,u2]
 ·have B4:decide (0<j.steps.length)=false:=by simpa using hs
  have J4:j.steps=[]:=List.eq_nil_of_length_eq_zero (by omega);rw[B4];clear hs B4;obtain⟨⟨l,m,n,y3,y4,y5,y6,y7,y8,y9⟩,_⟩:=zaj KA.o;go_wp2_with fail;refine(zqq _ j.now _ (M0.o.below G3.o)).mono ?_;rintro e w1 ⟨rfl,N⟩;have E6:=zab (i.o.below N);have C5:Hid (ButL [B] w.heap.size w w1):=M.o.trans (Y:=[]) (ButL.of_below N) M.o.size (by simp);have G9:=zab (zae G3.o N);have H1:=zab (zad N A1 KR.o);have F6:=zab (zad N (show w.heap.size+1<w'.heap.size by omega) KA.o);have R0:w'.heap.size≤w1.heap.size:=N.size;clear N l m n y3 y4 y5 y6 y7 y8 y9 i M G3 KR KA;by_cases hop:zh6 j.now=true
  ·have HE:Hid (zcw j=(j,zas 9)):=by rw[Hid,zcw,if_pos (.inr hop)]
   rw[hop];clear hop;have i:=E6;have M:=C5;have KR:=H1;have A1:w.heap.size<w1.heap.size:=by omega
   go_wp2_with fail;refine(zat 9 _).mono ?_;rintro e w2 ⟨rfl,C⟩;have O:=zab (zad C A1 KR.o);have A2:=zab (i.o.below C);have r:=zab (M.o.trans (Y:=[]) (ButL.of_below C) M.o.size (by simp));clear C;obtain⟨⟨l,m,n⟩,yf⟩:=zbl O.o;go_wp2;exact zbf HE.o O.o A2.o r.o A3 R fun W u0 u1 u2=>by simp[results,results85,go_sem,u0,u1,u2]
  ·have B7:zh6 j.now=false:=by simpa using hop
   have G7:Hid (¬(j.steps≠[]∨zh6 j.now=true)):=by rw[Hid,J4,B7];simp
   rw[B7];clear hop B7 J4;obtain⟨⟨l,m,n,y3,y4,y5,y6,y7,y8,y9⟩,_⟩:=zaj F6.o;go_wp2_with fail;refine(zts j.now U b c d ne Z w1).mono ?_;rintro e w2 ⟨rfl,C⟩;have B6:=zab (E6.o.below C);have B3:Hid (ButL [B] w.heap.size w w2):=C5.o.trans (Y:=[]) (ButL.of_below C) C5.o.size (by simp);have B8:=zab (zae G9.o C);have C2:=zab (zad C (show w.heap.size<w1.heap.size by omega) H1.o);have D8:=zab (zad C (show w.heap.size+1<w1.heap.size by omega) F6.o);have S6:w1.heap.size≤w2.heap.size:=C.size;clear C l m n y3 y4 y5 y6 y7 y8 y9 E6 C5 G9 H1 F6;have B2:w.heap.size<w2.heap.size:=by omega
   clear A1;by_cases hem:zfa j.now=true
   ·have HE:Hid (zcw j=(j,zas 4)):=by rw[Hid,zcw,if_neg G7.o,if_pos hem]
    rw[hem];clear hem;have i:=B6;have M:=B3;have KR:=C2;have A1:=B2;go_wp2_with fail;refine(zat 4 _).mono ?_;rintro e w2 ⟨rfl,C⟩;have O:=zab (zad C A1 KR.o);have A2:=zab (i.o.below C);have r:=zab (M.o.trans (Y:=[]) (ButL.of_below C) M.o.size (by simp));clear C;obtain⟨⟨l,m,n⟩,yf⟩:=zbl O.o;go_wp2;exact zbf HE.o O.o A2.o r.o A3 R fun W u0 u1 u2=>by simp[results,results85,go_sem,u0,u1,u2]
   ·have C0:zfa j.now=false:=by simpa using hem
    rw[C0];obtain⟨⟨l,m,n,y3,y4,y5,y6,y7,y8,y9⟩,_⟩:=zaj D8.o;by_cases hq:2147483645<j.now.seq
    ·have HE:Hid (zcw j=(j,zas 11)):=by rw[Hid,zcw,if_neg G7.o,if_neg hem,if_pos hq]
     clear hem C0;have i:=B6;have M:=B3;have KR:=C2;have A1:=B2;go_wp2_with fail;clear l m n y3 y4 y5 y6 y7 y8 y9;refine(zat 11 _).mono ?_;rintro e w2 ⟨rfl,C⟩;have O:=zab (zad C A1 KR.o);have A2:=zab (i.o.below C);have r:=zab (M.o.trans (Y:=[]) (ButL.of_below C) M.o.size (by simp));clear C;obtain⟨⟨l,m,n⟩,yf⟩:=zbl O.o;go_wp2;exact zbf HE.o O.o A2.o r.o A3 R fun W u0 u1 u2=>by simp[results,results85,go_sem,u0,u1,u2]
    ·have G8:Hid (zcw j=if sealE j.rh j.ru j.now=0 then({j with rh:=zcn j.rh j.ru j.now,ru:=zci j.rh j.ru j.now,sealed:=j.now,now:=zcu (j.now.seq+1),work:=6,steps:=commitS j.rh j.ru j.now},⟨0,j.now.seq,⟨#[]⟩⟩) else(j,zas (sealE j.rh j.ru j.now))):=by rw[Hid,zcw,if_neg G7.o,if_neg hem,if_neg hq]
     have P9:j.now.seq≤2147483645:=by omega
     clear hem C0 hq;go_wp2;rename_i KK E9;clear l m n y3 y4 y5 y6 y7 y8 y9;obtain⟨Q,J2⟩:∃Q,Q=w2:=⟨_,rfl⟩;rw[←J2];subst J2
     have F1:∀(g:Nat→Value) (q:World) (T:Nat) (ya:Option Addr) (yc:Nat),q.heap[T]?=some (.cells #[.int .i64 (zcn j.rh j.ru j.now),.int .i64 (zci j.rh j.ru j.now)] 26 (0,0))→SegSt (zar q (w.heap.size::X)) ya (commitS j.rh j.ru j.now)→(commitS j.rh j.ru j.now).length≤yc→Q.heap.size≤T→Below Q.heap.size Q q→KK ⟨#[.pointer (some ⟨B,0,none⟩),g 1,.pointer (some ⟨w.heap.size,0,none⟩),.pointer (some ⟨w.heap.size+1,0,none⟩),.pointer (some ⟨T,0,none⟩),.slice ya (commitS j.rh j.ru j.now).length yc,.int .i64 (sealE j.rh j.ru j.now),g 7,g 8,g 9,g 10,g 11,g 12,g 13,g 14,g 15,g 16,g 17,g 18,g 19,g 20,g 21,g 22,g 23,g 24,g 25,g 26,g 27,g 28,g 29,g 30,g 31,g 32,g 33,g 34,g 35,g 36,g 37,g 38,g 39,g 40,g 41,g 42,g 43,g 44,g 45,g 46,g 47,g 48,g 49,g 50,g 51,g 52,g 53,g 54,g 55,g 56,g 57,g 58,g 59,g 60,g 61,g 62,g 63,g 64,g 65,g 66],[]⟩ q:=by
      intro g q T ya yc A6 C1 E0 B0 A9;apply E9;clear E9;have D6:=zab (B6.o.below A9);have F2:Hid (ButL [B] w.heap.size w q):=B3.o.trans (Y:=[]) (ButL.of_below A9) B3.o.size (by simp);have F4:=zab (zae B8.o A9);have F5:=zab (zad A9 B2 C2.o);have I7:=zab (zad A9 (show w.heap.size+1<Q.heap.size by omega) D8.o);have KT:=zab A6;have G0:=zab C1;have R4:Q.heap.size≤q.heap.size:=A9.size;have S4:T<q.heap.size:=(Array.getElem?_eq_some_iff.1 A6).1;have J7:w.heap.size<q.heap.size:=by omega
      clear A9 A6 C1 B6 B3 B8 C2 D8;by_cases he:sealE j.rh j.ru j.now=0
      ·have HE:Hid (zcw j=({j with rh:=zcn j.rh j.ru j.now,ru:=zci j.rh j.ru j.now,sealed:=j.now,now:=zcu (j.now.seq+1),work:=6,steps:=commitS j.rh j.ru j.now},⟨0,j.now.seq,⟨#[]⟩⟩)):=by rw[Hid,G8.o,if_pos he]
       rw[he];clear he G8;obtain⟨sH,J0⟩:∃x,x=zcn j.rh j.ru j.now:=⟨_,rfl⟩;obtain⟨sU,I1⟩:∃x,x=zci j.rh j.ru j.now:=⟨_,rfl⟩;obtain⟨cS,J1⟩:∃x,x=commitS j.rh j.ru j.now:=⟨_,rfl⟩;rw[←J0,←I1] at KT HE;rw[←J1] at HE G0 E0⊢;clear J0 I1 J1;obtain⟨⟨t0,t1⟩,tf⟩:=zgk KT.o;obtain⟨_,G4,G5,E8,E7,D4,D7,C9,E3,D5,C6,D1,E1,C7,D2,D3,E2,F0,F3,G6,G2,G1,F9,D,_⟩:=id D6.o;have c3:q.cell? ⟨B,3,none⟩=some (.int .i64 j.rh):=zak D 3;have c4:q.cell? ⟨B,4,none⟩=some (.int .i64 j.ru):=zak D 4;have L8:q.frozen? ⟨B,3,none⟩=false:=frozen_of_row q _ _ _ _ D;have M3:q.frozen? ⟨B,4,none⟩=false:=frozen_of_row q _ _ _ _ D;clear D;have P8:¬T=B:=by omega
       go_wp2;rename_i H0 B9;clear t0 t1 tf c3 c4 L8 M3;obtain⟨W4,A5⟩:∃W4,W4=(q.setCell ⟨B,3,none⟩ (.int .i64 sH)).setCell ⟨B,4,none⟩ (.int .i64 sU):=⟨_,rfl⟩;rw[←A5];have L3:Hid (JAt W4 B (w.heap.size::X) {j with rh:=sH,ru:=sU}):=by rw[A5];exact D6.o.putRing sH sU
       have J5:Hid (ButL [B] w.heap.size w W4):=by rw[A5];exact(F2.o.set (.inl (by simp)) 3 _).set (.inl (by simp)) 4 _
       have M6:Hid (W4.heap[w.heap.size]?=some (.cells #[.int .i64 0,.int .i64 0,.string ⟨#[]⟩] 31 (0,0))):=by rw[A5];exact(Below.heap_setCell _ _ _ _ A3).trans ((Below.heap_setCell _ _ _ _ A3).trans F5.o)
       have S:Hid (W4.heap[w.heap.size+1]?=some (.cells #[.int .i64 j.now.seq,.slice U j.now.info.length b,.slice c j.now.data.length d,.slice ne j.now.rev.length Z,.bool j.now.h0.on,.int .i64 j.now.h0.left,.bool j.now.h1.on,.int .i64 j.now.h1.left,.bool j.now.h2.on,.int .i64 j.now.h2.left] 40 (0,0))):=by rw[A5];exact(Below.heap_setCell _ _ _ _ L).trans ((Below.heap_setCell _ _ _ _ L).trans I7.o)
       have J8:Hid (SegSt (zar W4 (w.heap.size::X)) ya cS):=by rw[A5];exact(G0.o.ext (Ext.setL (by simp[R]) _ _)).ext (Ext.setL (by simp[R]) _ _)
       have K8:Hid (IsTx (zar W4 (w.heap.size::X)) (.agg #[.int .i64 j.now.seq,.slice U j.now.info.length b,.slice c j.now.data.length d,.slice ne j.now.rev.length Z,.bool j.now.h0.on,.int .i64 j.now.h0.left,.bool j.now.h1.on,.int .i64 j.now.h1.left,.bool j.now.h2.on,.int .i64 j.now.h2.left]) j.now):=by rw[A5];exact((F7.o.ext (Ext.newL F4.o (Nat.le_refl _))).ext (Ext.setL (by simp[R]) _ _)).ext (Ext.setL (by simp[R]) _ _)
       have O9:W4.heap.size=q.heap.size:=by rw[A5];simp[World.setCell]
       clear A5 D6 F2 F5 I7 KT G0 F4
       have D9:∀(g:Nat→Value) (u:World),JAt u B (w.heap.size::X) {j with rh:=sH,ru:=sU,sealed:=j.now,now:=zcu (j.now.seq+1)}→ButL [B] W4.heap.size W4 u→H0 ⟨#[.pointer (some ⟨B,0,none⟩),g 1,.pointer (some ⟨w.heap.size,0,none⟩),.pointer (some ⟨w.heap.size+1,0,none⟩),g 4,.slice ya cS.length yc,g 6,g 7,g 8,g 9,g 10,g 11,g 12,g 13,g 14,g 15,g 16,g 17,g 18,g 19,g 20,g 21,g 22,g 23,g 24,g 25,g 26,g 27,g 28,g 29,g 30,g 31,g 32,g 33,g 34,g 35,g 36,g 37,g 38,g 39,g 40,g 41,g 42,g 43,g 44,g 45,g 46,g 47,g 48,g 49,g 50,g 51,g 52,g 53,g 54,g 55,g 56,g 57,g 58,g 59,g 60,g 61,g 62,g 63,g 64,g 65,g 66],[]⟩ u:=by
        intro g u I0 B1;apply B9;clear B9;have H8:=zab I0;have L6:Hid (ButL [B] w.heap.size w u):=J5.o.trans B1 J5.o.size (by simp);have H5:Hid (u.heap[w.heap.size]?=some (.cells #[.int .i64 0,.int .i64 0,.string ⟨#[]⟩] 31 (0,0))):=(B1.block _ (by omega) (by simpa using A3)).trans M6.o;have L2:Hid (u.heap[w.heap.size+1]?=some (.cells #[.int .i64 j.now.seq,.slice U j.now.info.length b,.slice c j.now.data.length d,.slice ne j.now.rev.length Z,.bool j.now.h0.on,.int .i64 j.now.h0.left,.bool j.now.h1.on,.int .i64 j.now.h1.left,.bool j.now.h2.on,.int .i64 j.now.h2.left] 40 (0,0))):=(B1.block _ (by omega) (by simpa using L)).trans S.o;have J6:Hid (SegSt (zar u (w.heap.size::X)) ya cS):=J8.o.ext (Ext.butL (B1.wider (Y:=(w.heap.size::X)) (by simp[R])));have P4:W4.heap.size≤u.heap.size:=B1.size;have R2:B<u.heap.size:=by omega
        clear I0 B1;obtain⟨_,G4,G5,E8,E7,D4,D7,C9,E3,D5,C6,D1,E1,C7,D2,D3,E2,F0,F3,G6,G2,G1,F9,D,_⟩:=id H8.o;have I6:∃v,u.cell? ⟨B,55,none⟩=some v:=⟨_,(zak D 55).trans rfl⟩;have I4:∃v,u.cell? ⟨B,56,none⟩=some v:=⟨_,(zak D 56).trans rfl⟩;have O7:u.frozen? ⟨B,55,none⟩=false:=frozen_of_row u _ _ _ _ D;have O6:u.frozen? ⟨B,56,none⟩=false:=frozen_of_row u _ _ _ _ D;obtain⟨R6,I6⟩:=I6;obtain⟨R5,I4⟩:=I4;clear D;obtain⟨⟨q0,_⟩,_⟩:=zaj L2.o;obtain⟨⟨l,m,n⟩,yf⟩:=zbl H5.o;go_wp2;obtain⟨W7,C8⟩:∃W7,W7=(u.setCell ⟨B,55,none⟩ (.int .i64 6)).setCell ⟨B,56,none⟩ (.slice ya cS.length yc):=⟨_,rfl⟩;rw[←C8];have O:Hid (W7.heap[w.heap.size]?=some (.cells #[.int .i64 0,.int .i64 0,.string ⟨#[]⟩] 31 (0,0))):=by rw[C8];exact(Below.heap_setCell _ _ _ _ A3).trans ((Below.heap_setCell _ _ _ _ A3).trans H5.o)
        have A2:Hid (JAt W7 B (w.heap.size::X) {j with rh:=sH,ru:=sU,sealed:=j.now,now:=zcu (j.now.seq+1),work:=6,steps:=cS}):=by rw[C8];exact(H8.o.putWork 6).putSteps (J6.o.ext (Ext.setL (by simp[R]) 55 (.int .i64 6))) E0
        have r:Hid (ButL [B] w.heap.size w W7):=by rw[C8];exact(L6.o.set (.inl (by simp)) 55 _).set (.inl (by simp)) 56 _
        obtain⟨W,hW⟩:∃W,W=(((W7.setCell ⟨w.heap.size,0,none⟩ (.int .i64 0)).setCell ⟨w.heap.size,1,none⟩ (.int .i64 j.now.seq)).setCell ⟨w.heap.size,2,none⟩ (.string ⟨#[]⟩)):=⟨_,rfl⟩;have hX:=zf9 O.o (.int .i64 0) (.int .i64 j.now.seq) (.string ⟨#[]⟩);rw[←hW] at hX⊢;obtain⟨⟨u0,u1,u2⟩,_⟩:=zbl hX;refine bodyPost_ret (v:=.agg #[.int .i64 0,.int .i64 j.now.seq,.string ⟨#[]⟩]) (by simp[results,results85,go_sem,u0,u1,u2]) rfl ⟨by rw[HE.o];rfl,?_,?_⟩
        ·rw[HE.o,hW];exact zw0 A2.o A3 R _ _ _
        ·rw[hW];exact((r.o.set (.inr (by omega)) 0 _).set (.inr (by omega)) 1 _).set (.inr (by omega)) 2 _
       have E4:=zab D9;clear D9 B9;have hwp:=L1.o;have H2:B<W4.heap.size:=by omega
       have K:w.heap.size+1<W4.heap.size:=by omega
       obtain⟨⟨l,m,n,y3,y4,y5,y6,y7,y8,y9⟩,_⟩:=zaj S.o;have Q0:=zab l;have Q1:=zab m;have Q2:=zab n;have Q3:=zab y3;have Q4:=zab y4;have Q5:=zab y5;have Q6:=zab y6;have Q7:=zab y7;have Q8:=zab y8;have Q9:=zab y9;clear l m n y3 y4 y5 y6 y7 y8 y9;refine(show∀A0:Act,A0=_→Code.wp prog _ _ A0 _ from fun A0 hA0=>?_) _ rfl;have I:A0.tmps.size=67:=by rw[hA0];rfl
       have F8:A0.defers=[]:=by rw[hA0]
       have v0:A0.eval (.tmp 0)=.pointer (some ⟨B,0,none⟩):=by rw[hA0];rfl
       have v2:A0.eval (.tmp 2)=.pointer (some ⟨w.heap.size,0,none⟩):=by rw[hA0];rfl
       have v3:A0.eval (.tmp 3)=.pointer (some ⟨w.heap.size+1,0,none⟩):=by rw[hA0];rfl
       have v5:A0.eval (.tmp 5)=.slice ya cS.length yc:=by rw[hA0];rfl
       clear hA0;refine zba 10 (fun w'=>(∃s,JAt w' B (w.heap.size::X) {j with rh:=sH,ru:=sU,sealed:=s})∧ButL [B] W4.heap.size W4 w') [46,47,48,49,50,51,52,53,54,54] (zt0 B (w.heap.size+1) j (w.heap.size::X) U b c d ne Z sH sU) (by kernel_rfl) (by kernel_rfl) (by kernel_rfl) (by kernel_rfl) (by decide) (⟨⟨_,L3.o.below (Below.refl _ _).drew⟩,ButL.of_below (Below.refl _ _).drew⟩) ⟨?_,?_,?_,?_,?_,?_,?_,?_,?_,?_,trivial⟩ ?_
       ·exact zbc v0 I (fun _=>rfl) fun ρ w' A z=>by simp only[execOp];go_simp
       ·exact zbc v0 I (fun _=>rfl) fun ρ w' A z=>by simp only[execOp];go_simp
       ·exact zbc v3 I (fun _=>rfl) fun ρ w' A z=>by have c0:w'.cell? ⟨w.heap.size+1,0,none⟩=some (.int .i64 j.now.seq):=(zaj ((A.2.block _ K (by simpa using L)).trans S.o)).1.1;have c1:w'.cell? ⟨w.heap.size+1,1,none⟩=some (.slice U j.now.info.length b):=(zaj ((A.2.block _ K (by simpa using L)).trans S.o)).1.2.1;have c2:w'.cell? ⟨w.heap.size+1,2,none⟩=some (.slice c j.now.data.length d):=(zaj ((A.2.block _ K (by simpa using L)).trans S.o)).1.2.2.1;have c3:w'.cell? ⟨w.heap.size+1,3,none⟩=some (.slice ne j.now.rev.length Z):=(zaj ((A.2.block _ K (by simpa using L)).trans S.o)).1.2.2.2.1;have c4:w'.cell? ⟨w.heap.size+1,4,none⟩=some (.bool j.now.h0.on):=(zaj ((A.2.block _ K (by simpa using L)).trans S.o)).1.2.2.2.2.1;have c5:w'.cell? ⟨w.heap.size+1,5,none⟩=some (.int .i64 j.now.h0.left):=(zaj ((A.2.block _ K (by simpa using L)).trans S.o)).1.2.2.2.2.2.1;have c6:w'.cell? ⟨w.heap.size+1,6,none⟩=some (.bool j.now.h1.on):=(zaj ((A.2.block _ K (by simpa using L)).trans S.o)).1.2.2.2.2.2.2.1;have c7:w'.cell? ⟨w.heap.size+1,7,none⟩=some (.int .i64 j.now.h1.left):=(zaj ((A.2.block _ K (by simpa using L)).trans S.o)).1.2.2.2.2.2.2.2.1;have c8:w'.cell? ⟨w.heap.size+1,8,none⟩=some (.bool j.now.h2.on):=(zaj ((A.2.block _ K (by simpa using L)).trans S.o)).1.2.2.2.2.2.2.2.2.1;have c9:w'.cell? ⟨w.heap.size+1,9,none⟩=some (.int .i64 j.now.h2.left):=(zaj ((A.2.block _ K (by simpa using L)).trans S.o)).1.2.2.2.2.2.2.2.2.2;simp only[execOp];go_simp
       ·exact zbc v3 I (fun _=>rfl) fun ρ w' A z=>by simp only[execOp];go_simp
       ·exact zal 3 49 I (fun _ _ h=>h) (fun _=>rfl) fun ρ w' A p=>by have c0:w'.cell? ⟨w.heap.size+1,0,none⟩=some (.int .i64 j.now.seq):=(zaj ((A.2.block _ K (by simpa using L)).trans S.o)).1.1;simp only[execOp];go_simp
       ·intro a w' F A J;have p50:a.eval (.tmp 50)=.int .i64 j.now.seq:=J ⟨4,.data⟩ (by simp) rfl;exact zgi _ rfl rfl (by have I5:=Act.eval_const a (.int .i64 1);revert p50 I5;generalize a.eval=ρ;intro p50 I5;simp only[execOp];go_simp) F I A rfl
       ·exact zal 5 51 I (fun _ _ h=>h) (fun _=>rfl) fun ρ w' A p=>by simp only[execOp];go_simp
       ·exact zal 0 46 I (fun _ _ h=>h) (fun _=>rfl) fun ρ w' A p=>by simp only[execOp];go_simp
       ·exact zal 7 53 I (fun _ _ h=>h) (fun _=>rfl) fun ρ w' A p=>by simp only[execOp];go_simp
       ·intro a w' F A J;have p54:a.eval (.tmp 54)=.pointer (some ⟨B,41,none⟩):=J ⟨8,.data⟩ (by simp) rfl;have p48:a.eval (.tmp 48)=.agg #[.int .i64 j.now.seq,.slice U j.now.info.length b,.slice c j.now.data.length d,.slice ne j.now.rev.length Z,.bool j.now.h0.on,.int .i64 j.now.h0.left,.bool j.now.h1.on,.int .i64 j.now.h1.left,.bool j.now.h2.on,.int .i64 j.now.h2.left]:=J ⟨2,.data⟩ (by simp) rfl;obtain⟨⟨s,E5⟩,H9⟩:=A;obtain⟨_,G4,G5,E8,E7,D4,D7,C9,E3,D5,C6,D1,E1,C7,D2,D3,E2,F0,F3,G6,G2,G1,F9,D,_⟩:=id E5;have S7:w'.cell? ⟨B,41,none⟩=some (.int .i64 s.seq):=zak D 41;have N9:w'.frozen? ⟨B,41,none⟩=false:=frozen_of_row w' _ _ _ _ D;have P7:w'.cell? ⟨B,42,none⟩=some (.slice D1 s.info.length E1):=zak D 42;have O2:w'.frozen? ⟨B,42,none⟩=false:=frozen_of_row w' _ _ _ _ D;have P1:w'.cell? ⟨B,43,none⟩=some (.slice C7 s.data.length D2):=zak D 43;have M8:w'.frozen? ⟨B,43,none⟩=false:=frozen_of_row w' _ _ _ _ D;have R9:w'.cell? ⟨B,44,none⟩=some (.slice D3 s.rev.length E2):=zak D 44;have O8:w'.frozen? ⟨B,44,none⟩=false:=frozen_of_row w' _ _ _ _ D;have R3:w'.cell? ⟨B,45,none⟩=some (.bool s.h0.on):=zak D 45;have O5:w'.frozen? ⟨B,45,none⟩=false:=frozen_of_row w' _ _ _ _ D;have P0:w'.cell? ⟨B,46,none⟩=some (.int .i64 s.h0.left):=zak D 46;have N6:w'.frozen? ⟨B,46,none⟩=false:=frozen_of_row w' _ _ _ _ D;have P3:w'.cell? ⟨B,47,none⟩=some (.bool s.h1.on):=zak D 47;have N3:w'.frozen? ⟨B,47,none⟩=false:=frozen_of_row w' _ _ _ _ D;have P6:w'.cell? ⟨B,48,none⟩=some (.int .i64 s.h1.left):=zak D 48;have N0:w'.frozen? ⟨B,48,none⟩=false:=frozen_of_row w' _ _ _ _ D;have P5:w'.cell? ⟨B,49,none⟩=some (.bool s.h2.on):=zak D 49;have N1:w'.frozen? ⟨B,49,none⟩=false:=frozen_of_row w' _ _ _ _ D;have R7:w'.cell? ⟨B,50,none⟩=some (.int .i64 s.h2.left):=zak D 50;have O4:w'.frozen? ⟨B,50,none⟩=false:=frozen_of_row w' _ _ _ _ D;have I9:IsTx (zar w' (w.heap.size::X)) (.agg #[.int .i64 j.now.seq,.slice U j.now.info.length b,.slice c j.now.data.length d,.slice ne j.now.rev.length Z,.bool j.now.h0.on,.int .i64 j.now.h0.left,.bool j.now.h1.on,.int .i64 j.now.h1.left,.bool j.now.h2.on,.int .i64 j.now.h2.left]) j.now:=K8.o.ext (Ext.butL (H9.wider (Y:=(w.heap.size::X)) (by simp[R])))
        refine zcf rfl rfl (w':=((((((((((w'.setCell ⟨B,41,none⟩ (.int .i64 j.now.seq)).setCell ⟨B,42,none⟩ (.slice U j.now.info.length b)).setCell ⟨B,43,none⟩ (.slice c j.now.data.length d)).setCell ⟨B,44,none⟩ (.slice ne j.now.rev.length Z)).setCell ⟨B,45,none⟩ (.bool j.now.h0.on)).setCell ⟨B,46,none⟩ (.int .i64 j.now.h0.left)).setCell ⟨B,47,none⟩ (.bool j.now.h1.on)).setCell ⟨B,48,none⟩ (.int .i64 j.now.h1.left)).setCell ⟨B,49,none⟩ (.bool j.now.h2.on)).setCell ⟨B,50,none⟩ (.int .i64 j.now.h2.left))) (by revert p54 p48;generalize a.eval=ρ;intro p54 p48;simp only[execOp];go_simp) ⟨_,rfl,⟨⟨_,E5.putSealed I9⟩,?_⟩,?_,?_⟩
        ·exact(((((((((H9.set (.inl (by simp)) 41 _).set (.inl (by simp)) 42 _).set (.inl (by simp)) 43 _).set (.inl (by simp)) 44 _).set (.inl (by simp)) 45 _).set (.inl (by simp)) 46 _).set (.inl (by simp)) 47 _).set (.inl (by simp)) 48 _).set (.inl (by simp)) 49 _).set (.inl (by simp)) 50 _
        ·exact E5.putSealed I9
        ·exact zt1
       ·intro a W F A J;have I8:a.eval (.tmp 47)=.pointer (some ⟨B,0,none⟩):=J 1 (by decide);have S5:a.eval (.tmp 48)=.agg #[.int .i64 j.now.seq,.slice U j.now.info.length b,.slice c j.now.data.length d,.slice ne j.now.rev.length Z,.bool j.now.h0.on,.int .i64 j.now.h0.left,.bool j.now.h1.on,.int .i64 j.now.h1.left,.bool j.now.h2.on,.int .i64 j.now.h2.left]:=J 2 (by decide);have K9:a.eval (.tmp 52)=.agg #[.int .i64 (j.now.seq+1),.slice none 0 0,.slice none 0 0,.slice none 0 0,.bool false,.int .i64 0,.bool false,.int .i64 0,.bool false,.int .i64 0]:=J 6 (by decide);have R8:a.eval (.tmp 54)=.pointer (some ⟨B,41,none⟩):=J 8 (by decide);have I2:JAt W B (w.heap.size::X) {j with rh:=sH,ru:=sU,sealed:=j.now}:=J 9 (by decide);obtain⟨_,G4,G5,E8,E7,D4,D7,C9,E3,D5,C6,D1,E1,C7,D2,D3,E2,F0,F3,G6,G2,G1,F9,D,_⟩:=id I2;have K6:W.cell? ⟨B,31,none⟩=some (.int .i64 j.now.seq):=zak D 31;have O0:W.frozen? ⟨B,31,none⟩=false:=frozen_of_row W _ _ _ _ D;have M2:W.cell? ⟨B,32,none⟩=some (.slice D4 j.now.info.length D7):=zak D 32;have O3:W.frozen? ⟨B,32,none⟩=false:=frozen_of_row W _ _ _ _ D;have K2:W.cell? ⟨B,33,none⟩=some (.slice C9 j.now.data.length E3):=zak D 33;have N2:W.frozen? ⟨B,33,none⟩=false:=frozen_of_row W _ _ _ _ D;have K0:W.cell? ⟨B,34,none⟩=some (.slice D5 j.now.rev.length C6):=zak D 34;have N7:W.frozen? ⟨B,34,none⟩=false:=frozen_of_row W _ _ _ _ D;have K7:W.cell? ⟨B,35,none⟩=some (.bool j.now.h0.on):=zak D 35;have N4:W.frozen? ⟨B,35,none⟩=false:=frozen_of_row W _ _ _ _ D;have L5:W.cell? ⟨B,36,none⟩=some (.int .i64 j.now.h0.left):=zak D 36;have N5:W.frozen? ⟨B,36,none⟩=false:=frozen_of_row W _ _ _ _ D;have M4:W.cell? ⟨B,37,none⟩=some (.bool j.now.h1.on):=zak D 37;have M7:W.frozen? ⟨B,37,none⟩=false:=frozen_of_row W _ _ _ _ D;have K4:W.cell? ⟨B,38,none⟩=some (.int .i64 j.now.h1.left):=zak D 38;have M9:W.frozen? ⟨B,38,none⟩=false:=frozen_of_row W _ _ _ _ D;have M5:W.cell? ⟨B,39,none⟩=some (.bool j.now.h2.on):=zak D 39
        have O1:W.frozen? ⟨B,39,none⟩=false:=frozen_of_row W _ _ _ _ D;have K3:W.cell? ⟨B,40,none⟩=some (.int .i64 j.now.h2.left):=zak D 40;have N8:W.frozen? ⟨B,40,none⟩=false:=frozen_of_row W _ _ _ _ D;show wpOps prog _ _ [10,11,12] a W;have B5:a.tmps.size=67:=F.size.trans I;rw[wpOps_cons];refine zbb (.pointer (some ⟨B,0,none⟩)) rfl rfl (by revert I8;generalize a.eval=ρ;intro I8;simp only[execOp];go_simp) ?_;obtain⟨b1,N⟩:∃b1,b1=a.put (some 55) (.pointer (some ⟨B,0,none⟩)):=⟨_,rfl⟩;have H6:b1.eval (.tmp 55)=.pointer (some ⟨B,0,none⟩):=by rw[N];exact Act.eval_put_same _ _ _ (by rw[B5];decide)
        have L0:b1.eval (.tmp 52)=.agg #[.int .i64 (j.now.seq+1),.slice none 0 0,.slice none 0 0,.slice none 0 0,.bool false,.int .i64 0,.bool false,.int .i64 0,.bool false,.int .i64 0]:=by rw[N,Act.eval_put_ne _ _ _ _ (by decide)];exact K9
        show wpOps prog _ _ [11,12] (a.put (some 55) (.pointer (some ⟨B,0,none⟩))) W;rw[←N,wpOps_cons];refine zbb (.pointer (some ⟨B,31,none⟩)) rfl rfl (by revert H6;generalize b1.eval=ρ;intro H6;simp only[execOp];go_simp) ?_;obtain⟨b2,C⟩:∃b2,b2=b1.put (some 56) (.pointer (some ⟨B,31,none⟩)):=⟨_,rfl⟩;have I3:b1.tmps.size=67:=by rw[N,Act.size_put];exact B5
        have J3:b2.eval (.tmp 56)=.pointer (some ⟨B,31,none⟩):=by rw[C];exact Act.eval_put_same _ _ _ (by rw[I3];decide)
        have H7:b2.eval (.tmp 52)=.agg #[.int .i64 (j.now.seq+1),.slice none 0 0,.slice none 0 0,.slice none 0 0,.bool false,.int .i64 0,.bool false,.int .i64 0,.bool false,.int .i64 0]:=by rw[C,Act.eval_put_ne _ _ _ _ (by decide)];exact L0
        show wpOps prog _ _ [12] (b1.put (some 56) (.pointer (some ⟨B,31,none⟩))) W;rw[←C,wpOps_cons];refine zcf rfl rfl (w':=((((((((((W.setCell ⟨B,31,none⟩ (.int .i64 (j.now.seq+1))).setCell ⟨B,32,none⟩ (.slice none 0 0)).setCell ⟨B,33,none⟩ (.slice none 0 0)).setCell ⟨B,34,none⟩ (.slice none 0 0)).setCell ⟨B,35,none⟩ (.bool false)).setCell ⟨B,36,none⟩ (.int .i64 0)).setCell ⟨B,37,none⟩ (.bool false)).setCell ⟨B,38,none⟩ (.int .i64 0)).setCell ⟨B,39,none⟩ (.bool false)).setCell ⟨B,40,none⟩ (.int .i64 0))) (by revert J3 H7;generalize b2.eval=ρ;intro J3 H7;simp only[execOp];go_simp) ?_;have f0:b2.eval (.tmp 0)=.pointer (some ⟨B,0,none⟩):=by rw[C,Act.eval_put_ne _ _ _ _ (by decide),N,Act.eval_put_ne _ _ _ _ (by decide)];exact(F.other 0 rfl).trans v0
        have f2:b2.eval (.tmp 2)=.pointer (some ⟨w.heap.size,0,none⟩):=by rw[C,Act.eval_put_ne _ _ _ _ (by decide),N,Act.eval_put_ne _ _ _ _ (by decide)];exact(F.other 2 rfl).trans v2
        have f3:b2.eval (.tmp 3)=.pointer (some ⟨w.heap.size+1,0,none⟩):=by rw[C,Act.eval_put_ne _ _ _ _ (by decide),N,Act.eval_put_ne _ _ _ _ (by decide)];exact(F.other 3 rfl).trans v3
        have f5:b2.eval (.tmp 5)=.slice ya cS.length yc:=by rw[C,Act.eval_put_ne _ _ _ _ (by decide),N,Act.eval_put_ne _ _ _ _ (by decide)];exact(F.other 5 rfl).trans v5
        have A4:b2=⟨#[_,_,_,_,_,_,_,_,_,_,_,_,_,_,_,_,_,_,_,_,_,_,_,_,_,_,_,_,_,_,_,_,_,_,_,_,_,_,_,_,_,_,_,_,_,_,_,_,_,_,_,_,_,_,_,_,_,_,_,_,_,_,_,_,_,_,_],[]⟩:=zcd b2 67 (by rw[C,Act.size_put];exact I3) (by rw[C,Act.defers_put',N,Act.defers_put'];exact F.defers.trans F8);dsimp only at A4;rw[f0,f2,f3,f5] at A4;show H0 b2 _;exact(congrArg (fun x=>H0 x _) A4).mpr (E4.o (fun k=>b2.eval (.tmp k)) _ (I2.putNow (t:=zcu (j.now.seq+1)) (zq8 _ _) (z3b _)) ((((((((((A.2.set (.inl (by simp)) 31 _).set (.inl (by simp)) 32 _).set (.inl (by simp)) 33 _).set (.inl (by simp)) 34 _).set (.inl (by simp)) 35 _).set (.inl (by simp)) 36 _).set (.inl (by simp)) 37 _).set (.inl (by simp)) 38 _).set (.inl (by simp)) 39 _).set (.inl (by simp)) 40 _))
      ·have HE:Hid (zcw j=(j,zas (sealE j.rh j.ru j.now))):=by rw[Hid,G8.o,if_neg he]
       have S3:(sealE j.rh j.ru j.now !=0)=true:=by simpa using he
       clear he;generalize sealE j.rh j.ru j.now=E at *;go_wp2_with fail;have i:=D6;have M:=F2;have KR:=F5;have A1:=J7;refine(zat E _).mono ?_;rintro e w2 ⟨rfl,C⟩;have O:=zab (zad C A1 KR.o);have A2:=zab (i.o.below C);have r:=zab (M.o.trans (Y:=[]) (ButL.of_below C) M.o.size (by simp));clear C;obtain⟨⟨l,m,n⟩,yf⟩:=zbl O.o;go_wp2;exact zbf HE.o O.o A2.o r.o A3 R fun W u0 u1 u2=>by simp[results,results85,go_sem,u0,u1,u2]
     have H3:=zab F1;clear F1 E9;have M1:Hid (IsTx (zar Q (w.heap.size::X)) (.agg #[.int .i64 j.now.seq,.slice U j.now.info.length b,.slice c j.now.data.length d,.slice ne j.now.rev.length Z,.bool j.now.h0.on,.int .i64 j.now.h0.left,.bool j.now.h1.on,.int .i64 j.now.h1.left,.bool j.now.h2.on,.int .i64 j.now.h2.left]) j.now):=F7.o.ext (Ext.newL B8.o (Nat.le_refl _));obtain⟨c3,c4⟩:=B6.o.ring;have C3:=zab c3;have C4:=zab c4;clear c3 c4;obtain⟨⟨l,m,n,y3,y4,y5,y6,y7,y8,y9⟩,_⟩:=zaj D8.o;have Q0:=zab l;have Q1:=zab m;have Q2:=zab n;have Q3:=zab y3;have Q4:=zab y4;have Q5:=zab y5;have Q6:=zab y6;have Q7:=zab y7;have Q8:=zab y8;have Q9:=zab y9;clear l m n y3 y4 y5 y6 y7 y8 y9;have H2:B<Q.heap.size:=by omega
     have K:w.heap.size+1<Q.heap.size:=by omega
     have J9:Hid (∀x∈(w.heap.size::X),x<Q.heap.size):=fun x hx=>by
      rcases List.mem_cons.1 hx with rfl|hx
      ·exact B2
      ·have:=HX.o x hx;omega
     refine(show∀A0:Act,A0=_→Code.wp prog _ _ A0 _ from fun A0 hA0=>?_) _ rfl;have I:A0.tmps.size=67:=by rw[hA0];rfl
     have F8:A0.defers=[]:=by rw[hA0]
     have v0:A0.eval (.tmp 0)=.pointer (some ⟨B,0,none⟩):=by rw[hA0];rfl
     have v2:A0.eval (.tmp 2)=.pointer (some ⟨w.heap.size,0,none⟩):=by rw[hA0];rfl
     have v3:A0.eval (.tmp 3)=.pointer (some ⟨w.heap.size+1,0,none⟩):=by rw[hA0];rfl
     have v4:A0.eval (.tmp 4)=undef:=by rw[hA0];rfl
     clear hA0;refine zda 13 4 (z1n Q) [29,30,31,32,33,34,28,35,36,37,4,4,5] (zdw B j (w.heap.size::X) U b c d ne Z) (by kernel_rfl) (by kernel_rfl) (by kernel_rfl) (by kernel_rfl) (by decide) (⟨(Below.refl _ _).drew,.inl v4⟩) ⟨?_,?_,?_,?_,?_,?_,?_,?_,?_,?_,?_,?_,?_,trivial⟩ ?_
     ·intro a w' F A J;have z0:=(F.other 0 rfl).trans v0;exact zby _ rfl rfl (by revert z0;generalize a.eval=ρ;intro z0;simp only[execOp];go_simp) F I A rfl
     ·intro a w' F A J;have p29:a.eval (.tmp 29)=.pointer (some ⟨B,0,none⟩):=J ⟨0,.data⟩ (by simp) rfl;exact zby _ rfl rfl (by revert p29;generalize a.eval=ρ;intro p29;simp only[execOp];go_simp) F I A rfl
     ·intro a w' F A J;have p30:a.eval (.tmp 30)=.pointer (some ⟨B,0,none⟩):=J ⟨1,.data⟩ (by simp) rfl;exact zby _ rfl rfl (by revert p30;generalize a.eval=ρ;intro p30;simp only[execOp];go_simp) F I A rfl
     ·intro a w' F A J;have p31:a.eval (.tmp 31)=.pointer (some ⟨B,3,none⟩):=J ⟨2,.data⟩ (by simp) rfl;have c0:w'.cell? ⟨B,3,none⟩=some (.int .i64 j.rh):=zac A.1 H2 C3.o;have c1:w'.cell? ⟨B,4,none⟩=some (.int .i64 j.ru):=zac A.1 H2 C4.o;exact zby _ rfl rfl (by revert p31;generalize a.eval=ρ;intro p31;simp only[execOp];go_simp) F I A rfl
     ·intro a w' F A J;have z3:=(F.other 3 rfl).trans v3;have c0:w'.cell? ⟨w.heap.size+1,0,none⟩=some (.int .i64 j.now.seq):=zac A.1 K Q0.o;have c1:w'.cell? ⟨w.heap.size+1,1,none⟩=some (.slice U j.now.info.length b):=zac A.1 K Q1.o;have c2:w'.cell? ⟨w.heap.size+1,2,none⟩=some (.slice c j.now.data.length d):=zac A.1 K Q2.o;have c3:w'.cell? ⟨w.heap.size+1,3,none⟩=some (.slice ne j.now.rev.length Z):=zac A.1 K Q3.o;have c4:w'.cell? ⟨w.heap.size+1,4,none⟩=some (.bool j.now.h0.on):=zac A.1 K Q4.o;have c5:w'.cell? ⟨w.heap.size+1,5,none⟩=some (.int .i64 j.now.h0.left):=zac A.1 K Q5.o;have c6:w'.cell? ⟨w.heap.size+1,6,none⟩=some (.bool j.now.h1.on):=zac A.1 K Q6.o;have c7:w'.cell? ⟨w.heap.size+1,7,none⟩=some (.int .i64 j.now.h1.left):=zac A.1 K Q7.o;have c8:w'.cell? ⟨w.heap.size+1,8,none⟩=some (.bool j.now.h2.on):=zac A.1 K Q8.o;have c9:w'.cell? ⟨w.heap.size+1,9,none⟩=some (.int .i64 j.now.h2.left):=zac A.1 K Q9.o;exact zby _ rfl rfl (by revert z3;generalize a.eval=ρ;intro z3;simp only[execOp];go_simp) F I A rfl
     ·intro a w' F A J;have p32:a.eval (.tmp 32)=.agg #[.int .i64 j.rh,.int .i64 j.ru]:=J ⟨3,.data⟩ (by simp) rfl;have p33:a.eval (.tmp 33)=.agg #[.int .i64 j.now.seq,.slice U j.now.info.length b,.slice c j.now.data.length d,.slice ne j.now.rev.length Z,.bool j.now.h0.on,.int .i64 j.now.h0.left,.bool j.now.h1.on,.int .i64 j.now.h1.left,.bool j.now.h2.on,.int .i64 j.now.h2.left]:=J ⟨4,.data⟩ (by simp) rfl;refine zbp 125 #[.agg #[.int .i64 j.rh,.int .i64 j.ru],.agg #[.int .i64 j.now.seq,.slice U j.now.info.length b,.slice c j.now.data.length d,.slice ne j.now.rev.length Z,.bool j.now.h0.on,.int .i64 j.now.h0.left,.bool j.now.h1.on,.int .i64 j.now.h1.left,.bool j.now.h2.on,.int .i64 j.now.h2.left]] rfl rfl (by have pf:=Act.eval_func a 125;revert p32 p33 pf;generalize a.eval=ρ;intro p32 p33 pf;simp only[execOp];go_simp) _ (zty j.rh j.ru j.now U b c d ne Z _ ((M1.o.ext (Ext.seenL Q _)).below A.1) L4.o r1 r2) ?_;rintro e w2 ⟨a2,c2,rfl,K1,C,L9⟩;refine⟨_,rfl,_,rfl,?_,?_,?_⟩
      ·show z1n Q ((a.put (some 34) _).eval (.tmp 4)) w2;rw[Act.eval_put_ne _ _ _ _ (by decide)];exact zxu A C
      ·show zdw _ _ _ _ _ _ _ _ _ _ ((a.put (some 34) _).eval (.tmp 34)) ((a.put (some 34) _).eval (.tmp 4)) w2;rw[zav F I (by decide),Act.eval_put_ne _ _ _ _ (by decide)];exact⟨_,rfl,okSt.made J9.o A K1 L9⟩
      ·intro kk x hk h;show zdw _ _ _ _ _ _ _ _ _ kk x ((a.put (some 34) _).eval (.tmp 4)) w2;rw[Act.eval_put_ne _ _ _ _ (by decide)];exact zrx C kk x h
     ·intro a w' F A J;obtain⟨x,pc,ok⟩:∃x,a.eval (.tmp 34)=.tuple #[.agg #[.int .i64 (zcn j.rh j.ru j.now),.int .i64 (zci j.rh j.ru j.now)],x,.int .i64 (sealE j.rh j.ru j.now)]∧okSt (w.heap.size::X) (commitS j.rh j.ru j.now) x (a.eval (.tmp 4)) w':=J ⟨5,.data⟩ (by simp) rfl;refine zbb (.tuple #[.agg #[.int .i64 (zcn j.rh j.ru j.now),.int .i64 (zci j.rh j.ru j.now)],x,.int .i64 (sealE j.rh j.ru j.now)]) rfl rfl (by revert pc;generalize a.eval=ρ;intro pc;simp only[execOp];go_simp) ⟨_,rfl,?_,?_,?_⟩
      ·show z1n Q ((a.put (some 28) _).eval (.tmp 4)) w';rw[Act.eval_put_ne _ _ _ _ (by decide)];exact A
      ·show zdw _ _ _ _ _ _ _ _ _ _ ((a.put (some 28) _).eval (.tmp 28)) ((a.put (some 28) _).eval (.tmp 4)) w';rw[zav F I (by decide),Act.eval_put_ne _ _ _ _ (by decide)];exact⟨x,rfl,ok⟩
      ·intro kk x hk h;show zdw _ _ _ _ _ _ _ _ _ kk x ((a.put (some 28) _).eval (.tmp 4)) w';rw[Act.eval_put_ne _ _ _ _ (by decide)];exact h
     ·intro a w' F A J;obtain⟨x,pm,ok⟩:∃x,a.eval (.tmp 28)=.tuple #[.agg #[.int .i64 (zcn j.rh j.ru j.now),.int .i64 (zci j.rh j.ru j.now)],x,.int .i64 (sealE j.rh j.ru j.now)]∧okSt (w.heap.size::X) (commitS j.rh j.ru j.now) x (a.eval (.tmp 4)) w':=J ⟨6,.data⟩ (by simp) rfl;exact zby _ rfl rfl (by revert pm;generalize a.eval=ρ;intro pm;simp only[execOp];go_simp) F I A rfl
     ·intro a w' F A J;obtain⟨x,pm,ok⟩:∃x,a.eval (.tmp 28)=.tuple #[.agg #[.int .i64 (zcn j.rh j.ru j.now),.int .i64 (zci j.rh j.ru j.now)],x,.int .i64 (sealE j.rh j.ru j.now)]∧okSt (w.heap.size::X) (commitS j.rh j.ru j.now) x (a.eval (.tmp 4)) w':=J ⟨6,.data⟩ (by simp) rfl;refine zbb (x) rfl rfl (by revert pm;generalize a.eval=ρ;intro pm;simp only[execOp];go_simp) ⟨_,rfl,?_,?_,?_⟩
      ·show z1n Q ((a.put (some 36) _).eval (.tmp 4)) w';rw[Act.eval_put_ne _ _ _ _ (by decide)];exact A
      ·show zdw _ _ _ _ _ _ _ _ _ _ ((a.put (some 36) _).eval (.tmp 36)) ((a.put (some 36) _).eval (.tmp 4)) w';rw[zav F I (by decide),Act.eval_put_ne _ _ _ _ (by decide)];exact ok
      ·intro kk x hk h;show zdw _ _ _ _ _ _ _ _ _ kk x ((a.put (some 36) _).eval (.tmp 4)) w';rw[Act.eval_put_ne _ _ _ _ (by decide)];exact h
     ·intro a w' F A J;obtain⟨x,pm,ok⟩:∃x,a.eval (.tmp 28)=.tuple #[.agg #[.int .i64 (zcn j.rh j.ru j.now),.int .i64 (zci j.rh j.ru j.now)],x,.int .i64 (sealE j.rh j.ru j.now)]∧okSt (w.heap.size::X) (commitS j.rh j.ru j.now) x (a.eval (.tmp 4)) w':=J ⟨6,.data⟩ (by simp) rfl;exact zby _ rfl rfl (by revert pm;generalize a.eval=ρ;intro pm;simp only[execOp];go_simp) F I A rfl
     ·intro a w' F A J;refine zfj (.pointer (some ⟨w'.heap.size,0,none⟩)) rfl rfl (w':=w'.alloc (.cells #[.int .i64 0,.int .i64 0] 26)) (by simp only[execOp];go_simp) ⟨_,rfl,?_,?_,?_⟩
      ·show z1n Q ((a.put (some 4) _).eval (.tmp 4)) _;rw[zav F I (by decide)];exact⟨A.1.alloc A.1.size _,.inr ⟨_,rfl,A.1.size,by simp,_,_,heap_alloc_new _ _⟩⟩
      ·show zdw _ _ _ _ _ _ _ _ _ _ ((a.put (some 4) _).eval (.tmp 4)) ((a.put (some 4) _).eval (.tmp 4)) _;rw[zav F I (by decide)];exact⟨_,rfl⟩
      ·intro kk x hk h;show zdw _ _ _ _ _ _ _ _ _ kk x ((a.put (some 4) _).eval (.tmp 4)) _;rw[zav F I (by decide)];exact zry _ kk x h
     ·intro a w' F A J;obtain⟨T,pT⟩:∃T,a.eval (.tmp 4)=.pointer (some ⟨T,0,none⟩):=J ⟨10,.data⟩ (by simp) rfl;have p0:a.eval (.tmp 35)=.agg #[.int .i64 (zcn j.rh j.ru j.now),.int .i64 (zci j.rh j.ru j.now)]:=J ⟨7,.data⟩ (by simp) rfl
      obtain⟨B0,K5,c0,c1,A6⟩:Q.heap.size≤T∧T<w'.heap.size∧∃c0 c1,w'.heap[T]?=some (.cells #[c0,c1] 26 (0,0)):=by
       rcases A.2 with h0|⟨T',e,h3,h4,h5⟩
       ·rw[h0] at pT;cases pT
       ·rw[e] at pT;cases pT;exact⟨h3,h4,h5⟩
      obtain⟨⟨t0,t1⟩,tf⟩:=zgk A6;refine zcf rfl rfl (w':=((w'.setCell ⟨T,0,none⟩ (.int .i64 (zcn j.rh j.ru j.now))).setCell ⟨T,1,none⟩ (.int .i64 (zci j.rh j.ru j.now)))) (by revert pT p0;generalize a.eval=ρ;intro pT p0;simp only[execOp];go_simp) ⟨_,rfl,?_,?_,?_⟩
      ·show z1n Q (a.eval (.tmp 4)) _;exact⟨(A.1.setCell (p:=⟨T,0,none⟩) B0 _).setCell (p:=⟨T,1,none⟩) B0 _,.inr ⟨T,pT,B0,by simpa[World.setCell] using K5,_,_,zjj A6 _ _⟩⟩
      ·show zdw _ _ _ _ _ _ _ _ _ _ (a.eval (.tmp 4)) (a.eval (.tmp 4)) _;exact⟨T,pT,zjj A6 _ _⟩
      ·intro kk x hk h;show zdw _ _ _ _ _ _ _ _ _ kk x (a.eval (.tmp 4)) _;rw[pT] at h⊢;exact zrz (fun x h=>h.store _ _) kk x hk h
     ·intro a w' F A J;have ok:okSt (w.heap.size::X) (commitS j.rh j.ru j.now) (a.eval (.tmp 36)) (a.eval (.tmp 4)) w':=J ⟨8,.data⟩ (by simp) rfl;obtain⟨y,hy⟩:∃y,y=a.eval (.tmp 36):=⟨_,rfl⟩;rw[←hy] at ok;have py:=hy.symm;refine zbb y rfl rfl (by revert py;generalize a.eval=ρ;intro py;simp only[execOp];go_simp) ⟨_,rfl,?_,?_,?_⟩
      ·show z1n Q ((a.put (some 5) _).eval (.tmp 4)) w';rw[Act.eval_put_ne _ _ _ _ (by decide)];exact A
      ·show zdw _ _ _ _ _ _ _ _ _ _ ((a.put (some 5) _).eval (.tmp 5)) ((a.put (some 5) _).eval (.tmp 4)) w';rw[zav F I (by decide),Act.eval_put_ne _ _ _ _ (by decide)];exact ok
      ·intro kk x hk h;show zdw _ _ _ _ _ _ _ _ _ kk x ((a.put (some 5) _).eval (.tmp 4)) w';rw[Act.eval_put_ne _ _ _ _ (by decide)];exact h
     ·intro a W F A J;obtain⟨T,pT,A6⟩:∃T,a.eval (.tmp 4)=.pointer (some ⟨T,0,none⟩)∧W.heap[T]?=some (.cells #[.int .i64 (zcn j.rh j.ru j.now),.int .i64 (zci j.rh j.ru j.now)] 26 (0,0)):=J 11 (by decide);obtain⟨ya,yc,pS,E0,C1,_⟩:okSt (w.heap.size::X) (commitS j.rh j.ru j.now) (a.eval (.tmp 5)) (a.eval (.tmp 4)) W:=J 12 (by decide);have pE:a.eval (.tmp 37)=.int .i64 (sealE j.rh j.ru j.now):=J 9 (by decide)
      have B0:Q.heap.size≤T:=by
       rcases A.2 with h0|⟨T',e,h3,h4,h5⟩
       ·rw[h0] at pT;cases pT
       ·rw[e] at pT;cases pT;exact h3
      show wpOps prog _ _ [13] a W;rw[wpOps_cons];refine zbb (.int .i64 (sealE j.rh j.ru j.now)) rfl rfl (by revert pE;generalize a.eval=ρ;intro pE;simp only[execOp];go_simp) ?_;have B5:a.tmps.size=67:=F.size.trans I;obtain⟨a2,A7⟩:∃a2,a2=a.put (some 6) (.int .i64 (sealE j.rh j.ru j.now)):=⟨_,rfl⟩;have f6:a2.eval (.tmp 6)=.int .i64 (sealE j.rh j.ru j.now):=by rw[A7];exact Act.eval_put_same _ _ _ (by rw[B5];decide)
      have f0:a2.eval (.tmp 0)=.pointer (some ⟨B,0,none⟩):=by rw[A7,Act.eval_put_ne _ _ _ _ (by decide)];exact(F.other 0 rfl).trans v0
      have f2:a2.eval (.tmp 2)=.pointer (some ⟨w.heap.size,0,none⟩):=by rw[A7,Act.eval_put_ne _ _ _ _ (by decide)];exact(F.other 2 rfl).trans v2
      have f3:a2.eval (.tmp 3)=.pointer (some ⟨w.heap.size+1,0,none⟩):=by rw[A7,Act.eval_put_ne _ _ _ _ (by decide)];exact(F.other 3 rfl).trans v3
      have f4:a2.eval (.tmp 4)=.pointer (some ⟨T,0,none⟩):=by rw[A7,Act.eval_put_ne _ _ _ _ (by decide)];exact pT
      have f5:a2.eval (.tmp 5)=.slice ya (commitS j.rh j.ru j.now).length yc:=by rw[A7,Act.eval_put_ne _ _ _ _ (by decide)];exact pS
      have A4:a2=⟨#[_,_,_,_,_,_,_,_,_,_,_,_,_,_,_,_,_,_,_,_,_,_,_,_,_,_,_,_,_,_,_,_,_,_,_,_,_,_,_,_,_,_,_,_,_,_,_,_,_,_,_,_,_,_,_,_,_,_,_,_,_,_,_,_,_,_,_],[]⟩:=zcd a2 67 (by rw[A7,Act.size_put];exact B5) (by rw[A7,Act.defers_put'];exact F.defers.trans F8);dsimp only at A4;rw[f0,f2,f3,f4,f5,f6] at A4;show KK (a.put (some 6) (.int .i64 (sealE j.rh j.ru j.now))) _;rw[←A7];exact(congrArg (fun x=>KK x _) A4).mpr (H3.o (fun k=>a2.eval (.tmp k)) _ T ya yc A6 C1 E0 B0 A.1)
end Go.Proofs.YtjnpndfpajjihacGreat

