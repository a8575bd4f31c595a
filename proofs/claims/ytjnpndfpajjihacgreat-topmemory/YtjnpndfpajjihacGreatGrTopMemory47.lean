/-
  
-/
import Derived.Test.YtjnpndfpajjihacGreatGrTopMemory41
import Derived.Test.YtjnpndfpajjihacGreatGrTopMemory46
set_option maxRecDepth 100000
set_option maxHeartbeats 40000000
namespace Go.Proofs.YtjnpndfpajjihacGreat
open Go.RowKit
theorem ztj (rh ru:Int)(t:Tx)(na:Option Addr)(nc:Nat)(nb:Option Addr)(nd:Nat)(ne:Option Addr)(nf:Nat)(w:World)(hT:IsTx w (.agg #[.int .i64 t.seq,.slice na t.info.length nc,.slice nb t.data.length nd,.slice ne t.rev.length nf,.bool t.h0.on,.int .i64 t.h0.left,.bool t.h1.on,.int .i64 t.h1.left,.bool t.h2.on,.int .i64 t.h2.left]) t)(hR:RoomTx (.agg #[.int .i64 t.seq,.slice na t.info.length nc,.slice nb t.data.length nd,.slice ne t.rev.length nf,.bool t.h0.on,.int .i64 t.h0.left,.bool t.h1.on,.int .i64 t.h1.left,.bool t.h2.on,.int .i64 t.h2.left]))(r1:t.info.length*24≤140737488355328)(r2:t.data.length*24≤140737488355328):
  Calls Tryz.prog 125 #[.agg #[.int .i64 rh,.int .i64 ru],.agg #[.int .i64 t.seq,.slice na t.info.length nc,.slice nb t.data.length nd,.slice ne t.rev.length nf,.bool t.h0.on,.int .i64 t.h0.left,.bool t.h1.on,.int .i64 t.h1.left,.bool t.h2.on,.int .i64 t.h2.left]] w fun e w'=>∃a c,e=.returned (.tuple #[.agg #[.int .i64 (zch rh ru t),.int .i64 (zcc rh ru t)],.slice a (commitS rh ru t).length c,.int .i64 (sealE rh ru t)])∧(commitS rh ru t).length≤c∧Below w.heap.size w w'∧∀Y:List Nat,(∀x∈Y,x<w.heap.size)→SegSt (zar w' Y) a (commitS rh ru t):=by
 by_cases he:sealE rh ru t=0
 ·exact(zzy rh ru t na nb ne nc nd nf w hT hR.is.1 hR.is.2.2 he).mono fun _ _ ⟨a,c,h1,hc,hF,h2,h3⟩=>⟨a,c,h1,hc,h3,fun _ hY=>h2.hideF hF hY⟩
 ·exact(zzu rh ru _ t w hT r1 r2 he).mono fun _ _ ⟨a,c,h1,_,h3⟩=>⟨a,c,h1,by rw[commitS,if_neg he];exact Nat.zero_le _,h3,fun _ _=>.inl (by rw[commitS,if_neg he])⟩
def z0p (W:World)(u:Value)(w:World):Prop:=Below W.heap.size W w∧(u=undef∨∃T,u=.pointer (some ⟨T,0,none⟩)∧W.heap.size≤T∧T<w.heap.size∧∃c0 c1,w.heap[T]?=some (.cells #[c0,c1] 26 (0,0)))
theorem zw3 {W:World}{u:Value}{w w':World}(h:z0p W u w)(hb:Below w.heap.size w w'):z0p W u w':=
 ⟨zae h.1 hb,h.2.imp id fun⟨T,h1,h2,h3,c0,c1,h4⟩=>⟨T,h1,h2,Nat.lt_of_lt_of_le h3 hb.size,c0,c1,zad hb h3 h4⟩⟩
def okSt (X:List Nat)(l:List St)(x u:Value)(w:World):Prop:=∃a c,x=.slice a l.length c∧l.length≤c∧SegSt (zar w X) a l∧∀T,u=.pointer (some ⟨T,0,none⟩)→SegSt (zar w (T::X)) a l
theorem okSt.below {X:List Nat}{l:List St}{x u:Value}{w w':World}(h:okSt X l x u w)(hb:Below w.heap.size w w'):okSt X l x u w':=by
 obtain⟨a,c,h1,h2,h3,h4⟩:=h;exact⟨a,c,h1,h2,h3.ext (Ext.freshL hb),fun T e=>(h4 T e).ext (Ext.freshL hb)⟩
theorem okSt.alloc {X:List Nat}{l:List St}{x u:Value}{w:World}(h:okSt X l x u w)(o:Obj):okSt X l x (.pointer (some ⟨w.heap.size,0,none⟩)) (w.alloc o):=by
 obtain⟨a,c,h1,h2,h3,_⟩:=h;exact⟨a,c,h1,h2,h3.ext (Ext.freshL (zab _ _)),fun T e=>by cases e;exact h3.ext (Ext.newL (zab _ _) (Nat.le_refl _))⟩
theorem okSt.store {X:List Nat}{l:List St}{x:Value}{T:Nat}{w:World}(h:okSt X l x (.pointer (some ⟨T,0,none⟩)) w)(v0 v1:Value):okSt X l x (.pointer (some ⟨T,0,none⟩)) ((w.setCell ⟨T,0,none⟩ (v0)).setCell ⟨T,1,none⟩ (v1)):=by
 obtain⟨a,c,h1,h2,_,h4⟩:=h;have k:=((h4 T rfl).ext (Ext.setL (X:=T::X) (b:=T) (by simp) 0 v0)).ext (Ext.setL (X:=T::X) (b:=T) (by simp) 1 v1);exact⟨a,c,h1,h2,k.ext (Ext.lessL T),fun T' e=>by cases e;exact k⟩
theorem okSt.made {X:List Nat}{l:List St}{a:Option Addr}{c:Nat}{u:Value}{W w w2:World}(hX:∀x∈X,x<W.heap.size)(hB:z0p W u w)(hc:l.length≤c)(h:∀Y:List Nat,(∀x∈Y,x<w.heap.size)→SegSt (zar w2 Y) a l):okSt X l (.slice a l.length c) u w2:=by
 have hs:=hB.1.size;refine⟨a,c,rfl,hc,h X (fun x hx=>by have:=hX x hx;omega),fun T e=>h (T::X) (fun x hx=>?_)⟩;rcases List.mem_cons.1 hx with rfl|hx
 ·rcases hB.2 with h0|⟨T',e',h3,h4,_⟩
  ·rw[h0] at e;cases e
  ·rw[e'] at e;cases e;exact h4
 ·have:=hX x hx;omega
def ztl (B:Nat)(D:Nat)(j:Jn)(X:List Nat)(na:Option Addr)(nc:Nat)(nb:Option Addr)(nd:Nat)(ne:Option Addr)(nf:Nat)(sH:Int)(sU:Int):Nat→Value→World→Prop
 |0,v,_=>v=.pointer (some ⟨B,0,none⟩)
 |1,v,_=>v=.pointer (some ⟨B,0,none⟩)
 |2,v,_=>v=.agg #[.int .i64 j.now.seq,.slice na j.now.info.length nc,.slice nb j.now.data.length nd,.slice ne j.now.rev.length nf,.bool j.now.h0.on,.int .i64 j.now.h0.left,.bool j.now.h1.on,.int .i64 j.now.h1.left,.bool j.now.h2.on,.int .i64 j.now.h2.left]
 |3,v,_=>v=.pointer (some ⟨D,0,none⟩)
 |4,v,_=>v=.int .i64 j.now.seq
 |5,v,_=>v=.int .i64 (j.now.seq+1)
 |6,v,_=>v=.agg #[.int .i64 (j.now.seq+1),.slice none 0 0,.slice none 0 0,.slice none 0 0,.bool false,.int .i64 0,.bool false,.int .i64 0,.bool false,.int .i64 0]
 |7,v,_=>v=.pointer (some ⟨B,0,none⟩)
 |8,v,_=>v=.pointer (some ⟨B,41,none⟩)
 |9,_,w=>JAt w B X {j with rh:=sH,ru:=sU,sealed:=j.now}
 |_,_,_=>True
theorem ztm {B:Nat}{D:Nat}{j:Jn}{X:List Nat}{na:Option Addr}{nc:Nat}{nb:Option Addr}{nd:Nat}{ne:Option Addr}{nf:Nat}{sH:Int}{sU:Int}{w w':World}:∀kk x,kk≠9→ztl B D j X na nc nb nd ne nf sH sU kk x w→ztl B D j X na nc nb nd ne nf sH sU kk x w':=by
 intro kk x hk h
 match kk,h with
 |0,h|1,h|2,h|3,h|4,h|5,h|6,h|7,h|8,h=>exact h
 |9,_=>exact absurd rfl hk
 |_+10,_=>exact trivial
theorem JAt.ring {w:World}{B:Nat}{X:List Nat}{j:Jn}(h:JAt w B X j):w.cell? ⟨B,3,none⟩=some (.int .i64 j.rh)∧w.cell? ⟨B,4,none⟩=some (.int .i64 j.ru):=by
 obtain⟨_,da,dc,db,dd,na,nc,nb,nd,ne,nf,sa,sc,sb,sd,se,sf,ca,cc,fa,fc,ta,tc,h1,_⟩:=h;exact⟨(zaj h1 3).trans rfl,(zaj h1 4).trans rfl⟩
def zdq (B:Nat)(j:Jn)(X:List Nat)(na:Option Addr)(nc:Nat)(nb:Option Addr)(nd:Nat)(ne:Option Addr)(nf:Nat):Nat→Value→Value→World→Prop
 |0,v,_,_=>v=.pointer (some ⟨B,0,none⟩)
 |1,v,_,_=>v=.pointer (some ⟨B,0,none⟩)
 |2,v,_,_=>v=.pointer (some ⟨B,3,none⟩)
 |3,v,_,_=>v=.agg #[.int .i64 j.rh,.int .i64 j.ru]
 |4,v,_,_=>v=.agg #[.int .i64 j.now.seq,.slice na j.now.info.length nc,.slice nb j.now.data.length nd,.slice ne j.now.rev.length nf,.bool j.now.h0.on,.int .i64 j.now.h0.left,.bool j.now.h1.on,.int .i64 j.now.h1.left,.bool j.now.h2.on,.int .i64 j.now.h2.left]
 |5,v,u,w=>∃x,v=.tuple #[.agg #[.int .i64 (zch j.rh j.ru j.now),.int .i64 (zcc j.rh j.ru j.now)],x,.int .i64 (sealE j.rh j.ru j.now)]∧okSt X (commitS j.rh j.ru j.now) x u w
 |6,v,u,w=>∃x,v=.tuple #[.agg #[.int .i64 (zch j.rh j.ru j.now),.int .i64 (zcc j.rh j.ru j.now)],x,.int .i64 (sealE j.rh j.ru j.now)]∧okSt X (commitS j.rh j.ru j.now) x u w
 |7,v,_,_=>v=.agg #[.int .i64 (zch j.rh j.ru j.now),.int .i64 (zcc j.rh j.ru j.now)]
 |8,v,u,w=>okSt X (commitS j.rh j.ru j.now) v u w
 |9,v,_,_=>v=.int .i64 (sealE j.rh j.ru j.now)
 |10,v,_,_=>∃T,v=.pointer (some ⟨T,0,none⟩)
 |11,v,_,w=>∃T,v=.pointer (some ⟨T,0,none⟩)∧w.heap[T]?=some (.cells #[.int .i64 (zch j.rh j.ru j.now),.int .i64 (zcc j.rh j.ru j.now)] 26 (0,0))
 |12,v,u,w=>okSt X (commitS j.rh j.ru j.now) v u w
 |_,_,_,_=>True
theorem zrf {B:Nat}{j:Jn}{X:List Nat}{na:Option Addr}{nc:Nat}{nb:Option Addr}{nd:Nat}{ne:Option Addr}{nf:Nat}{u:Value}{w w':World}(hb:Below w.heap.size w w'):∀kk x,zdq B j X na nc nb nd ne nf kk x u w→zdq B j X na nc nb nd ne nf kk x u w':=by
 intro kk x h
 match kk,h with
 |0,h|1,h|2,h|3,h|4,h=>exact h
 |5,⟨x,h1,h2⟩=>exact⟨x,h1,h2.below hb⟩
 |6,⟨x,h1,h2⟩=>exact⟨x,h1,h2.below hb⟩
 |7,h=>exact h
 |8,h=>exact h.below hb
 |9,h|10,h=>exact h
 |11,⟨T,h1,h2⟩=>exact⟨T,h1,zad hb (Array.getElem?_eq_some_iff.1 h2).1 h2⟩
 |12,h=>exact h.below hb
 |_+13,_=>exact trivial
theorem zrg {B:Nat}{j:Jn}{X:List Nat}{na:Option Addr}{nc:Nat}{nb:Option Addr}{nd:Nat}{ne:Option Addr}{nf:Nat}{u:Value}{w:World}(o:Obj):∀kk x,zdq B j X na nc nb nd ne nf kk x u w→zdq B j X na nc nb nd ne nf kk x (.pointer (some ⟨w.heap.size,0,none⟩)) (w.alloc o):=by
 intro kk x h
 match kk,h with
 |0,h|1,h|2,h|3,h|4,h=>exact h
 |5,⟨x,h1,h2⟩=>exact⟨x,h1,h2.alloc o⟩
 |6,⟨x,h1,h2⟩=>exact⟨x,h1,h2.alloc o⟩
 |7,h=>exact h
 |8,h=>exact h.alloc o
 |9,h|10,h=>exact h
 |11,⟨T,h1,h2⟩=>exact⟨T,h1,zad (zab _ _) (Array.getElem?_eq_some_iff.1 h2).1 h2⟩
 |12,h=>exact h.alloc o
 |_+13,_=>exact trivial
theorem zrh {B:Nat}{j:Jn}{X:List Nat}{na:Option Addr}{nc:Nat}{nb:Option Addr}{nd:Nat}{ne:Option Addr}{nf:Nat}{u:Value}{w w':World}(hs:∀x,okSt X (commitS j.rh j.ru j.now) x u w→okSt X (commitS j.rh j.ru j.now) x u w'):∀kk x,kk≠11→zdq B j X na nc nb nd ne nf kk x u w→zdq B j X na nc nb nd ne nf kk x u w':=by
 intro kk x hk h
 match kk,h with
 |0,h|1,h|2,h|3,h|4,h=>exact h
 |5,⟨y,h1,h2⟩=>exact⟨y,h1,hs _ h2⟩
 |6,⟨y,h1,h2⟩=>exact⟨y,h1,hs _ h2⟩
 |7,h=>exact h
 |8,h=>exact hs _ h
 |9,h|10,h=>exact h
 |11,_=>exact absurd rfl hk
 |12,h=>exact hs _ h
 |_+13,_=>exact trivial
theorem ztn (B:Nat)(X:List Nat)(j:Jn)(w:World)(h:JAt w B X j)(hX:∀x∈X,x<w.heap.size)(r1:j.now.info.length*24≤140737488355328)(r2:j.now.data.length*24≤140737488355328)(hwp:IntKind.i64.wrap (j.now.seq+1)=j.now.seq+1):
  Calls Tryz.prog 85 #[.pointer (some ⟨B,0,none⟩)] w (zdc w B X (zcr j)):=by
 have HJ:=zaa h;have hlt:=h.lt;have hBX:=h.1;have HX:=zaa hX;have HWP:=zaa hwp;obtain⟨_,da,dc,db,dd,na,nc,nb,nd,ne,nf,sa,sc,sb,sd,se,sf,ca,cc,fa,fc,ta,tc,h1,hr⟩:=id h;have c31:w.cell? ⟨B,31,none⟩=some (.int .i64 j.now.seq):=zaj h1 31;have c32:w.cell? ⟨B,32,none⟩=some (.slice na j.now.info.length nc):=zaj h1 32;have c33:w.cell? ⟨B,33,none⟩=some (.slice nb j.now.data.length nd):=zaj h1 33;have c34:w.cell? ⟨B,34,none⟩=some (.slice ne j.now.rev.length nf):=zaj h1 34;have c35:w.cell? ⟨B,35,none⟩=some (.bool j.now.h0.on):=zaj h1 35;have c36:w.cell? ⟨B,36,none⟩=some (.int .i64 j.now.h0.left):=zaj h1 36;have c37:w.cell? ⟨B,37,none⟩=some (.bool j.now.h1.on):=zaj h1 37;have c38:w.cell? ⟨B,38,none⟩=some (.int .i64 j.now.h1.left):=zaj h1 38;have c39:w.cell? ⟨B,39,none⟩=some (.bool j.now.h2.on):=zaj h1 39;have c40:w.cell? ⟨B,40,none⟩=some (.int .i64 j.now.h2.left):=zaj h1 40;have HT0:=zaa (hr.2.1.ext (Ext.seenL w X));have HTN0:=zaa hr.2.1;have HRN:=zaa hr.2.2.2.2.2.2.1;clear h hX hwp h1 hr;have hne:¬w.heap.size=B:=by omega
 have hne1:¬w.heap.size+1=B:=by omega
 go_enter Tryz.func85,Tryz.ntmps85;go_wp2_with fail;obtain⟨W1,hW1⟩:∃W1,W1=(w.alloc (.cells #[.int .i64 0,.int .i64 0,.string ⟨#[]⟩] 31)).alloc (.cells #[.int .i64 j.now.seq,.slice na j.now.info.length nc,.slice nb j.now.data.length nd,.slice ne j.now.rev.length nf,.bool j.now.h0.on,.int .i64 j.now.h0.left,.bool j.now.h1.on,.int .i64 j.now.h1.left,.bool j.now.h2.on,.int .i64 j.now.h2.left] 40):=⟨_,rfl⟩;have hz1:(w.alloc (.cells #[.int .i64 0,.int .i64 0,.string ⟨#[]⟩] 31)).heap.size=w.heap.size+1:=by simp
 have HJ1:Hid (JAt W1 B (w.heap.size::X) j):=by rw[hW1];exact(HJ.o.more (zab _ _) (Nat.le_refl _)).below (zab _ _)
 have HB1:Hid (ButL [B] w.heap.size w W1):=by rw[hW1];exact ButL.of_below (zae (zab _ _) (zab _ _))
 have HBW:Hid (Below w.heap.size w W1):=by rw[hW1];exact zae (zab _ _) (zab _ _)
 have KR:Hid (W1.heap[w.heap.size]?=some (.cells #[.int .i64 0,.int .i64 0,.string ⟨#[]⟩] 31 (0,0))):=by rw[hW1];exact zad (zab _ _) (by omega) (heap_alloc_new _ _)
 have KA:Hid (W1.heap[w.heap.size+1]?=some (.cells #[.int .i64 j.now.seq,.slice na j.now.info.length nc,.slice nb j.now.data.length nd,.slice ne j.now.rev.length nf,.bool j.now.h0.on,.int .i64 j.now.h0.left,.bool j.now.h1.on,.int .i64 j.now.h1.left,.bool j.now.h2.on,.int .i64 j.now.h2.left] 40 (0,0))):=by rw[hW1,←hz1];exact heap_alloc_new _ _
 have hsW:W1.heap.size=w.heap.size+2:=by rw[hW1];simp
 have hrl:w.heap.size<W1.heap.size:=by omega
 have hrB:w.heap.size≠B:=by omega
 rw[←hW1];clear hW1 hz1;refine(ze8 B (w.heap.size::X) j W1 HJ1.o).mono ?_;rintro e w' ⟨rfl,rfl⟩;by_cases hs:0<j.steps.length
 ·have HE:Hid (zcr j=(j,zav 9)):=by rw[Hid,zcr,if_pos (.inl (by intro e;rw[e] at hs;simp at hs))]
  have hs':decide (0<j.steps.length)=true:=by simpa using hs
  rw[hs'];clear hs hs';go_wp2_with fail;refine(zat 9 _).mono ?_;rintro e w2 ⟨rfl,hb2⟩;have KR2:=zaa (zad hb2 hrl KR.o);have HJ2:=zaa (HJ1.o.below hb2);have HB2:=zaa (HB1.o.trans (Y:=[]) (ButL.of_below hb2) HB1.o.size (by simp));clear hb2;obtain⟨⟨y0,y1,y2⟩,yf⟩:=zbj KR2.o;go_wp2;exact zbc HE.o KR2.o HJ2.o HB2.o hrB hBX fun W u0 u1 u2=>by simp[results,Tryz.results85,go_sem,u0,u1,u2]
 ·have hs':decide (0<j.steps.length)=false:=by simpa using hs
  have hs0:j.steps=[]:=List.eq_nil_of_length_eq_zero (by omega);rw[hs'];clear hs hs';obtain⟨⟨y0,y1,y2,y3,y4,y5,y6,y7,y8,y9⟩,_⟩:=zai KA.o;go_wp2_with fail;refine(zp7 _ j.now _ (HT0.o.below HBW.o)).mono ?_;rintro e w1 ⟨rfl,hb1⟩;have HJ3:=zaa (HJ1.o.below hb1);have HB3:Hid (ButL [B] w.heap.size w w1):=HB1.o.trans (Y:=[]) (ButL.of_below hb1) HB1.o.size (by simp);have HBW3:=zaa (zae HBW.o hb1);have KR3:=zaa (zad hb1 hrl KR.o);have KA3:=zaa (zad hb1 (show w.heap.size+1<w'.heap.size by omega) KA.o);have hs3:w'.heap.size≤w1.heap.size:=hb1.size;clear hb1 y0 y1 y2 y3 y4 y5 y6 y7 y8 y9 HJ1 HB1 HBW KR KA;by_cases hop:zhx j.now=true
  ·have HE:Hid (zcr j=(j,zav 9)):=by rw[Hid,zcr,if_pos (.inr hop)]
   rw[hop];clear hop;have HJ1:=HJ3;have HB1:=HB3;have KR:=KR3;have hrl:w.heap.size<w1.heap.size:=by omega
   go_wp2_with fail;refine(zat 9 _).mono ?_;rintro e w2 ⟨rfl,hb2⟩;have KR2:=zaa (zad hb2 hrl KR.o);have HJ2:=zaa (HJ1.o.below hb2);have HB2:=zaa (HB1.o.trans (Y:=[]) (ButL.of_below hb2) HB1.o.size (by simp));clear hb2;obtain⟨⟨y0,y1,y2⟩,yf⟩:=zbj KR2.o;go_wp2;exact zbc HE.o KR2.o HJ2.o HB2.o hrB hBX fun W u0 u1 u2=>by simp[results,Tryz.results85,go_sem,u0,u1,u2]
  ·have hop':zhx j.now=false:=by simpa using hop
   have HC1:Hid (¬(j.steps≠[]∨zhx j.now=true)):=by rw[Hid,hs0,hop'];simp
   rw[hop'];clear hop hop' hs0;obtain⟨⟨y0,y1,y2,y3,y4,y5,y6,y7,y8,y9⟩,_⟩:=zai KA3.o;go_wp2_with fail;refine(ztd j.now na nc nb nd ne nf w1).mono ?_;rintro e w2 ⟨rfl,hb2⟩;have HJ4:=zaa (HJ3.o.below hb2);have HB4:Hid (ButL [B] w.heap.size w w2):=HB3.o.trans (Y:=[]) (ButL.of_below hb2) HB3.o.size (by simp);have HBW4:=zaa (zae HBW3.o hb2);have KR4:=zaa (zad hb2 (show w.heap.size<w1.heap.size by omega) KR3.o);have KA4:=zaa (zad hb2 (show w.heap.size+1<w1.heap.size by omega) KA3.o);have hs4:w1.heap.size≤w2.heap.size:=hb2.size;clear hb2 y0 y1 y2 y3 y4 y5 y6 y7 y8 y9 HJ3 HB3 HBW3 KR3 KA3;have hrl2:w.heap.size<w2.heap.size:=by omega
   clear hrl;by_cases hem:zez j.now=true
   ·have HE:Hid (zcr j=(j,zav 4)):=by rw[Hid,zcr,if_neg HC1.o,if_pos hem]
    rw[hem];clear hem;have HJ1:=HJ4;have HB1:=HB4;have KR:=KR4;have hrl:=hrl2;go_wp2_with fail;refine(zat 4 _).mono ?_;rintro e w2 ⟨rfl,hb2⟩;have KR2:=zaa (zad hb2 hrl KR.o);have HJ2:=zaa (HJ1.o.below hb2);have HB2:=zaa (HB1.o.trans (Y:=[]) (ButL.of_below hb2) HB1.o.size (by simp));clear hb2;obtain⟨⟨y0,y1,y2⟩,yf⟩:=zbj KR2.o;go_wp2;exact zbc HE.o KR2.o HJ2.o HB2.o hrB hBX fun W u0 u1 u2=>by simp[results,Tryz.results85,go_sem,u0,u1,u2]
   ·have hem':zez j.now=false:=by simpa using hem
    rw[hem'];obtain⟨⟨y0,y1,y2,y3,y4,y5,y6,y7,y8,y9⟩,_⟩:=zai KA4.o;by_cases hq:2147483645<j.now.seq
    ·have HE:Hid (zcr j=(j,zav 11)):=by rw[Hid,zcr,if_neg HC1.o,if_neg hem,if_pos hq]
     clear hem hem';have HJ1:=HJ4;have HB1:=HB4;have KR:=KR4;have hrl:=hrl2;go_wp2_with fail;clear y0 y1 y2 y3 y4 y5 y6 y7 y8 y9;refine(zat 11 _).mono ?_;rintro e w2 ⟨rfl,hb2⟩;have KR2:=zaa (zad hb2 hrl KR.o);have HJ2:=zaa (HJ1.o.below hb2);have HB2:=zaa (HB1.o.trans (Y:=[]) (ButL.of_below hb2) HB1.o.size (by simp));clear hb2;obtain⟨⟨y0,y1,y2⟩,yf⟩:=zbj KR2.o;go_wp2;exact zbc HE.o KR2.o HJ2.o HB2.o hrB hBX fun W u0 u1 u2=>by simp[results,Tryz.results85,go_sem,u0,u1,u2]
    ·have HC2:Hid (zcr j=if sealE j.rh j.ru j.now=0 then({j with rh:=zch j.rh j.ru j.now,ru:=zcc j.rh j.ru j.now,sealed:=j.now,now:=zds (j.now.seq+1),work:=6,steps:=commitS j.rh j.ru j.now},⟨0,j.now.seq,⟨#[]⟩⟩) else(j,zav (sealE j.rh j.ru j.now))):=by rw[Hid,zcr,if_neg HC1.o,if_neg hem,if_neg hq]
     have hq':j.now.seq≤2147483645:=by omega
     clear hem hem' hq;go_wp2;rename_i KK hKK;clear y0 y1 y2 y3 y4 y5 y6 y7 y8 y9;obtain⟨W2,hW2⟩:∃W2,W2=w2:=⟨_,rfl⟩;rw[←hW2];subst hW2
     have TAIL:∀(g:Nat→Value) (W3:World) (T:Nat) (ya:Option Addr) (yc:Nat),W3.heap[T]?=some (.cells #[.int .i64 (zch j.rh j.ru j.now),.int .i64 (zcc j.rh j.ru j.now)] 26 (0,0))→SegSt (zar W3 (w.heap.size::X)) ya (commitS j.rh j.ru j.now)→(commitS j.rh j.ru j.now).length≤yc→W2.heap.size≤T→Below W2.heap.size W2 W3→KK ⟨#[.pointer (some ⟨B,0,none⟩),g 1,.pointer (some ⟨w.heap.size,0,none⟩),.pointer (some ⟨w.heap.size+1,0,none⟩),.pointer (some ⟨T,0,none⟩),.slice ya (commitS j.rh j.ru j.now).length yc,.int .i64 (sealE j.rh j.ru j.now),g 7,g 8,g 9,g 10,g 11,g 12,g 13,g 14,g 15,g 16,g 17,g 18,g 19,g 20,g 21,g 22,g 23,g 24,g 25,g 26,g 27,g 28,g 29,g 30,g 31,g 32,g 33,g 34,g 35,g 36,g 37,g 38,g 39,g 40,g 41,g 42,g 43,g 44,g 45,g 46,g 47,g 48,g 49,g 50,g 51,g 52,g 53,g 54,g 55,g 56,g 57,g 58,g 59,g 60,g 61,g 62,g 63,g 64,g 65,g 66],[]⟩ W3:=by
      intro g W3 T ya yc hTb hSS hcS hT1 hb3;apply hKK;clear hKK;have HJ5:=zaa (HJ4.o.below hb3);have HB5:Hid (ButL [B] w.heap.size w W3):=HB4.o.trans (Y:=[]) (ButL.of_below hb3) HB4.o.size (by simp);have HBW5:=zaa (zae HBW4.o hb3);have KR5:=zaa (zad hb3 hrl2 KR4.o);have KA5:=zaa (zad hb3 (show w.heap.size+1<W2.heap.size by omega) KA4.o);have KT:=zaa hTb;have HSS:=zaa hSS;have hs5:W2.heap.size≤W3.heap.size:=hb3.size;have hTl:T<W3.heap.size:=(Array.getElem?_eq_some_iff.1 hTb).1;have hrl5:w.heap.size<W3.heap.size:=by omega
      clear hb3 hTb hSS HJ4 HB4 HBW4 KR4 KA4;by_cases he:sealE j.rh j.ru j.now=0
      ·have HE:Hid (zcr j=({j with rh:=zch j.rh j.ru j.now,ru:=zcc j.rh j.ru j.now,sealed:=j.now,now:=zds (j.now.seq+1),work:=6,steps:=commitS j.rh j.ru j.now},⟨0,j.now.seq,⟨#[]⟩⟩)):=by rw[Hid,HC2.o,if_pos he]
       rw[he];clear he HC2;obtain⟨sH,hsH⟩:∃x,x=zch j.rh j.ru j.now:=⟨_,rfl⟩;obtain⟨sU,hsU⟩:∃x,x=zcc j.rh j.ru j.now:=⟨_,rfl⟩;obtain⟨cS,hcs⟩:∃x,x=commitS j.rh j.ru j.now:=⟨_,rfl⟩;rw[←hsH,←hsU] at KT HE;rw[←hcs] at HE HSS hcS⊢;clear hsH hsU hcs;obtain⟨⟨t0,t1⟩,tf⟩:=zfl KT.o;obtain⟨_,kda,kdc,kdb,kdd,kna,knc,knb,knd,kne,knf,ksa,ksc,ksb,ksd,kse,ksf,kca,kcc,kfa,kfc,kta,ktc,h1,_⟩:=id HJ5.o;have c3:W3.cell? ⟨B,3,none⟩=some (.int .i64 j.rh):=zaj h1 3;have c4:W3.cell? ⟨B,4,none⟩=some (.int .i64 j.ru):=zaj h1 4;have fc3:W3.frozen? ⟨B,3,none⟩=false:=frozen_of_row W3 _ _ _ _ h1;have fc4:W3.frozen? ⟨B,4,none⟩=false:=frozen_of_row W3 _ _ _ _ h1;clear h1;have hTB:¬T=B:=by omega
       go_wp2;rename_i KK2 hKK2;clear t0 t1 tf c3 c4 fc3 fc4;obtain⟨W4,hW4⟩:∃W4,W4=(W3.setCell ⟨B,3,none⟩ (.int .i64 sH)).setCell ⟨B,4,none⟩ (.int .i64 sU):=⟨_,rfl⟩;rw[←hW4];have HJ6:Hid (JAt W4 B (w.heap.size::X) {j with rh:=sH,ru:=sU}):=by rw[hW4];exact HJ5.o.putRing sH sU
       have HB6:Hid (ButL [B] w.heap.size w W4):=by rw[hW4];exact(HB5.o.set (.inl (by simp)) 3 _).set (.inl (by simp)) 4 _
       have KR6:Hid (W4.heap[w.heap.size]?=some (.cells #[.int .i64 0,.int .i64 0,.string ⟨#[]⟩] 31 (0,0))):=by rw[hW4];exact(Below.heap_setCell _ _ _ _ hrB).trans ((Below.heap_setCell _ _ _ _ hrB).trans KR5.o)
       have KA6:Hid (W4.heap[w.heap.size+1]?=some (.cells #[.int .i64 j.now.seq,.slice na j.now.info.length nc,.slice nb j.now.data.length nd,.slice ne j.now.rev.length nf,.bool j.now.h0.on,.int .i64 j.now.h0.left,.bool j.now.h1.on,.int .i64 j.now.h1.left,.bool j.now.h2.on,.int .i64 j.now.h2.left] 40 (0,0))):=by rw[hW4];exact(Below.heap_setCell _ _ _ _ hne1).trans ((Below.heap_setCell _ _ _ _ hne1).trans KA5.o)
       have HSS6:Hid (SegSt (zar W4 (w.heap.size::X)) ya cS):=by rw[hW4];exact(HSS.o.ext (Ext.setL (by simp[hBX]) _ _)).ext (Ext.setL (by simp[hBX]) _ _)
       have HT6:Hid (IsTx (zar W4 (w.heap.size::X)) (.agg #[.int .i64 j.now.seq,.slice na j.now.info.length nc,.slice nb j.now.data.length nd,.slice ne j.now.rev.length nf,.bool j.now.h0.on,.int .i64 j.now.h0.left,.bool j.now.h1.on,.int .i64 j.now.h1.left,.bool j.now.h2.on,.int .i64 j.now.h2.left]) j.now):=by rw[hW4];exact((HTN0.o.ext (Ext.newL HBW5.o (Nat.le_refl _))).ext (Ext.setL (by simp[hBX]) _ _)).ext (Ext.setL (by simp[hBX]) _ _)
       have hs6:W4.heap.size=W3.heap.size:=by rw[hW4];simp[World.setCell]
       clear hW4 HJ5 HB5 KR5 KA5 KT HSS HBW5
       have TAIL2:∀(g:Nat→Value) (W6:World),JAt W6 B (w.heap.size::X) {j with rh:=sH,ru:=sU,sealed:=j.now,now:=zds (j.now.seq+1)}→ButL [B] W4.heap.size W4 W6→KK2 ⟨#[.pointer (some ⟨B,0,none⟩),g 1,.pointer (some ⟨w.heap.size,0,none⟩),.pointer (some ⟨w.heap.size+1,0,none⟩),g 4,.slice ya cS.length yc,g 6,g 7,g 8,g 9,g 10,g 11,g 12,g 13,g 14,g 15,g 16,g 17,g 18,g 19,g 20,g 21,g 22,g 23,g 24,g 25,g 26,g 27,g 28,g 29,g 30,g 31,g 32,g 33,g 34,g 35,g 36,g 37,g 38,g 39,g 40,g 41,g 42,g 43,g 44,g 45,g 46,g 47,g 48,g 49,g 50,g 51,g 52,g 53,g 54,g 55,g 56,g 57,g 58,g 59,g 60,g 61,g 62,g 63,g 64,g 65,g 66],[]⟩ W6:=by
        intro g W6 hJ7 hB7;apply hKK2;clear hKK2;have HJ7:=zaa hJ7;have HB7:Hid (ButL [B] w.heap.size w W6):=HB6.o.trans hB7 HB6.o.size (by simp);have KR7:Hid (W6.heap[w.heap.size]?=some (.cells #[.int .i64 0,.int .i64 0,.string ⟨#[]⟩] 31 (0,0))):=(hB7.block _ (by omega) (by simpa using hrB)).trans KR6.o;have KA7:Hid (W6.heap[w.heap.size+1]?=some (.cells #[.int .i64 j.now.seq,.slice na j.now.info.length nc,.slice nb j.now.data.length nd,.slice ne j.now.rev.length nf,.bool j.now.h0.on,.int .i64 j.now.h0.left,.bool j.now.h1.on,.int .i64 j.now.h1.left,.bool j.now.h2.on,.int .i64 j.now.h2.left] 40 (0,0))):=(hB7.block _ (by omega) (by simpa using hne1)).trans KA6.o;have HSS7:Hid (SegSt (zar W6 (w.heap.size::X)) ya cS):=HSS6.o.ext (Ext.butL (hB7.wider (Y:=(w.heap.size::X)) (by simp[hBX])));have hs7:W4.heap.size≤W6.heap.size:=hB7.size;have hl7:B<W6.heap.size:=by omega
        clear hJ7 hB7;obtain⟨_,kda,kdc,kdb,kdd,kna,knc,knb,knd,kne,knf,ksa,ksc,ksb,ksd,kse,ksf,kca,kcc,kfa,kfc,kta,ktc,h1,_⟩:=id HJ7.o;have c55:∃v,W6.cell? ⟨B,55,none⟩=some v:=⟨_,(zaj h1 55).trans rfl⟩;have c56:∃v,W6.cell? ⟨B,56,none⟩=some v:=⟨_,(zaj h1 56).trans rfl⟩;have fc55:W6.frozen? ⟨B,55,none⟩=false:=frozen_of_row W6 _ _ _ _ h1;have fc56:W6.frozen? ⟨B,56,none⟩=false:=frozen_of_row W6 _ _ _ _ h1;obtain⟨v55,c55⟩:=c55;obtain⟨v56,c56⟩:=c56;clear h1;obtain⟨⟨q0,_⟩,_⟩:=zai KA7.o;obtain⟨⟨y0,y1,y2⟩,yf⟩:=zbj KR7.o;go_wp2;obtain⟨W7,hW7⟩:∃W7,W7=(W6.setCell ⟨B,55,none⟩ (.int .i64 6)).setCell ⟨B,56,none⟩ (.slice ya cS.length yc):=⟨_,rfl⟩;rw[←hW7];have KR2:Hid (W7.heap[w.heap.size]?=some (.cells #[.int .i64 0,.int .i64 0,.string ⟨#[]⟩] 31 (0,0))):=by rw[hW7];exact(Below.heap_setCell _ _ _ _ hrB).trans ((Below.heap_setCell _ _ _ _ hrB).trans KR7.o)
        have HJ2:Hid (JAt W7 B (w.heap.size::X) {j with rh:=sH,ru:=sU,sealed:=j.now,now:=zds (j.now.seq+1),work:=6,steps:=cS}):=by rw[hW7];exact(HJ7.o.putWork 6).putSteps (HSS7.o.ext (Ext.setL (by simp[hBX]) 55 (.int .i64 6))) hcS
        have HB2:Hid (ButL [B] w.heap.size w W7):=by rw[hW7];exact(HB7.o.set (.inl (by simp)) 55 _).set (.inl (by simp)) 56 _
        obtain⟨W,hW⟩:∃W,W=(((W7.setCell ⟨w.heap.size,0,none⟩ (.int .i64 0)).setCell ⟨w.heap.size,1,none⟩ (.int .i64 j.now.seq)).setCell ⟨w.heap.size,2,none⟩ (.string ⟨#[]⟩)):=⟨_,rfl⟩;have hX:=zfs KR2.o (.int .i64 0) (.int .i64 j.now.seq) (.string ⟨#[]⟩);rw[←hW] at hX⊢;obtain⟨⟨u0,u1,u2⟩,_⟩:=zbj hX;refine bodyPost_ret (v:=.agg #[.int .i64 0,.int .i64 j.now.seq,.string ⟨#[]⟩]) (by simp[results,Tryz.results85,go_sem,u0,u1,u2]) rfl ⟨by rw[HE.o];rfl,?_,?_⟩
        ·rw[HE.o,hW]
         exact zwb HJ2.o hrB hBX _ _ _
        ·rw[hW]
         exact((HB2.o.set (.inr (by omega)) 0 _).set (.inr (by omega)) 1 _).set (.inr (by omega)) 2 _
       have HTAIL2:=zaa TAIL2;clear TAIL2 hKK2;have hwp:=HWP.o;have hBW:B<W4.heap.size:=by omega
       have hDW:w.heap.size+1<W4.heap.size:=by omega
       obtain⟨⟨y0,y1,y2,y3,y4,y5,y6,y7,y8,y9⟩,_⟩:=zai KA6.o;have Q0:=zaa y0;have Q1:=zaa y1;have Q2:=zaa y2;have Q3:=zaa y3;have Q4:=zaa y4;have Q5:=zaa y5;have Q6:=zaa y6;have Q7:=zaa y7;have Q8:=zaa y8;have Q9:=zaa y9;clear y0 y1 y2 y3 y4 y5 y6 y7 y8 y9;refine(show∀A0:Act,A0=_→Code.wp Tryz.prog _ _ A0 _ from fun A0 hA0=>?_) _ rfl;have hsz:A0.tmps.size=67:=by rw[hA0];rfl
       have hdf:A0.defers=[]:=by rw[hA0]
       have v0:A0.eval (.tmp 0)=.pointer (some ⟨B,0,none⟩):=by rw[hA0];rfl
       have v2:A0.eval (.tmp 2)=.pointer (some ⟨w.heap.size,0,none⟩):=by rw[hA0];rfl
       have v3:A0.eval (.tmp 3)=.pointer (some ⟨w.heap.size+1,0,none⟩):=by rw[hA0];rfl
       have v5:A0.eval (.tmp 5)=.slice ya cS.length yc:=by rw[hA0];rfl
       clear hA0;refine zbe 10 (fun w'=>(∃s,JAt w' B (w.heap.size::X) {j with rh:=sH,ru:=sU,sealed:=s})∧ButL [B] W4.heap.size W4 w') [46,47,48,49,50,51,52,53,54,54] (ztl B (w.heap.size+1) j (w.heap.size::X) na nc nb nd ne nf sH sU) (by kernel_rfl) (by kernel_rfl) (by kernel_rfl) (by kernel_rfl) (by decide) (⟨⟨_,HJ6.o.below (Below.refl _ _).drew⟩,ButL.of_below (Below.refl _ _).drew⟩) ⟨?_,?_,?_,?_,?_,?_,?_,?_,?_,?_,trivial⟩ ?_
       ·intro a w' hF hR hp
        have z0:=(hF.other 0 rfl).trans v0;exact zak _ rfl rfl (by revert z0;generalize a.eval=ρ;intro z0;simp only[execOp];go_simp) hF hsz hR rfl
       ·intro a w' hF hR hp
        have z0:=(hF.other 0 rfl).trans v0;exact zak _ rfl rfl (by revert z0;generalize a.eval=ρ;intro z0;simp only[execOp];go_simp) hF hsz hR rfl
       ·intro a w' hF hR hp
        have z3:=(hF.other 3 rfl).trans v3;have c0:w'.cell? ⟨w.heap.size+1,0,none⟩=some (.int .i64 j.now.seq):=(zai ((hR.2.block _ hDW (by simpa using hne1)).trans KA6.o)).1.1;have c1:w'.cell? ⟨w.heap.size+1,1,none⟩=some (.slice na j.now.info.length nc):=(zai ((hR.2.block _ hDW (by simpa using hne1)).trans KA6.o)).1.2.1;have c2:w'.cell? ⟨w.heap.size+1,2,none⟩=some (.slice nb j.now.data.length nd):=(zai ((hR.2.block _ hDW (by simpa using hne1)).trans KA6.o)).1.2.2.1;have c3:w'.cell? ⟨w.heap.size+1,3,none⟩=some (.slice ne j.now.rev.length nf):=(zai ((hR.2.block _ hDW (by simpa using hne1)).trans KA6.o)).1.2.2.2.1;have c4:w'.cell? ⟨w.heap.size+1,4,none⟩=some (.bool j.now.h0.on):=(zai ((hR.2.block _ hDW (by simpa using hne1)).trans KA6.o)).1.2.2.2.2.1;have c5:w'.cell? ⟨w.heap.size+1,5,none⟩=some (.int .i64 j.now.h0.left):=(zai ((hR.2.block _ hDW (by simpa using hne1)).trans KA6.o)).1.2.2.2.2.2.1;have c6:w'.cell? ⟨w.heap.size+1,6,none⟩=some (.bool j.now.h1.on):=(zai ((hR.2.block _ hDW (by simpa using hne1)).trans KA6.o)).1.2.2.2.2.2.2.1;have c7:w'.cell? ⟨w.heap.size+1,7,none⟩=some (.int .i64 j.now.h1.left):=(zai ((hR.2.block _ hDW (by simpa using hne1)).trans KA6.o)).1.2.2.2.2.2.2.2.1;have c8:w'.cell? ⟨w.heap.size+1,8,none⟩=some (.bool j.now.h2.on):=(zai ((hR.2.block _ hDW (by simpa using hne1)).trans KA6.o)).1.2.2.2.2.2.2.2.2.1;have c9:w'.cell? ⟨w.heap.size+1,9,none⟩=some (.int .i64 j.now.h2.left):=(zai ((hR.2.block _ hDW (by simpa using hne1)).trans KA6.o)).1.2.2.2.2.2.2.2.2.2;exact zak _ rfl rfl (by revert z3;generalize a.eval=ρ;intro z3;simp only[execOp];go_simp) hF hsz hR rfl
       ·intro a w' hF hR hp
        have z3:=(hF.other 3 rfl).trans v3;exact zak _ rfl rfl (by revert z3;generalize a.eval=ρ;intro z3;simp only[execOp];go_simp) hF hsz hR rfl
       ·intro a w' hF hR hp
        have p49:a.eval (.tmp 49)=.pointer (some ⟨w.heap.size+1,0,none⟩):=hp ⟨3,.data⟩ (by simp) rfl;have c0:w'.cell? ⟨w.heap.size+1,0,none⟩=some (.int .i64 j.now.seq):=(zai ((hR.2.block _ hDW (by simpa using hne1)).trans KA6.o)).1.1;exact zak _ rfl rfl (by revert p49;generalize a.eval=ρ;intro p49;simp only[execOp];go_simp) hF hsz hR rfl
       ·intro a w' hF hR hp
        have p50:a.eval (.tmp 50)=.int .i64 j.now.seq:=hp ⟨4,.data⟩ (by simp) rfl;exact zak _ rfl rfl (by have pc0:=Act.eval_const a (.int .i64 1);revert p50 pc0;generalize a.eval=ρ;intro p50 pc0;simp only[execOp];go_simp) hF hsz hR rfl
       ·intro a w' hF hR hp
        have p51:a.eval (.tmp 51)=.int .i64 (j.now.seq+1):=hp ⟨5,.data⟩ (by simp) rfl;exact zak _ rfl rfl (by revert p51;generalize a.eval=ρ;intro p51;simp only[execOp];go_simp) hF hsz hR rfl
       ·intro a w' hF hR hp
        have p46:a.eval (.tmp 46)=.pointer (some ⟨B,0,none⟩):=hp ⟨0,.data⟩ (by simp) rfl;exact zak _ rfl rfl (by revert p46;generalize a.eval=ρ;intro p46;simp only[execOp];go_simp) hF hsz hR rfl
       ·intro a w' hF hR hp
        have p53:a.eval (.tmp 53)=.pointer (some ⟨B,0,none⟩):=hp ⟨7,.data⟩ (by simp) rfl;exact zak _ rfl rfl (by revert p53;generalize a.eval=ρ;intro p53;simp only[execOp];go_simp) hF hsz hR rfl
       ·intro a w' hF hR hp
        have p54:a.eval (.tmp 54)=.pointer (some ⟨B,41,none⟩):=hp ⟨8,.data⟩ (by simp) rfl;have p48:a.eval (.tmp 48)=.agg #[.int .i64 j.now.seq,.slice na j.now.info.length nc,.slice nb j.now.data.length nd,.slice ne j.now.rev.length nf,.bool j.now.h0.on,.int .i64 j.now.h0.left,.bool j.now.h1.on,.int .i64 j.now.h1.left,.bool j.now.h2.on,.int .i64 j.now.h2.left]:=hp ⟨2,.data⟩ (by simp) rfl;obtain⟨⟨s,hJs⟩,hBs⟩:=hR;obtain⟨_,kda,kdc,kdb,kdd,kna,knc,knb,knd,kne,knf,ksa,ksc,ksb,ksd,kse,ksf,kca,kcc,kfa,kfc,kta,ktc,h1,_⟩:=id hJs;have c41:w'.cell? ⟨B,41,none⟩=some (.int .i64 s.seq):=zaj h1 41;have fc41:w'.frozen? ⟨B,41,none⟩=false:=frozen_of_row w' _ _ _ _ h1;have c42:w'.cell? ⟨B,42,none⟩=some (.slice ksa s.info.length ksc):=zaj h1 42;have fc42:w'.frozen? ⟨B,42,none⟩=false:=frozen_of_row w' _ _ _ _ h1;have c43:w'.cell? ⟨B,43,none⟩=some (.slice ksb s.data.length ksd):=zaj h1 43;have fc43:w'.frozen? ⟨B,43,none⟩=false:=frozen_of_row w' _ _ _ _ h1;have c44:w'.cell? ⟨B,44,none⟩=some (.slice kse s.rev.length ksf):=zaj h1 44;have fc44:w'.frozen? ⟨B,44,none⟩=false:=frozen_of_row w' _ _ _ _ h1;have c45:w'.cell? ⟨B,45,none⟩=some (.bool s.h0.on):=zaj h1 45;have fc45:w'.frozen? ⟨B,45,none⟩=false:=frozen_of_row w' _ _ _ _ h1;have c46:w'.cell? ⟨B,46,none⟩=some (.int .i64 s.h0.left):=zaj h1 46;have fc46:w'.frozen? ⟨B,46,none⟩=false:=frozen_of_row w' _ _ _ _ h1;have c47:w'.cell? ⟨B,47,none⟩=some (.bool s.h1.on):=zaj h1 47;have fc47:w'.frozen? ⟨B,47,none⟩=false:=frozen_of_row w' _ _ _ _ h1;have c48:w'.cell? ⟨B,48,none⟩=some (.int .i64 s.h1.left):=zaj h1 48;have fc48:w'.frozen? ⟨B,48,none⟩=false:=frozen_of_row w' _ _ _ _ h1;have c49:w'.cell? ⟨B,49,none⟩=some (.bool s.h2.on):=zaj h1 49;have fc49:w'.frozen? ⟨B,49,none⟩=false:=frozen_of_row w' _ _ _ _ h1;have c50:w'.cell? ⟨B,50,none⟩=some (.int .i64 s.h2.left):=zaj h1 50;have fc50:w'.frozen? ⟨B,50,none⟩=false:=frozen_of_row w' _ _ _ _ h1;have hTs:IsTx (zar w' (w.heap.size::X)) (.agg #[.int .i64 j.now.seq,.slice na j.now.info.length nc,.slice nb j.now.data.length nd,.slice ne j.now.rev.length nf,.bool j.now.h0.on,.int .i64 j.now.h0.left,.bool j.now.h1.on,.int .i64 j.now.h1.left,.bool j.now.h2.on,.int .i64 j.now.h2.left]) j.now:=HT6.o.ext (Ext.butL (hBs.wider (Y:=(w.heap.size::X)) (by simp[hBX])))
        refine zco rfl rfl (w':=((((((((((w'.setCell ⟨B,41,none⟩ (.int .i64 j.now.seq)).setCell ⟨B,42,none⟩ (.slice na j.now.info.length nc)).setCell ⟨B,43,none⟩ (.slice nb j.now.data.length nd)).setCell ⟨B,44,none⟩ (.slice ne j.now.rev.length nf)).setCell ⟨B,45,none⟩ (.bool j.now.h0.on)).setCell ⟨B,46,none⟩ (.int .i64 j.now.h0.left)).setCell ⟨B,47,none⟩ (.bool j.now.h1.on)).setCell ⟨B,48,none⟩ (.int .i64 j.now.h1.left)).setCell ⟨B,49,none⟩ (.bool j.now.h2.on)).setCell ⟨B,50,none⟩ (.int .i64 j.now.h2.left))) (by revert p54 p48;generalize a.eval=ρ;intro p54 p48;simp only[execOp];go_simp) ⟨_,rfl,⟨⟨_,hJs.putSealed hTs⟩,?_⟩,?_,?_⟩
        ·exact(((((((((hBs.set (.inl (by simp)) 41 _).set (.inl (by simp)) 42 _).set (.inl (by simp)) 43 _).set (.inl (by simp)) 44 _).set (.inl (by simp)) 45 _).set (.inl (by simp)) 46 _).set (.inl (by simp)) 47 _).set (.inl (by simp)) 48 _).set (.inl (by simp)) 49 _).set (.inl (by simp)) 50 _
        ·exact hJs.putSealed hTs
        ·exact ztm
       ·intro a W hF hR hp
        have q47:a.eval (.tmp 47)=.pointer (some ⟨B,0,none⟩):=hp 1 (by decide);have q48:a.eval (.tmp 48)=.agg #[.int .i64 j.now.seq,.slice na j.now.info.length nc,.slice nb j.now.data.length nd,.slice ne j.now.rev.length nf,.bool j.now.h0.on,.int .i64 j.now.h0.left,.bool j.now.h1.on,.int .i64 j.now.h1.left,.bool j.now.h2.on,.int .i64 j.now.h2.left]:=hp 2 (by decide);have q52:a.eval (.tmp 52)=.agg #[.int .i64 (j.now.seq+1),.slice none 0 0,.slice none 0 0,.slice none 0 0,.bool false,.int .i64 0,.bool false,.int .i64 0,.bool false,.int .i64 0]:=hp 6 (by decide);have q54:a.eval (.tmp 54)=.pointer (some ⟨B,41,none⟩):=hp 8 (by decide);have hJW:JAt W B (w.heap.size::X) {j with rh:=sH,ru:=sU,sealed:=j.now}:=hp 9 (by decide);obtain⟨_,kda,kdc,kdb,kdd,kna,knc,knb,knd,kne,knf,ksa,ksc,ksb,ksd,kse,ksf,kca,kcc,kfa,kfc,kta,ktc,h1,_⟩:=id hJW;have c31:W.cell? ⟨B,31,none⟩=some (.int .i64 j.now.seq):=zaj h1 31;have fc31:W.frozen? ⟨B,31,none⟩=false:=frozen_of_row W _ _ _ _ h1;have c32:W.cell? ⟨B,32,none⟩=some (.slice kna j.now.info.length knc):=zaj h1 32;have fc32:W.frozen? ⟨B,32,none⟩=false:=frozen_of_row W _ _ _ _ h1;have c33:W.cell? ⟨B,33,none⟩=some (.slice knb j.now.data.length knd):=zaj h1 33;have fc33:W.frozen? ⟨B,33,none⟩=false:=frozen_of_row W _ _ _ _ h1;have c34:W.cell? ⟨B,34,none⟩=some (.slice kne j.now.rev.length knf):=zaj h1 34;have fc34:W.frozen? ⟨B,34,none⟩=false:=frozen_of_row W _ _ _ _ h1;have c35:W.cell? ⟨B,35,none⟩=some (.bool j.now.h0.on):=zaj h1 35;have fc35:W.frozen? ⟨B,35,none⟩=false:=frozen_of_row W _ _ _ _ h1;have c36:W.cell? ⟨B,36,none⟩=some (.int .i64 j.now.h0.left):=zaj h1 36;have fc36:W.frozen? ⟨B,36,none⟩=false:=frozen_of_row W _ _ _ _ h1;have c37:W.cell? ⟨B,37,none⟩=some (.bool j.now.h1.on):=zaj h1 37;have fc37:W.frozen? ⟨B,37,none⟩=false:=frozen_of_row W _ _ _ _ h1;have c38:W.cell? ⟨B,38,none⟩=some (.int .i64 j.now.h1.left):=zaj h1 38;have fc38:W.frozen? ⟨B,38,none⟩=false:=frozen_of_row W _ _ _ _ h1;have c39:W.cell? ⟨B,39,none⟩=some (.bool j.now.h2.on):=zaj h1 39
        have fc39:W.frozen? ⟨B,39,none⟩=false:=frozen_of_row W _ _ _ _ h1;have c40:W.cell? ⟨B,40,none⟩=some (.int .i64 j.now.h2.left):=zaj h1 40;have fc40:W.frozen? ⟨B,40,none⟩=false:=frozen_of_row W _ _ _ _ h1;show wpOps Tryz.prog _ _ [10,11,12] a W;have hsa:a.tmps.size=67:=hF.size.trans hsz;rw[wpOps_cons];refine zax (.pointer (some ⟨B,0,none⟩)) rfl rfl (by revert q47;generalize a.eval=ρ;intro q47;simp only[execOp];go_simp) ?_;obtain⟨b1,hb1⟩:∃b1,b1=a.put (some 55) (.pointer (some ⟨B,0,none⟩)):=⟨_,rfl⟩;have r55:b1.eval (.tmp 55)=.pointer (some ⟨B,0,none⟩):=by rw[hb1];exact Act.eval_put_same _ _ _ (by rw[hsa];decide)
        have r52:b1.eval (.tmp 52)=.agg #[.int .i64 (j.now.seq+1),.slice none 0 0,.slice none 0 0,.slice none 0 0,.bool false,.int .i64 0,.bool false,.int .i64 0,.bool false,.int .i64 0]:=by rw[hb1,Act.eval_put_ne _ _ _ _ (by decide)];exact q52
        show wpOps Tryz.prog _ _ [11,12] (a.put (some 55) (.pointer (some ⟨B,0,none⟩))) W;rw[←hb1,wpOps_cons];refine zax (.pointer (some ⟨B,31,none⟩)) rfl rfl (by revert r55;generalize b1.eval=ρ;intro r55;simp only[execOp];go_simp) ?_;obtain⟨b2,hb2⟩:∃b2,b2=b1.put (some 56) (.pointer (some ⟨B,31,none⟩)):=⟨_,rfl⟩;have hs1:b1.tmps.size=67:=by rw[hb1,Act.size_put];exact hsa
        have s56:b2.eval (.tmp 56)=.pointer (some ⟨B,31,none⟩):=by rw[hb2];exact Act.eval_put_same _ _ _ (by rw[hs1];decide)
        have s52:b2.eval (.tmp 52)=.agg #[.int .i64 (j.now.seq+1),.slice none 0 0,.slice none 0 0,.slice none 0 0,.bool false,.int .i64 0,.bool false,.int .i64 0,.bool false,.int .i64 0]:=by rw[hb2,Act.eval_put_ne _ _ _ _ (by decide)];exact r52
        show wpOps Tryz.prog _ _ [12] (b1.put (some 56) (.pointer (some ⟨B,31,none⟩))) W;rw[←hb2,wpOps_cons];refine zco rfl rfl (w':=((((((((((W.setCell ⟨B,31,none⟩ (.int .i64 (j.now.seq+1))).setCell ⟨B,32,none⟩ (.slice none 0 0)).setCell ⟨B,33,none⟩ (.slice none 0 0)).setCell ⟨B,34,none⟩ (.slice none 0 0)).setCell ⟨B,35,none⟩ (.bool false)).setCell ⟨B,36,none⟩ (.int .i64 0)).setCell ⟨B,37,none⟩ (.bool false)).setCell ⟨B,38,none⟩ (.int .i64 0)).setCell ⟨B,39,none⟩ (.bool false)).setCell ⟨B,40,none⟩ (.int .i64 0))) (by revert s56 s52;generalize b2.eval=ρ;intro s56 s52;simp only[execOp];go_simp) ?_;have f0:b2.eval (.tmp 0)=.pointer (some ⟨B,0,none⟩):=by rw[hb2,Act.eval_put_ne _ _ _ _ (by decide),hb1,Act.eval_put_ne _ _ _ _ (by decide)];exact(hF.other 0 rfl).trans v0
        have f2:b2.eval (.tmp 2)=.pointer (some ⟨w.heap.size,0,none⟩):=by rw[hb2,Act.eval_put_ne _ _ _ _ (by decide),hb1,Act.eval_put_ne _ _ _ _ (by decide)];exact(hF.other 2 rfl).trans v2
        have f3:b2.eval (.tmp 3)=.pointer (some ⟨w.heap.size+1,0,none⟩):=by rw[hb2,Act.eval_put_ne _ _ _ _ (by decide),hb1,Act.eval_put_ne _ _ _ _ (by decide)];exact(hF.other 3 rfl).trans v3
        have f5:b2.eval (.tmp 5)=.slice ya cS.length yc:=by rw[hb2,Act.eval_put_ne _ _ _ _ (by decide),hb1,Act.eval_put_ne _ _ _ _ (by decide)];exact(hF.other 5 rfl).trans v5
        have hlit:b2=⟨#[_,_,_,_,_,_,_,_,_,_,_,_,_,_,_,_,_,_,_,_,_,_,_,_,_,_,_,_,_,_,_,_,_,_,_,_,_,_,_,_,_,_,_,_,_,_,_,_,_,_,_,_,_,_,_,_,_,_,_,_,_,_,_,_,_,_,_],[]⟩:=zcj b2 67 (by rw[hb2,Act.size_put];exact hs1) (by rw[hb2,Act.defers_put',hb1,Act.defers_put'];exact hF.defers.trans hdf);dsimp only at hlit;rw[f0,f2,f3,f5] at hlit;show KK2 b2 _;exact(congrArg (fun x=>KK2 x _) hlit).mpr (HTAIL2.o (fun k=>b2.eval (.tmp k)) _ (hJW.putNow (t:=zds (j.now.seq+1)) (zqq _ _) (z17 _)) ((((((((((hR.2.set (.inl (by simp)) 31 _).set (.inl (by simp)) 32 _).set (.inl (by simp)) 33 _).set (.inl (by simp)) 34 _).set (.inl (by simp)) 35 _).set (.inl (by simp)) 36 _).set (.inl (by simp)) 37 _).set (.inl (by simp)) 38 _).set (.inl (by simp)) 39 _).set (.inl (by simp)) 40 _))
      ·have HE:Hid (zcr j=(j,zav (sealE j.rh j.ru j.now))):=by rw[Hid,HC2.o,if_neg he]
       have he':(sealE j.rh j.ru j.now !=0)=true:=by simpa using he
       clear he;generalize sealE j.rh j.ru j.now=E at *;go_wp2_with fail;have HJ1:=HJ5;have HB1:=HB5;have KR:=KR5;have hrl:=hrl5;refine(zat E _).mono ?_;rintro e w2 ⟨rfl,hb2⟩;have KR2:=zaa (zad hb2 hrl KR.o);have HJ2:=zaa (HJ1.o.below hb2);have HB2:=zaa (HB1.o.trans (Y:=[]) (ButL.of_below hb2) HB1.o.size (by simp));clear hb2;obtain⟨⟨y0,y1,y2⟩,yf⟩:=zbj KR2.o;go_wp2;exact zbc HE.o KR2.o HJ2.o HB2.o hrB hBX fun W u0 u1 u2=>by simp[results,Tryz.results85,go_sem,u0,u1,u2]
     have HTAIL:=zaa TAIL;clear TAIL hKK;have HTN:Hid (IsTx (zar W2 (w.heap.size::X)) (.agg #[.int .i64 j.now.seq,.slice na j.now.info.length nc,.slice nb j.now.data.length nd,.slice ne j.now.rev.length nf,.bool j.now.h0.on,.int .i64 j.now.h0.left,.bool j.now.h1.on,.int .i64 j.now.h1.left,.bool j.now.h2.on,.int .i64 j.now.h2.left]) j.now):=HTN0.o.ext (Ext.newL HBW4.o (Nat.le_refl _));obtain⟨c3,c4⟩:=HJ4.o.ring;have C3:=zaa c3;have C4:=zaa c4;clear c3 c4;obtain⟨⟨y0,y1,y2,y3,y4,y5,y6,y7,y8,y9⟩,_⟩:=zai KA4.o;have Q0:=zaa y0;have Q1:=zaa y1;have Q2:=zaa y2;have Q3:=zaa y3;have Q4:=zaa y4;have Q5:=zaa y5;have Q6:=zaa y6;have Q7:=zaa y7;have Q8:=zaa y8;have Q9:=zaa y9;clear y0 y1 y2 y3 y4 y5 y6 y7 y8 y9;have hBW:B<W2.heap.size:=by omega
     have hDW:w.heap.size+1<W2.heap.size:=by omega
     have HX2:Hid (∀x∈(w.heap.size::X),x<W2.heap.size):=fun x hx=>by
      rcases List.mem_cons.1 hx with rfl|hx
      ·exact hrl2
      ·have:=HX.o x hx;omega
     refine(show∀A0:Act,A0=_→Code.wp Tryz.prog _ _ A0 _ from fun A0 hA0=>?_) _ rfl;have hsz:A0.tmps.size=67:=by rw[hA0];rfl
     have hdf:A0.defers=[]:=by rw[hA0]
     have v0:A0.eval (.tmp 0)=.pointer (some ⟨B,0,none⟩):=by rw[hA0];rfl
     have v2:A0.eval (.tmp 2)=.pointer (some ⟨w.heap.size,0,none⟩):=by rw[hA0];rfl
     have v3:A0.eval (.tmp 3)=.pointer (some ⟨w.heap.size+1,0,none⟩):=by rw[hA0];rfl
     have v4:A0.eval (.tmp 4)=undef:=by rw[hA0];rfl
     clear hA0;refine zc7 13 4 (z0p W2) [29,30,31,32,33,34,28,35,36,37,4,4,5] (zdq B j (w.heap.size::X) na nc nb nd ne nf) (by kernel_rfl) (by kernel_rfl) (by kernel_rfl) (by kernel_rfl) (by decide) (⟨(Below.refl _ _).drew,.inl v4⟩) ⟨?_,?_,?_,?_,?_,?_,?_,?_,?_,?_,?_,?_,?_,trivial⟩ ?_
     ·intro a w' hF hR hp
      have z0:=(hF.other 0 rfl).trans v0;exact zbw _ rfl rfl (by revert z0;generalize a.eval=ρ;intro z0;simp only[execOp];go_simp) hF hsz hR rfl
     ·intro a w' hF hR hp
      have p29:a.eval (.tmp 29)=.pointer (some ⟨B,0,none⟩):=hp ⟨0,.data⟩ (by simp) rfl;exact zbw _ rfl rfl (by revert p29;generalize a.eval=ρ;intro p29;simp only[execOp];go_simp) hF hsz hR rfl
     ·intro a w' hF hR hp
      have p30:a.eval (.tmp 30)=.pointer (some ⟨B,0,none⟩):=hp ⟨1,.data⟩ (by simp) rfl;exact zbw _ rfl rfl (by revert p30;generalize a.eval=ρ;intro p30;simp only[execOp];go_simp) hF hsz hR rfl
     ·intro a w' hF hR hp
      have p31:a.eval (.tmp 31)=.pointer (some ⟨B,3,none⟩):=hp ⟨2,.data⟩ (by simp) rfl;have c0:w'.cell? ⟨B,3,none⟩=some (.int .i64 j.rh):=zac hR.1 hBW C3.o;have c1:w'.cell? ⟨B,4,none⟩=some (.int .i64 j.ru):=zac hR.1 hBW C4.o;exact zbw _ rfl rfl (by revert p31;generalize a.eval=ρ;intro p31;simp only[execOp];go_simp) hF hsz hR rfl
     ·intro a w' hF hR hp
      have z3:=(hF.other 3 rfl).trans v3;have c0:w'.cell? ⟨w.heap.size+1,0,none⟩=some (.int .i64 j.now.seq):=zac hR.1 hDW Q0.o;have c1:w'.cell? ⟨w.heap.size+1,1,none⟩=some (.slice na j.now.info.length nc):=zac hR.1 hDW Q1.o;have c2:w'.cell? ⟨w.heap.size+1,2,none⟩=some (.slice nb j.now.data.length nd):=zac hR.1 hDW Q2.o;have c3:w'.cell? ⟨w.heap.size+1,3,none⟩=some (.slice ne j.now.rev.length nf):=zac hR.1 hDW Q3.o;have c4:w'.cell? ⟨w.heap.size+1,4,none⟩=some (.bool j.now.h0.on):=zac hR.1 hDW Q4.o;have c5:w'.cell? ⟨w.heap.size+1,5,none⟩=some (.int .i64 j.now.h0.left):=zac hR.1 hDW Q5.o;have c6:w'.cell? ⟨w.heap.size+1,6,none⟩=some (.bool j.now.h1.on):=zac hR.1 hDW Q6.o;have c7:w'.cell? ⟨w.heap.size+1,7,none⟩=some (.int .i64 j.now.h1.left):=zac hR.1 hDW Q7.o;have c8:w'.cell? ⟨w.heap.size+1,8,none⟩=some (.bool j.now.h2.on):=zac hR.1 hDW Q8.o;have c9:w'.cell? ⟨w.heap.size+1,9,none⟩=some (.int .i64 j.now.h2.left):=zac hR.1 hDW Q9.o;exact zbw _ rfl rfl (by revert z3;generalize a.eval=ρ;intro z3;simp only[execOp];go_simp) hF hsz hR rfl
     ·intro a w' hF hR hp
      have p32:a.eval (.tmp 32)=.agg #[.int .i64 j.rh,.int .i64 j.ru]:=hp ⟨3,.data⟩ (by simp) rfl;have p33:a.eval (.tmp 33)=.agg #[.int .i64 j.now.seq,.slice na j.now.info.length nc,.slice nb j.now.data.length nd,.slice ne j.now.rev.length nf,.bool j.now.h0.on,.int .i64 j.now.h0.left,.bool j.now.h1.on,.int .i64 j.now.h1.left,.bool j.now.h2.on,.int .i64 j.now.h2.left]:=hp ⟨4,.data⟩ (by simp) rfl;refine zbu 125 #[.agg #[.int .i64 j.rh,.int .i64 j.ru],.agg #[.int .i64 j.now.seq,.slice na j.now.info.length nc,.slice nb j.now.data.length nd,.slice ne j.now.rev.length nf,.bool j.now.h0.on,.int .i64 j.now.h0.left,.bool j.now.h1.on,.int .i64 j.now.h1.left,.bool j.now.h2.on,.int .i64 j.now.h2.left]] rfl rfl (by have pf:=Act.eval_func a 125;revert p32 p33 pf;generalize a.eval=ρ;intro p32 p33 pf;simp only[execOp];go_simp) _ (ztj j.rh j.ru j.now na nc nb nd ne nf _ ((HTN.o.ext (Ext.seenL W2 _)).below hR.1) HRN.o r1 r2) ?_;rintro e w2 ⟨a2,c2,rfl,hc2,hb2,hS2⟩;refine⟨_,rfl,_,rfl,?_,?_,?_⟩
      ·show z0p W2 ((a.put (some 34) _).eval (.tmp 4)) w2
       rw[Act.eval_put_ne _ _ _ _ (by decide)];exact zw3 hR hb2
      ·show zdq _ _ _ _ _ _ _ _ _ _ ((a.put (some 34) _).eval (.tmp 34)) ((a.put (some 34) _).eval (.tmp 4)) w2
       rw[zap hF hsz (by decide),Act.eval_put_ne _ _ _ _ (by decide)];exact⟨_,rfl,okSt.made HX2.o hR hc2 hS2⟩
      ·intro kk x hk h
       show zdq _ _ _ _ _ _ _ _ _ kk x ((a.put (some 34) _).eval (.tmp 4)) w2;rw[Act.eval_put_ne _ _ _ _ (by decide)];exact zrf hb2 kk x h
     ·intro a w' hF hR hp
      obtain⟨x,pc,ok⟩:∃x,a.eval (.tmp 34)=.tuple #[.agg #[.int .i64 (zch j.rh j.ru j.now),.int .i64 (zcc j.rh j.ru j.now)],x,.int .i64 (sealE j.rh j.ru j.now)]∧okSt (w.heap.size::X) (commitS j.rh j.ru j.now) x (a.eval (.tmp 4)) w':=hp ⟨5,.data⟩ (by simp) rfl;refine zax (.tuple #[.agg #[.int .i64 (zch j.rh j.ru j.now),.int .i64 (zcc j.rh j.ru j.now)],x,.int .i64 (sealE j.rh j.ru j.now)]) rfl rfl (by revert pc;generalize a.eval=ρ;intro pc;simp only[execOp];go_simp) ⟨_,rfl,?_,?_,?_⟩
      ·show z0p W2 ((a.put (some 28) _).eval (.tmp 4)) w'
       rw[Act.eval_put_ne _ _ _ _ (by decide)];exact hR
      ·show zdq _ _ _ _ _ _ _ _ _ _ ((a.put (some 28) _).eval (.tmp 28)) ((a.put (some 28) _).eval (.tmp 4)) w'
       rw[zap hF hsz (by decide),Act.eval_put_ne _ _ _ _ (by decide)];exact⟨x,rfl,ok⟩
      ·intro kk x hk h
       show zdq _ _ _ _ _ _ _ _ _ kk x ((a.put (some 28) _).eval (.tmp 4)) w';rw[Act.eval_put_ne _ _ _ _ (by decide)];exact h
     ·intro a w' hF hR hp
      obtain⟨x,pm,ok⟩:∃x,a.eval (.tmp 28)=.tuple #[.agg #[.int .i64 (zch j.rh j.ru j.now),.int .i64 (zcc j.rh j.ru j.now)],x,.int .i64 (sealE j.rh j.ru j.now)]∧okSt (w.heap.size::X) (commitS j.rh j.ru j.now) x (a.eval (.tmp 4)) w':=hp ⟨6,.data⟩ (by simp) rfl;exact zbw _ rfl rfl (by revert pm;generalize a.eval=ρ;intro pm;simp only[execOp];go_simp) hF hsz hR rfl
     ·intro a w' hF hR hp
      obtain⟨x,pm,ok⟩:∃x,a.eval (.tmp 28)=.tuple #[.agg #[.int .i64 (zch j.rh j.ru j.now),.int .i64 (zcc j.rh j.ru j.now)],x,.int .i64 (sealE j.rh j.ru j.now)]∧okSt (w.heap.size::X) (commitS j.rh j.ru j.now) x (a.eval (.tmp 4)) w':=hp ⟨6,.data⟩ (by simp) rfl;refine zax (x) rfl rfl (by revert pm;generalize a.eval=ρ;intro pm;simp only[execOp];go_simp) ⟨_,rfl,?_,?_,?_⟩
      ·show z0p W2 ((a.put (some 36) _).eval (.tmp 4)) w'
       rw[Act.eval_put_ne _ _ _ _ (by decide)];exact hR
      ·show zdq _ _ _ _ _ _ _ _ _ _ ((a.put (some 36) _).eval (.tmp 36)) ((a.put (some 36) _).eval (.tmp 4)) w'
       rw[zap hF hsz (by decide),Act.eval_put_ne _ _ _ _ (by decide)];exact ok
      ·intro kk x hk h
       show zdq _ _ _ _ _ _ _ _ _ kk x ((a.put (some 36) _).eval (.tmp 4)) w';rw[Act.eval_put_ne _ _ _ _ (by decide)];exact h
     ·intro a w' hF hR hp
      obtain⟨x,pm,ok⟩:∃x,a.eval (.tmp 28)=.tuple #[.agg #[.int .i64 (zch j.rh j.ru j.now),.int .i64 (zcc j.rh j.ru j.now)],x,.int .i64 (sealE j.rh j.ru j.now)]∧okSt (w.heap.size::X) (commitS j.rh j.ru j.now) x (a.eval (.tmp 4)) w':=hp ⟨6,.data⟩ (by simp) rfl;exact zbw _ rfl rfl (by revert pm;generalize a.eval=ρ;intro pm;simp only[execOp];go_simp) hF hsz hR rfl
     ·intro a w' hF hR hp
      refine zfw (.pointer (some ⟨w'.heap.size,0,none⟩)) rfl rfl (w':=w'.alloc (.cells #[.int .i64 0,.int .i64 0] 26)) (by simp only[execOp];go_simp) ⟨_,rfl,?_,?_,?_⟩
      ·show z0p W2 ((a.put (some 4) _).eval (.tmp 4)) _
       rw[zap hF hsz (by decide)];exact⟨hR.1.alloc hR.1.size _,.inr ⟨_,rfl,hR.1.size,by simp,_,_,heap_alloc_new _ _⟩⟩
      ·show zdq _ _ _ _ _ _ _ _ _ _ ((a.put (some 4) _).eval (.tmp 4)) ((a.put (some 4) _).eval (.tmp 4)) _
       rw[zap hF hsz (by decide)];exact⟨_,rfl⟩
      ·intro kk x hk h
       show zdq _ _ _ _ _ _ _ _ _ kk x ((a.put (some 4) _).eval (.tmp 4)) _;rw[zap hF hsz (by decide)];exact zrg _ kk x h
     ·intro a w' hF hR hp
      obtain⟨T,pT⟩:∃T,a.eval (.tmp 4)=.pointer (some ⟨T,0,none⟩):=hp ⟨10,.data⟩ (by simp) rfl;have p0:a.eval (.tmp 35)=.agg #[.int .i64 (zch j.rh j.ru j.now),.int .i64 (zcc j.rh j.ru j.now)]:=hp ⟨7,.data⟩ (by simp) rfl
      obtain⟨hT1,hT2,c0,c1,hTb⟩:W2.heap.size≤T∧T<w'.heap.size∧∃c0 c1,w'.heap[T]?=some (.cells #[c0,c1] 26 (0,0)):=by
       rcases hR.2 with h0|⟨T',e,h3,h4,h5⟩
       ·rw[h0] at pT;cases pT
       ·rw[e] at pT;cases pT;exact⟨h3,h4,h5⟩
      obtain⟨⟨t0,t1⟩,tf⟩:=zfl hTb;refine zco rfl rfl (w':=((w'.setCell ⟨T,0,none⟩ (.int .i64 (zch j.rh j.ru j.now))).setCell ⟨T,1,none⟩ (.int .i64 (zcc j.rh j.ru j.now)))) (by revert pT p0;generalize a.eval=ρ;intro pT p0;simp only[execOp];go_simp) ⟨_,rfl,?_,?_,?_⟩
      ·show z0p W2 (a.eval (.tmp 4)) _
       exact⟨(hR.1.setCell (p:=⟨T,0,none⟩) hT1 _).setCell (p:=⟨T,1,none⟩) hT1 _,.inr ⟨T,pT,hT1,by simpa[World.setCell] using hT2,_,_,zjd hTb _ _⟩⟩
      ·show zdq _ _ _ _ _ _ _ _ _ _ (a.eval (.tmp 4)) (a.eval (.tmp 4)) _
       exact⟨T,pT,zjd hTb _ _⟩
      ·intro kk x hk h
       show zdq _ _ _ _ _ _ _ _ _ kk x (a.eval (.tmp 4)) _;rw[pT] at h⊢;exact zrh (fun x h=>h.store _ _) kk x hk h
     ·intro a w' hF hR hp
      have ok:okSt (w.heap.size::X) (commitS j.rh j.ru j.now) (a.eval (.tmp 36)) (a.eval (.tmp 4)) w':=hp ⟨8,.data⟩ (by simp) rfl;obtain⟨y,hy⟩:∃y,y=a.eval (.tmp 36):=⟨_,rfl⟩;rw[←hy] at ok;have py:=hy.symm;refine zax y rfl rfl (by revert py;generalize a.eval=ρ;intro py;simp only[execOp];go_simp) ⟨_,rfl,?_,?_,?_⟩
      ·show z0p W2 ((a.put (some 5) _).eval (.tmp 4)) w'
       rw[Act.eval_put_ne _ _ _ _ (by decide)];exact hR
      ·show zdq _ _ _ _ _ _ _ _ _ _ ((a.put (some 5) _).eval (.tmp 5)) ((a.put (some 5) _).eval (.tmp 4)) w'
       rw[zap hF hsz (by decide),Act.eval_put_ne _ _ _ _ (by decide)];exact ok
      ·intro kk x hk h
       show zdq _ _ _ _ _ _ _ _ _ kk x ((a.put (some 5) _).eval (.tmp 4)) w';rw[Act.eval_put_ne _ _ _ _ (by decide)];exact h
     ·intro a W hF hR hp
      obtain⟨T,pT,hTb⟩:∃T,a.eval (.tmp 4)=.pointer (some ⟨T,0,none⟩)∧W.heap[T]?=some (.cells #[.int .i64 (zch j.rh j.ru j.now),.int .i64 (zcc j.rh j.ru j.now)] 26 (0,0)):=hp 11 (by decide);obtain⟨ya,yc,pS,hcS,hSS,_⟩:okSt (w.heap.size::X) (commitS j.rh j.ru j.now) (a.eval (.tmp 5)) (a.eval (.tmp 4)) W:=hp 12 (by decide);have pE:a.eval (.tmp 37)=.int .i64 (sealE j.rh j.ru j.now):=hp 9 (by decide)
      have hT1:W2.heap.size≤T:=by
       rcases hR.2 with h0|⟨T',e,h3,h4,h5⟩
       ·rw[h0] at pT;cases pT
       ·rw[e] at pT;cases pT;exact h3
      show wpOps Tryz.prog _ _ [13] a W;rw[wpOps_cons];refine zax (.int .i64 (sealE j.rh j.ru j.now)) rfl rfl (by revert pE;generalize a.eval=ρ;intro pE;simp only[execOp];go_simp) ?_;have hsa:a.tmps.size=67:=hF.size.trans hsz;obtain⟨a2,ha2⟩:∃a2,a2=a.put (some 6) (.int .i64 (sealE j.rh j.ru j.now)):=⟨_,rfl⟩;have f6:a2.eval (.tmp 6)=.int .i64 (sealE j.rh j.ru j.now):=by rw[ha2];exact Act.eval_put_same _ _ _ (by rw[hsa];decide)
      have f0:a2.eval (.tmp 0)=.pointer (some ⟨B,0,none⟩):=by rw[ha2,Act.eval_put_ne _ _ _ _ (by decide)];exact(hF.other 0 rfl).trans v0
      have f2:a2.eval (.tmp 2)=.pointer (some ⟨w.heap.size,0,none⟩):=by rw[ha2,Act.eval_put_ne _ _ _ _ (by decide)];exact(hF.other 2 rfl).trans v2
      have f3:a2.eval (.tmp 3)=.pointer (some ⟨w.heap.size+1,0,none⟩):=by rw[ha2,Act.eval_put_ne _ _ _ _ (by decide)];exact(hF.other 3 rfl).trans v3
      have f4:a2.eval (.tmp 4)=.pointer (some ⟨T,0,none⟩):=by rw[ha2,Act.eval_put_ne _ _ _ _ (by decide)];exact pT
      have f5:a2.eval (.tmp 5)=.slice ya (commitS j.rh j.ru j.now).length yc:=by rw[ha2,Act.eval_put_ne _ _ _ _ (by decide)];exact pS
      have hlit:a2=⟨#[_,_,_,_,_,_,_,_,_,_,_,_,_,_,_,_,_,_,_,_,_,_,_,_,_,_,_,_,_,_,_,_,_,_,_,_,_,_,_,_,_,_,_,_,_,_,_,_,_,_,_,_,_,_,_,_,_,_,_,_,_,_,_,_,_,_,_],[]⟩:=zcj a2 67 (by rw[ha2,Act.size_put];exact hsa) (by rw[ha2,Act.defers_put'];exact hF.defers.trans hdf);dsimp only at hlit;rw[f0,f2,f3,f4,f5,f6] at hlit;show KK (a.put (some 6) (.int .i64 (sealE j.rh j.ru j.now))) _;rw[←ha2];exact(congrArg (fun x=>KK x _) hlit).mpr (HTAIL.o (fun k=>a2.eval (.tmp k)) _ T ya yc hTb hSS hcS hT1 hR.1)
end Go.Proofs.YtjnpndfpajjihacGreat

