/-
  
-/
import Derived.Test.YtjnpndfpajjihacGreatGrTopMemory32
import Derived.Test.YtjnpndfpajjihacGreatGrTopMemory40
import Derived.Test.YtjnpndfpajjihacGreatXNewest
set_option maxRecDepth 100000
set_option maxHeartbeats 40000000
namespace Go.Proofs.YtjnpndfpajjihacGreat
open Go.RowKit
theorem zqq (W:World)(q:Int):IsTx W (.agg #[.int .i64 q,.slice none 0 0,.slice none 0 0,.slice none 0 0,.bool false,.int .i64 0,.bool false,.int .i64 0,.bool false,.int .i64 0]) (zds q):=
 ⟨none,0,none,0,none,0,rfl,.inl rfl,.inl rfl,.inl rfl,Nat.zero_le _,Nat.zero_le _,Nat.zero_le _⟩
theorem z17 (q:Int):RoomTx (.agg #[.int .i64 q,.slice none 0 0,.slice none 0 0,.slice none 0 0,.bool false,.int .i64 0,.bool false,.int .i64 0,.bool false,.int .i64 0]):=
 ⟨_,_,_,_,_,_,_,_,_,_,_,_,_,_,_,_,rfl,Nat.le_refl _,Nat.le_refl _,Nat.le_refl _⟩
theorem ButL.setRow {X:List Nat}{base:Nat}{w w1:World}(h:ButL X base w w1){b:Nat}(hb:b∈X∨base≤b)(cs:Array Value):ButL X base w (w1.setRow b cs):=
 ⟨h.os,h.tape,h.output,by simpa[World.setRow] using h.size,fun j hj hn=>(setRow_other _ _ _ _ (by intro e;subst e;rcases hb with h1|h1;exact hn h1;omega)).trans (h.block j hj hn)⟩
theorem JAt.putAll {w:World}{B:Nat}{X:List Nat}{j:Jn}{old:Array Value}(hB:B∈X)(hg:w.heap[B]?=some (.cells old 93 (0,0)))(da:Option Addr)(dc:Nat)(db:Option Addr)(dd:Nat)(na:Option Addr)(nc:Nat)(nb:Option Addr)(nd:Nat)(ne:Option Addr)(nf:Nat)(sa:Option Addr)(sc:Nat)(sb:Option Addr)(sd:Nat)(se:Option Addr)(sf:Nat)(ca:Option Addr)(cc:Nat)(fa:Option Addr)(fc:Nat)(ta:Option Addr)(tc:Nat)(hr:RowsJ w X j da dc db dd na nc nb nd ne nf sa sc sb sd se sf ca cc fa fc ta tc):JAt (w.setRow B (zbq j da dc db dd na nc nb nd ne nf sa sc sb sd se sf ca cc fa fc ta tc)) B X j:=
 ⟨hB,da,dc,db,dd,na,nc,nb,nd,ne,nf,sa,sc,sb,sd,se,sf,ca,cc,fa,fc,ta,tc,setRow_heap w B old _ _ _ hg,hr.ext (Ext.butL ((ButL.refl X _ w).setRow (.inl hB) _))⟩
theorem zhn (j:Jn)(da:Option Addr)(dc:Nat)(db:Option Addr)(dd:Nat)(na:Option Addr)(nc:Nat)(nb:Option Addr)(nd:Nat)(ne:Option Addr)(nf:Nat)(sa:Option Addr)(sc:Nat)(sb:Option Addr)(sd:Nat)(se:Option Addr)(sf:Nat)(ca:Option Addr)(cc:Nat)(fa:Option Addr)(fc:Nat)(ta:Option Addr)(tc:Nat):(zbq j da dc db dd na nc nb nd ne nf sa sc sb sd se sf ca cc fa fc ta tc).all (·.oneCell')=true:=by kernel_rfl
theorem z18 (j:Jn)(da:Option Addr)(dc:Nat)(db:Option Addr)(dd:Nat)(na:Option Addr)(nc:Nat)(nb:Option Addr)(nd:Nat)(ne:Option Addr)(nf:Nat)(sa:Option Addr)(sc:Nat)(sb:Option Addr)(sd:Nat)(se:Option Addr)(sf:Nat)(ca:Option Addr)(cc:Nat)(fa:Option Addr)(fc:Nat)(ta:Option Addr)(tc:Nat):(Tryz.prog.info? 93).map (·.size)=some (zbq j da dc db dd na nc nb nd ne nf sa sc sb sd se sf ca cc fa fc ta tc).size:=by kernel_rfl
theorem zoz {X:List Nat}{B:Nat}(hB:B∈X)(w:World)(v0 v1 v2 v3 v4 v5 v6 v7 v8 v9:Value):Ext (zar w X) (zar ((((((((((w.setCell ⟨B,0,none⟩ (v0)).setCell ⟨B,1,none⟩ (v1)).setCell ⟨B,2,none⟩ (v2)).setCell ⟨B,3,none⟩ (v3)).setCell ⟨B,4,none⟩ (v4)).setCell ⟨B,5,none⟩ (v5)).setCell ⟨B,6,none⟩ (v6)).setCell ⟨B,7,none⟩ (v7)).setCell ⟨B,8,none⟩ (v8)).setCell ⟨B,9,none⟩ (v9)) X):=
 Ext.butL (((((((((((ButL.refl X _ w).set (.inl hB) 0 v0).set (.inl hB) 1 v1).set (.inl hB) 2 v2).set (.inl hB) 3 v3).set (.inl hB) 4 v4).set (.inl hB) 5 v5).set (.inl hB) 6 v6).set (.inl hB) 7 v7).set (.inl hB) 8 v8).set (.inl hB) 9 v9)
theorem zic {t:Tx}{h b:Int}(e:reachE t h b=0):0≤b∧b≤11:=by
 unfold reachE at e;split at e
 ·cases e
 ·split at e
  ·cases e
  ·rename_i hx;omega
theorem zq2 {t:Tx}{h b:Int}{s:ByteArray}(e:changeE t h b s=0):0≤b∧b≤11:=by
 unfold changeE at e;split at e
 ·rename_i hx;exact absurd e hx
 ·rename_i hx;exact zic (by simpa using hx)
theorem zwp {t:Tx}{h b:Int}{s:ByteArray}(e:fillE t h b s=0):0≤b∧b≤11:=by
 unfold fillE at e;split at e
 ·rename_i hx;exact absurd e hx
 ·rename_i hx;exact zic (by simpa using hx)
theorem zq3 {t:Tx}{h b:Int}(e:revokeE t h b=0):0≤b∧b≤11:=by
 unfold revokeE at e;split at e
 ·rename_i hx;exact absurd e hx
 ·rename_i hx;exact zic (by simpa using hx)
section
variable {w:World} {X:List Nat} {n:Nat}
theorem IsTx.hideF {v:Value}{t:Tx}(h:IsTx w v t)(hF:zow n v t)(hX:∀x∈X,x<n):IsTx (zar w X) v t:=by
 obtain⟨a,c,a',c',r,d,rfl,h1,h2,h3,h4⟩:=h;obtain⟨b0,b1,b2,b3,b4,b5,e,f1,f2,f3⟩:=hF;simp only[Value.agg.injEq] at e
 injection e with e
 simp only[List.cons.injEq,Value.slice.injEq,true_and,and_true] at e;obtain⟨⟨rfl,rfl⟩,⟨rfl,rfl⟩,rfl,rfl⟩:=e;exact⟨a,c,a',c',r,d,rfl,h1.hideF f1 hX,h2.hideF f2 hX,h3.hideF f3 hX,h4⟩
theorem SegW.as {a:Option Addr}{l l2:List (Int×ByteArray)}(h:SegW (zar w X) a l)(h2:SegW w a l2)(e:l.length=l2.length):SegW (zar w X) a l2:=by
 rcases h2 with t|⟨x,off,rfl,hlt,hc⟩
 ·exact .inl t
 ·rcases h with s|⟨y,off',he,hlt',hc'⟩
  ·exact .inl (List.eq_nil_of_length_eq_zero (by rw[←e,s];rfl))
  ·cases he
   by_cases h0:l2.length=0
   ·exact .inl (List.eq_nil_of_length_eq_zero h0)
   ·have hn:=(zbz (hc' 0 (by omega)).1).1
    exact .inr ⟨x,off,rfl,by rw[zbk];exact hlt,fun i hi=>⟨zb1 hn (hc i hi).1,zb1 hn (hc i hi).2⟩⟩
theorem SegI.as {a:Option Addr}{l l2:List Int}(h:SegI (zar w X) a l)(h2:SegI w a l2)(e:l.length=l2.length):SegI (zar w X) a l2:=by
 rcases h2 with t|⟨x,off,rfl,hlt,hc⟩
 ·exact .inl t
 ·rcases h with s|⟨y,off',he,hlt',hc'⟩
  ·exact .inl (List.eq_nil_of_length_eq_zero (by rw[←e,s];rfl))
  ·cases he
   by_cases h0:l2.length=0
   ·exact .inl (List.eq_nil_of_length_eq_zero h0)
   ·have hn:=(zbz (hc' 0 (by omega))).1
    exact .inr ⟨x,off,rfl,by rw[zbk];exact hlt,fun i hi=>zb1 hn (hc i hi)⟩
theorem IsTx.asTx {v:Value}{t t2:Tx}(h:IsTx (zar w X) v t)(h2:IsTx w v t2):IsTx (zar w X) v t2:=by
 obtain⟨a,c,a',c',r,d,rfl,s1,s2,s3,_⟩:=h;obtain⟨b0,b1,b2,b3,b4,b5,e,t1,t2',t3,t4⟩:=h2;have e0:=e;simp only[Value.agg.injEq] at e
 injection e with e
 simp only[List.cons.injEq,Value.slice.injEq,and_true] at e;obtain⟨_,⟨rfl,l1,rfl⟩,⟨rfl,l2,rfl⟩,⟨rfl,l3,rfl⟩,_⟩:=e;exact⟨a,c,a',c',r,d,e0,s1.as t1 l1,s2.as t2' l2,s3.as t3 l3,t4⟩
end
def zl2 (W:World)(u:Value)(w:World):Prop:=Below W.heap.size W w∧(u=undef∨∃T,u=.pointer (some ⟨T,0,none⟩)∧W.heap.size≤T∧T<w.heap.size∧∃c0 c1 c2 c3 c4 c5 c6 c7 c8 c9,w.heap[T]?=some (.cells #[c0,c1,c2,c3,c4,c5,c6,c7,c8,c9] 40 (0,0)))
theorem zfk {W:World}{u:Value}{w w':World}(h:zl2 W u w)(hb:Below w.heap.size w w'):zl2 W u w':=
 ⟨zae h.1 hb,h.2.imp id fun⟨T,h1,h2,h3,c0,c1,c2,c3,c4,c5,c6,c7,c8,c9,h4⟩=>⟨T,h1,h2,Nat.lt_of_lt_of_le h3 hb.size,c0,c1,c2,c3,c4,c5,c6,c7,c8,c9,zad hb h3 h4⟩⟩
def okTx (X:List Nat)(t:Tx)(v2 u:Value)(w:World):Prop:=IsTx (zar w X) v2 t∧RoomTx v2∧∀T,u=.pointer (some ⟨T,0,none⟩)→IsTx (zar w (T::X)) v2 t
theorem okTx.below {X:List Nat}{t:Tx}{v2 u:Value}{w w':World}(h:okTx X t v2 u w)(hb:Below w.heap.size w w'):okTx X t v2 u w':=
 ⟨h.1.ext (Ext.freshL hb),h.2.1,fun T e=>(h.2.2 T e).ext (Ext.freshL hb)⟩
theorem okTx.alloc {X:List Nat}{t:Tx}{v2 u:Value}{w:World}(h:okTx X t v2 u w)(o:Obj):okTx X t v2 (.pointer (some ⟨w.heap.size,0,none⟩)) (w.alloc o):=
 ⟨h.1.ext (Ext.freshL (zab _ _)),h.2.1,fun T e=>by cases e;exact h.1.ext (Ext.newL (zab _ _) (Nat.le_refl _))⟩
theorem okTx.store {X:List Nat}{t:Tx}{x:Value}{T:Nat}{w:World}(h:okTx X t x (.pointer (some ⟨T,0,none⟩)) w)(v0 v1 v2 v3 v4 v5 v6 v7 v8 v9:Value):okTx X t x (.pointer (some ⟨T,0,none⟩)) ((((((((((w.setCell ⟨T,0,none⟩ (v0)).setCell ⟨T,1,none⟩ (v1)).setCell ⟨T,2,none⟩ (v2)).setCell ⟨T,3,none⟩ (v3)).setCell ⟨T,4,none⟩ (v4)).setCell ⟨T,5,none⟩ (v5)).setCell ⟨T,6,none⟩ (v6)).setCell ⟨T,7,none⟩ (v7)).setCell ⟨T,8,none⟩ (v8)).setCell ⟨T,9,none⟩ (v9)):=by
 have k:=(h.2.2 T rfl).ext (zoz (X:=T::X) (B:=T) (by simp) w v0 v1 v2 v3 v4 v5 v6 v7 v8 v9);exact⟨k.ext (Ext.lessL T),h.2.1,fun T' e=>by cases e;exact k⟩
theorem okTx.made {X:List Nat}{t t2:Tx}{v v2 u:Value}{W w w2:World}(hX:∀x∈X,x<W.heap.size)(hT:IsTx (zar W X) v t)(hR:RoomTx v)(hB:zl2 W u w)(h2:IsTx w2 v2 t2)(hb:Below w.heap.size w w2)(hv:v2=v∨za0 w.heap.size v2 t2):okTx X t2 v2 u w2:=by
 have hbW:=zae hB.1 hb
 have hTm:∀T,u=.pointer (some ⟨T,0,none⟩)→W.heap.size≤T∧T<w.heap.size:=by
  intro T e;rcases hB.2 with h0|⟨T',e',h3,h4,_⟩
  ·rw[h0] at e;cases e
  ·rw[e'] at e;cases e;exact⟨h3,h4⟩
 rcases hv with rfl|hv
 ·exact⟨(hT.ext (Ext.freshL hbW)).asTx h2,hR,fun T e=>(hT.ext (Ext.newL hbW (hTm T e).1)).asTx h2⟩
 ·have hs:=hB.1.size
  exact⟨h2.hideF hv.1 (fun x hx=>by have:=hX x hx;omega),hv.2,fun T e=>h2.hideF hv.1 (fun x hx=>by
   rcases List.mem_cons.1 hx with rfl|hx
   ·exact(hTm _ e).2
   ·have:=hX x hx;omega)⟩
theorem JAt.role {w:World}{B:Nat}{X:List Nat}{j:Jn}(h:JAt w B X j)(b:Nat)(hb:b<12):w.cell? ⟨B,7+b*2,none⟩=some (.int .i64 (j.role b))∧w.cell? ⟨B,7+b*2+1,none⟩=some (.int .i64 (j.freed b))∧w.frozen? ⟨B,7+b*2,none⟩=false∧w.frozen? ⟨B,7+b*2+1,none⟩=false:=by
 obtain⟨_,da,dc,db,dd,na,nc,nb,nd,ne,nf,sa,sc,sb,sd,se,sf,ca,cc,fa,fc,ta,tc,h1,_⟩:=h;have k0:=zaj h1 (7+b*2);have k1:=zaj h1 (7+b*2+1);refine⟨k0.trans ?_,k1.trans ?_,frozen_of_row w _ _ _ _ h1,frozen_of_row w _ _ _ _ h1⟩
 ·match b,hb with
  |0,_=>rfl
  |1,_=>rfl
  |2,_=>rfl
  |3,_=>rfl
  |4,_=>rfl
  |5,_=>rfl
  |6,_=>rfl
  |7,_=>rfl
  |8,_=>rfl
  |9,_=>rfl
  |10,_=>rfl
  |11,_=>rfl
  |n+12,hb=>omega
 ·match b,hb with
  |0,_=>rfl
  |1,_=>rfl
  |2,_=>rfl
  |3,_=>rfl
  |4,_=>rfl
  |5,_=>rfl
  |6,_=>rfl
  |7,_=>rfl
  |8,_=>rfl
  |9,_=>rfl
  |10,_=>rfl
  |11,_=>rfl
  |n+12,hb=>omega
def zhu (b:Int):List (Option Addr×Nat×List (Int×ByteArray))→Option ByteArray
 |[]=>none
 |x::r=>match zas b x.2.2 with
  |some s=>some s
  |none=>zhu b r
theorem zs9 {b:Int}{L:List (Option Addr×Nat×List (Int×ByteArray))}{k:Nat}{x:Option Addr×Nat×List (Int×ByteArray)}(h:L[k]?=some x):zhu b (L.drop k)=match zas b x.2.2 with|some s=>some s|none=>zhu b (L.drop (k+1)):=by
 have hk:=(List.getElem?_eq_some_iff.1 h).1;rw[List.drop_eq_getElem_cons hk,(List.getElem?_eq_some_iff.1 h).2,zhu]
theorem zta (j:Jn)(b:Int)(na nb sa sb ya:Option Addr)(nc nd sc sd yc:Nat):textJ j b=match zhu b [(na,nc,j.now.info),(nb,nd,j.now.data),(sa,sc,j.sealed.info),(sb,sd,j.sealed.data),(ya,yc,newestL j.done)] with|some s=>(s,0)|none=>(zal j.disk (25+b),readE j.disk (25+b)):=by
 simp only[textJ,zhu]
 cases zas b j.now.info with
 |some s=>rfl
 |none=>
  cases zas b j.now.data with
  |some s=>rfl
  |none=>
   cases zas b j.sealed.info with
   |some s=>rfl
   |none=>
    cases zas b j.sealed.data with
    |some s=>rfl
    |none=>cases zas b (newestL j.done)<;>rfl
def zq4 (B:Nat)(j:Jn)(na:Option Addr)(nc:Nat)(nb:Option Addr)(nd:Nat)(sa:Option Addr)(sc:Nat)(sb:Option Addr)(sd:Nat)(ca:Option Addr)(cc:Nat):Nat→Value→World→Prop
 |0,v,_=>v=.pointer (some ⟨B,0,none⟩)
 |1,v,_=>v=.pointer (some ⟨B,0,none⟩)
 |2,v,_=>v=.pointer (some ⟨B,31,none⟩)
 |3,v,_=>v=.pointer (some ⟨B,32,none⟩)
 |4,v,_=>v=.slice na j.now.info.length nc
 |5,v,_=>v=.pointer (some ⟨B,0,none⟩)
 |6,v,_=>v=.pointer (some ⟨B,0,none⟩)
 |7,v,_=>v=.pointer (some ⟨B,31,none⟩)
 |8,v,_=>v=.pointer (some ⟨B,33,none⟩)
 |9,v,_=>v=.slice nb j.now.data.length nd
 |10,v,_=>v=.pointer (some ⟨B,0,none⟩)
 |11,v,_=>v=.pointer (some ⟨B,0,none⟩)
 |12,v,_=>v=.pointer (some ⟨B,41,none⟩)
 |13,v,_=>v=.pointer (some ⟨B,42,none⟩)
 |14,v,_=>v=.slice sa j.sealed.info.length sc
 |15,v,_=>v=.pointer (some ⟨B,0,none⟩)
 |16,v,_=>v=.pointer (some ⟨B,0,none⟩)
 |17,v,_=>v=.pointer (some ⟨B,41,none⟩)
 |18,v,_=>v=.pointer (some ⟨B,43,none⟩)
 |19,v,_=>v=.slice sb j.sealed.data.length sd
 |20,v,_=>v=.pointer (some ⟨B,0,none⟩)
 |21,v,_=>v=.pointer (some ⟨B,0,none⟩)
 |22,v,_=>v=.pointer (some ⟨B,51,none⟩)
 |23,v,_=>v=.slice ca j.done.length cc
 |24,v,w=>∃(ya:Option Addr) (yc:Nat),v=.slice ya (newestL j.done).length yc∧SegW w ya (newestL j.done)
 |25,v,w=>∃(Bx:Nat) (ya:Option Addr) (yc:Nat),v=.slice (some ⟨Bx,0,none⟩) 5 5∧w.heap[Bx]?=some (.cells #[.slice na j.now.info.length nc,.slice nb j.now.data.length nd,.slice sa j.sealed.info.length sc,.slice sb j.sealed.data.length sd,.slice ya (newestL j.done).length yc] 34 (0,0))∧SegW w ya (newestL j.done)
 |26,v,_=>v=.int .i64 5
 |27,v,_=>v=.int .i64 0
 |_,_,_=>True
theorem zj9 {B:Nat}{j:Jn}{na:Option Addr}{nc:Nat}{nb:Option Addr}{nd:Nat}{sa:Option Addr}{sc:Nat}{sb:Option Addr}{sd:Nat}{ca:Option Addr}{cc:Nat}{w w':World}(hb:Below w.heap.size w w'){i:Nat}:∀kk uu,kk≠i→zq4 B j na nc nb nd sa sc sb sd ca cc kk uu w→zq4 B j na nc nb nd sa sc sb sd ca cc kk uu w':=by
 intro kk uu _ h
 match kk,h with
 |0,h|1,h|2,h|3,h|4,h|5,h|6,h|7,h|8,h|9,h|10,h|11,h|12,h|13,h|14,h|15,h|16,h|17,h|18,h|19,h|20,h|21,h|22,h|23,h=>exact h
 |24,⟨ya,yc,h1,h2⟩=>exact⟨ya,yc,h1,h2.below hb⟩
 |25,⟨Bx,ya,yc,h1,h2,h3⟩=>exact⟨Bx,ya,yc,h1,zad hb (Array.getElem?_eq_some_iff.1 h2).1 h2,h3.below hb⟩
 |26,h|27,h=>exact h
 |_+28,_=>exact trivial
theorem zzm (B:Nat)(X:List Nat)(j:Jn)(w:World)(b:Int)(h:JAt w B X j)(hn:j.done.length≤maxLen)(hb0:0≤b)(hb1:b≤11):
  Calls Tryz.prog 127 #[.pointer (some ⟨B,0,none⟩),.int .i64 b] w fun e w'=>e=.returned (.tuple #[.string (textJ j b).1,.int .i64 (textJ j b).2])∧Below w.heap.size w w':=by
 have HJ:=zaa h;have hlt:=h.lt;have HN:=zaa hn;obtain⟨_,da,dc,db,dd,na,nc,nb,nd,ne,nf,sa,sc,sb,sd,se,sf,ca,cc,fa,fc,ta,tc,h1,hr⟩:=id h;have c1:w.cell? ⟨B,1,none⟩=some (.slice da j.disk.safe.length dc):=zaj h1 1;have c2:w.cell? ⟨B,2,none⟩=some (.slice db j.disk.wr.length dd):=zaj h1 2;have c32:w.cell? ⟨B,32,none⟩=some (.slice na j.now.info.length nc):=zaj h1 32;have c33:w.cell? ⟨B,33,none⟩=some (.slice nb j.now.data.length nd):=zaj h1 33;have c42:w.cell? ⟨B,42,none⟩=some (.slice sa j.sealed.info.length sc):=zaj h1 42;have c43:w.cell? ⟨B,43,none⟩=some (.slice sb j.sealed.data.length sd):=zaj h1 43;have c51:w.cell? ⟨B,51,none⟩=some (.slice ca j.done.length cc):=zaj h1 51;have C32:=zaa c32;have C33:=zaa c33;have C42:=zaa c42;have C43:=zaa c43;have C51:=zaa c51;have HSL:=zaa (hr.2.2.2.1.ext (Ext.seenL w X));have HTN:=zaa (hr.2.1.ext (Ext.seenL w X)).rows;have HTS:=zaa (hr.2.2.1.ext (Ext.seenL w X)).rows;have HDK:=zaa (hr.1.ext (Ext.seenL w X));clear h hn h1 hr c32 c33 c42 c43 c51;go_enter Tryz.func127,Tryz.ntmps127;go_wp2;rename_i KK hKK
 have TAIL:∀(g:Nat→Value) (W3:World) (Bx:Nat) (ya:Option Addr) (yc:Nat),W3.heap[Bx]?=some (.cells #[.slice na j.now.info.length nc,.slice nb j.now.data.length nd,.slice sa j.sealed.info.length sc,.slice sb j.sealed.data.length sd,.slice ya (newestL j.done).length yc] 34 (0,0))→SegW W3 ya (newestL j.done)→Below w.heap.size w W3→KK ⟨#[.pointer (some ⟨B,0,none⟩),.int .i64 b,g 2,g 3,.string ⟨#[]⟩,.int .i64 0,g 6,g 7,g 8,g 9,g 10,g 11,g 12,g 13,g 14,g 15,g 16,g 17,g 18,g 19,g 20,g 21,g 22,g 23,g 24,g 25,g 26,g 27,g 28,g 29,g 30,g 31,g 32,g 33,g 34,.slice (some ⟨Bx,0,none⟩) 5 5,.int .i64 5,.int .i64 0,g 38,g 39,g 40,g 41,g 42,g 43,g 44,g 45,g 46,g 47,g 48,g 49,g 50,g 51,g 52,g 53,g 54,g 55,g 56,g 57,g 58],[]⟩ W3:=by
  intro g W3 Bx ya yc hBx hSy hb3;apply hKK;clear hKK;have HFT:=zaa (zta j b na nb sa sb ya nc nd sc sd yc);obtain⟨LL,hLL⟩:∃LL,LL=[(na,nc,j.now.info),(nb,nd,j.now.data),(sa,sc,j.sealed.info),(sb,sd,j.sealed.data),(ya,yc,newestL j.done)]:=⟨_,rfl⟩;rw[←hLL] at HFT
  have HROW:Hid (∀k x,LL[k]?=some x→W3.cell? ⟨Bx,k,none⟩=some (.slice x.1 x.2.2.length x.2.1)∧SegW W3 x.1 x.2.2∧x.2.2.length≤maxLen):=by
   intro k x hx;rw[hLL] at hx
   match k,hx with
   |0,hx=>cases hx;exact⟨(cell_of_row W3 _ 0 _ _ _ hBx).trans rfl,HTN.o.1.below hb3,HTN.o.2.2.2.1⟩
   |1,hx=>cases hx;exact⟨(cell_of_row W3 _ 1 _ _ _ hBx).trans rfl,HTN.o.2.1.below hb3,HTN.o.2.2.2.2.1⟩
   |2,hx=>cases hx;exact⟨(cell_of_row W3 _ 2 _ _ _ hBx).trans rfl,HTS.o.1.below hb3,HTS.o.2.2.2.1⟩
   |3,hx=>cases hx;exact⟨(cell_of_row W3 _ 3 _ _ _ hBx).trans rfl,HTS.o.2.1.below hb3,HTS.o.2.2.2.2.1⟩
   |4,hx=>cases hx;exact⟨(cell_of_row W3 _ 4 _ _ _ hBx).trans rfl,hSy,by have h12:(newestL j.done).length≤12:=zeb _ _;unfold maxLen;show(newestL j.done).length≤_;omega⟩
   |k+5,hx=>simp at hx
  have HL5:Hid (LL.length=5):=by rw[Hid,hLL];rfl
  have hBl:Bx<W3.heap.size:=(Array.getElem?_eq_some_iff.1 hBx).1;have HB3:=zaa hb3;clear hLL hBx hSy hb3;go_wp2
  go_loopw [37] (fun i wr=>∃k:Nat,k≤5∧i=.int .i64 k∧Hid (zhu b LL=zhu b (LL.drop k))∧Hid (Below W3.heap.size W3 wr)) (fun i _=>5 - (intOf i).toNat)
  case atStart=>exact⟨0,by omega,rfl,rfl,Below.refl _ _⟩
  case round=>
   obtain⟨k,hk,rfl,HFk,HBr⟩:=hrel;by_cases hk5:k<5
   ·have hkI:(k:Int)<5:=by omega
    obtain⟨x,hx⟩:∃x,LL[k]?=some x:=⟨_,List.getElem?_eq_getElem (by have:=HL5.o;omega)⟩;obtain⟨r1,r2,r3⟩:=HROW.o k x hx;have c:=zac HBr.o hBl r1;have HS:=zaa (r2.below HBr.o);have HM:=zaa r3;have HFD:=zaa (zs9 (b:=b) hx);obtain⟨xa,xc,xl⟩:=x;dsimp only at c HS HM HFD;clear r1 r2 r3 hx;go_wp2_with fail;refine(zkv xa xc xl b _ HS.o HM.o).mono ?_;rintro e wq ⟨rfl,hbq⟩;have HBq:=zaa (zae HBr.o hbq);clear hbq c HS HBr
    cases ht:zas b xl with
    |some s=>
     have HT:Hid (textJ j b=(s,0)):=by
      have h2:=HFD.o;rw[ht] at h2;rw[Hid,HFT.o,HFk.o,h2]
     have ht2:((some s:Option ByteArray).getD ⟨#[]⟩)=s:=rfl;have ht3:(some s:Option ByteArray).isSome=true:=rfl;rw[ht2,ht3];clear ht ht2 ht3 HFD;go_wp2;refine bodyPost_ret (results_tmp2 rfl _ _ _) rfl ⟨by rw[HT.o];rfl,zae HB3.o HBq.o⟩
    |none=>
     have HF2:Hid (zhu b LL=zhu b (LL.drop (k+1))):=by
      have h2:=HFD.o;rw[ht] at h2;rw[Hid,HFk.o,h2]
     have ht3:(none:Option ByteArray).isSome=false:=rfl;rw[ht3];clear ht ht3 HFD;go_wp2
     go_roundw
     case rel=>exact⟨k+1,by omega,by go_num,HF2,HBq⟩
     case measure=>first|(simp[intOf];omega)|simp[intOf]
   ·have e:k=5:=by omega
    subst e
    have HT:Hid (textJ j b=(zal j.disk (25+b),readE j.disk (25+b))):=by
     rw[Hid,HFT.o,HFk.o,List.drop_of_length_le (by have:=HL5.o;omega)];rfl
    have HBW:=zaa (zae HB3.o HBr.o);have d1:=zac HBW.o hlt c1;have d2:=zac HBW.o hlt c2;have HD:=zaa (HDK.o.below HBW.o);have hwr:IntKind.i64.wrap (25+b)=25+b:=by rw[IntKind.wrap_i64];omega
    clear HFk HFT HROW;go_wp2_with fail;refine(znw _ j.disk (25+b) _ HD.o).mono ?_;rintro e wq ⟨rfl,hbq⟩;have HBq:=zaa (zae HBW.o hbq);clear hbq d1 d2;go_wp2;refine bodyPost_ret (results_tmp2 rfl _ _ _) rfl ⟨by rw[HT.o];rfl,HBq.o⟩
 have HTAIL:=zaa TAIL;clear TAIL hKK;refine(show∀A0:Act,A0=_→Code.wp Tryz.prog _ _ A0 _ from fun A0 hA0=>?_) _ rfl;have hsz:A0.tmps.size=59:=by rw[hA0];rfl
 have hdf:A0.defers=[]:=by rw[hA0]
 have v0:A0.eval (.tmp 0)=.pointer (some ⟨B,0,none⟩):=by rw[hA0];rfl
 have v1:A0.eval (.tmp 1)=.int .i64 b:=by rw[hA0];rfl
 have v4:A0.eval (.tmp 4)=.string ⟨#[]⟩:=by rw[hA0];rfl
 have v5:A0.eval (.tmp 5)=.int .i64 0:=by rw[hA0];rfl
 clear hA0;refine zep (fun w'=>Below w.heap.size w w') [10,11,12,13,14,15,16,17,18,19,20,21,22,23,24,25,26,27,28,29,30,31,32,33,34,35,36,37] (zq4 B j na nc nb nd sa sc sb sd ca cc) (by kernel_rfl) (by kernel_rfl) (by kernel_rfl) ((Below.refl _ _).drew) ⟨?_,?_,?_,?_,?_,?_,?_,?_,?_,?_,?_,?_,?_,?_,?_,?_,?_,?_,?_,?_,?_,?_,?_,?_,?_,?_,?_,?_,trivial⟩ ?_
 ·intro a w' hF hR hp
  have z0:=(hF.other 0 rfl).trans v0;exact zak _ rfl rfl (by revert z0;generalize a.eval=ρ;intro z0;simp only[execOp];go_simp) hF hsz hR rfl
 ·intro a w' hF hR hp
  have p10:a.eval (.tmp 10)=.pointer (some ⟨B,0,none⟩):=hp ⟨0,.data⟩ (by simp) rfl;exact zak _ rfl rfl (by revert p10;generalize a.eval=ρ;intro p10;simp only[execOp];go_simp) hF hsz hR rfl
 ·intro a w' hF hR hp
  have p11:a.eval (.tmp 11)=.pointer (some ⟨B,0,none⟩):=hp ⟨1,.data⟩ (by simp) rfl;exact zak _ rfl rfl (by revert p11;generalize a.eval=ρ;intro p11;simp only[execOp];go_simp) hF hsz hR rfl
 ·intro a w' hF hR hp
  have p12:a.eval (.tmp 12)=.pointer (some ⟨B,31,none⟩):=hp ⟨2,.data⟩ (by simp) rfl;exact zak _ rfl rfl (by revert p12;generalize a.eval=ρ;intro p12;simp only[execOp];go_simp) hF hsz hR rfl
 ·intro a w' hF hR hp
  have p13:a.eval (.tmp 13)=.pointer (some ⟨B,32,none⟩):=hp ⟨3,.data⟩ (by simp) rfl;have c0:w'.cell? ⟨B,32,none⟩=some (.slice na j.now.info.length nc):=zac hR hlt C32.o;exact zak _ rfl rfl (by revert p13;generalize a.eval=ρ;intro p13;simp only[execOp];go_simp) hF hsz hR rfl
 ·intro a w' hF hR hp
  have z0:=(hF.other 0 rfl).trans v0;exact zak _ rfl rfl (by revert z0;generalize a.eval=ρ;intro z0;simp only[execOp];go_simp) hF hsz hR rfl
 ·intro a w' hF hR hp
  have p15:a.eval (.tmp 15)=.pointer (some ⟨B,0,none⟩):=hp ⟨5,.data⟩ (by simp) rfl;exact zak _ rfl rfl (by revert p15;generalize a.eval=ρ;intro p15;simp only[execOp];go_simp) hF hsz hR rfl
 ·intro a w' hF hR hp
  have p16:a.eval (.tmp 16)=.pointer (some ⟨B,0,none⟩):=hp ⟨6,.data⟩ (by simp) rfl;exact zak _ rfl rfl (by revert p16;generalize a.eval=ρ;intro p16;simp only[execOp];go_simp) hF hsz hR rfl
 ·intro a w' hF hR hp
  have p17:a.eval (.tmp 17)=.pointer (some ⟨B,31,none⟩):=hp ⟨7,.data⟩ (by simp) rfl;exact zak _ rfl rfl (by revert p17;generalize a.eval=ρ;intro p17;simp only[execOp];go_simp) hF hsz hR rfl
 ·intro a w' hF hR hp
  have p18:a.eval (.tmp 18)=.pointer (some ⟨B,33,none⟩):=hp ⟨8,.data⟩ (by simp) rfl;have c0:w'.cell? ⟨B,33,none⟩=some (.slice nb j.now.data.length nd):=zac hR hlt C33.o;exact zak _ rfl rfl (by revert p18;generalize a.eval=ρ;intro p18;simp only[execOp];go_simp) hF hsz hR rfl
 ·intro a w' hF hR hp
  have z0:=(hF.other 0 rfl).trans v0;exact zak _ rfl rfl (by revert z0;generalize a.eval=ρ;intro z0;simp only[execOp];go_simp) hF hsz hR rfl
 ·intro a w' hF hR hp
  have p20:a.eval (.tmp 20)=.pointer (some ⟨B,0,none⟩):=hp ⟨10,.data⟩ (by simp) rfl;exact zak _ rfl rfl (by revert p20;generalize a.eval=ρ;intro p20;simp only[execOp];go_simp) hF hsz hR rfl
 ·intro a w' hF hR hp
  have p21:a.eval (.tmp 21)=.pointer (some ⟨B,0,none⟩):=hp ⟨11,.data⟩ (by simp) rfl;exact zak _ rfl rfl (by revert p21;generalize a.eval=ρ;intro p21;simp only[execOp];go_simp) hF hsz hR rfl
 ·intro a w' hF hR hp
  have p22:a.eval (.tmp 22)=.pointer (some ⟨B,41,none⟩):=hp ⟨12,.data⟩ (by simp) rfl;exact zak _ rfl rfl (by revert p22;generalize a.eval=ρ;intro p22;simp only[execOp];go_simp) hF hsz hR rfl
 ·intro a w' hF hR hp
  have p23:a.eval (.tmp 23)=.pointer (some ⟨B,42,none⟩):=hp ⟨13,.data⟩ (by simp) rfl;have c0:w'.cell? ⟨B,42,none⟩=some (.slice sa j.sealed.info.length sc):=zac hR hlt C42.o;exact zak _ rfl rfl (by revert p23;generalize a.eval=ρ;intro p23;simp only[execOp];go_simp) hF hsz hR rfl
 ·intro a w' hF hR hp
  have z0:=(hF.other 0 rfl).trans v0;exact zak _ rfl rfl (by revert z0;generalize a.eval=ρ;intro z0;simp only[execOp];go_simp) hF hsz hR rfl
 ·intro a w' hF hR hp
  have p25:a.eval (.tmp 25)=.pointer (some ⟨B,0,none⟩):=hp ⟨15,.data⟩ (by simp) rfl;exact zak _ rfl rfl (by revert p25;generalize a.eval=ρ;intro p25;simp only[execOp];go_simp) hF hsz hR rfl
 ·intro a w' hF hR hp
  have p26:a.eval (.tmp 26)=.pointer (some ⟨B,0,none⟩):=hp ⟨16,.data⟩ (by simp) rfl;exact zak _ rfl rfl (by revert p26;generalize a.eval=ρ;intro p26;simp only[execOp];go_simp) hF hsz hR rfl
 ·intro a w' hF hR hp
  have p27:a.eval (.tmp 27)=.pointer (some ⟨B,41,none⟩):=hp ⟨17,.data⟩ (by simp) rfl;exact zak _ rfl rfl (by revert p27;generalize a.eval=ρ;intro p27;simp only[execOp];go_simp) hF hsz hR rfl
 ·intro a w' hF hR hp
  have p28:a.eval (.tmp 28)=.pointer (some ⟨B,43,none⟩):=hp ⟨18,.data⟩ (by simp) rfl;have c0:w'.cell? ⟨B,43,none⟩=some (.slice sb j.sealed.data.length sd):=zac hR hlt C43.o;exact zak _ rfl rfl (by revert p28;generalize a.eval=ρ;intro p28;simp only[execOp];go_simp) hF hsz hR rfl
 ·intro a w' hF hR hp
  have z0:=(hF.other 0 rfl).trans v0;exact zak _ rfl rfl (by revert z0;generalize a.eval=ρ;intro z0;simp only[execOp];go_simp) hF hsz hR rfl
 ·intro a w' hF hR hp
  have p30:a.eval (.tmp 30)=.pointer (some ⟨B,0,none⟩):=hp ⟨20,.data⟩ (by simp) rfl;exact zak _ rfl rfl (by revert p30;generalize a.eval=ρ;intro p30;simp only[execOp];go_simp) hF hsz hR rfl
 ·intro a w' hF hR hp
  have p31:a.eval (.tmp 31)=.pointer (some ⟨B,0,none⟩):=hp ⟨21,.data⟩ (by simp) rfl;exact zak _ rfl rfl (by revert p31;generalize a.eval=ρ;intro p31;simp only[execOp];go_simp) hF hsz hR rfl
 ·intro a w' hF hR hp
  have p32:a.eval (.tmp 32)=.pointer (some ⟨B,51,none⟩):=hp ⟨22,.data⟩ (by simp) rfl;have c0:w'.cell? ⟨B,51,none⟩=some (.slice ca j.done.length cc):=zac hR hlt C51.o;exact zak _ rfl rfl (by revert p32;generalize a.eval=ρ;intro p32;simp only[execOp];go_simp) hF hsz hR rfl
 ·intro a w' hF hR hp
  have p33:a.eval (.tmp 33)=.slice ca j.done.length cc:=hp ⟨23,.data⟩ (by simp) rfl;refine zbu 126 #[.slice ca j.done.length cc] rfl rfl (by have pf:=Act.eval_func a 126;revert p33 pf;generalize a.eval=ρ;intro p33 pf;simp only[execOp];go_simp) _ (zl3 ca cc j.done _ (HSL.o.below hR) HN.o) ?_;rintro e w2 ⟨v7,rfl,hO7,hb7⟩;obtain⟨ya,yc,rfl,hS7,_⟩:=SegC.of_owns hO7;refine⟨_,rfl,_,rfl,zae hR hb7,?_,zj9 hb7⟩;show zq4 _ _ _ _ _ _ _ _ _ _ _ _ _ ((a.put (some 34) _).eval (.tmp 34)) w2;rw[zap hF hsz (by decide)];exact⟨ya,yc,rfl,hS7⟩
 ·intro a w' hF hR hp
  have p14:a.eval (.tmp 14)=.slice na j.now.info.length nc:=hp ⟨4,.data⟩ (by simp) rfl;have p19:a.eval (.tmp 19)=.slice nb j.now.data.length nd:=hp ⟨9,.data⟩ (by simp) rfl;have p24:a.eval (.tmp 24)=.slice sa j.sealed.info.length sc:=hp ⟨14,.data⟩ (by simp) rfl;have p29:a.eval (.tmp 29)=.slice sb j.sealed.data.length sd:=hp ⟨19,.data⟩ (by simp) rfl;obtain⟨ya,yc,p34,hS⟩:∃(ya:Option Addr) (yc:Nat),a.eval (.tmp 34)=.slice ya (newestL j.done).length yc∧SegW w' ya (newestL j.done):=hp ⟨24,.data⟩ (by simp) rfl;refine zfw (.slice (some ⟨w'.heap.size,0,none⟩) 5 5) rfl rfl (w':=w'.alloc (.cells #[.slice na j.now.info.length nc,.slice nb j.now.data.length nd,.slice sa j.sealed.info.length sc,.slice sb j.sealed.data.length sd,.slice ya (newestL j.done).length yc] 34)) (by revert p14 p19 p24 p29 p34;generalize a.eval=ρ;intro p14 p19 p24 p29 p34;simp only[execOp];go_simp) ⟨_,rfl,hR.alloc hR.size _,?_,zj9 (zab _ _)⟩;show zq4 _ _ _ _ _ _ _ _ _ _ _ _ _ ((a.put (some 35) _).eval (.tmp 35)) _;rw[zap hF hsz (by decide)];exact⟨_,ya,yc,rfl,heap_alloc_new _ _,hS.below (zab _ _)⟩
 ·intro a w' hF hR hp
  obtain⟨Bx,ya,yc,p35,_⟩:∃(Bx:Nat) (ya:Option Addr) (yc:Nat),a.eval (.tmp 35)=.slice (some ⟨Bx,0,none⟩) 5 5∧w'.heap[Bx]?=some (.cells #[.slice na j.now.info.length nc,.slice nb j.now.data.length nd,.slice sa j.sealed.info.length sc,.slice sb j.sealed.data.length sd,.slice ya (newestL j.done).length yc] 34 (0,0))∧SegW w' ya (newestL j.done):=hp ⟨25,.data⟩ (by simp) rfl;exact zak _ rfl rfl (by revert p35;generalize a.eval=ρ;intro p35;simp only[execOp];go_simp) hF hsz hR rfl
 ·intro a w' hF hR hp
  exact zak _ rfl rfl (by have pc0:=Act.eval_const a (.int .i64 0);revert pc0;generalize a.eval=ρ;intro pc0;simp only[execOp];go_simp) hF hsz hR rfl
 ·intro a W hF hR hp
  obtain⟨Bx,ya,yc,p35,hBx,hSy⟩:∃(Bx:Nat) (ya:Option Addr) (yc:Nat),a.eval (.tmp 35)=.slice (some ⟨Bx,0,none⟩) 5 5∧W.heap[Bx]?=some (.cells #[.slice na j.now.info.length nc,.slice nb j.now.data.length nd,.slice sa j.sealed.info.length sc,.slice sb j.sealed.data.length sd,.slice ya (newestL j.done).length yc] 34 (0,0))∧SegW W ya (newestL j.done):=hp 25 (by decide);have p36:a.eval (.tmp 36)=.int .i64 5:=hp 26 (by decide);have p37:a.eval (.tmp 37)=.int .i64 0:=hp 27 (by decide);have hsa:a.tmps.size=59:=hF.size.trans hsz;have f0:a.eval (.tmp 0)=.pointer (some ⟨B,0,none⟩):=(hF.other 0 rfl).trans v0;have f1:a.eval (.tmp 1)=.int .i64 b:=(hF.other 1 rfl).trans v1;have f4:a.eval (.tmp 4)=.string ⟨#[]⟩:=(hF.other 4 rfl).trans v4;have f5:a.eval (.tmp 5)=.int .i64 0:=(hF.other 5 rfl).trans v5;have hlit:a=⟨#[_,_,_,_,_,_,_,_,_,_,_,_,_,_,_,_,_,_,_,_,_,_,_,_,_,_,_,_,_,_,_,_,_,_,_,_,_,_,_,_,_,_,_,_,_,_,_,_,_,_,_,_,_,_,_,_,_,_,_],[]⟩:=zcj a 59 hsa (hF.defers.trans hdf);dsimp only at hlit;rw[f0,f1,f4,f5,p35,p36,p37] at hlit;show KK a _;exact(congrArg (fun x=>KK x _) hlit).mpr (HTAIL.o (fun k=>a.eval (.tmp k)) _ Bx ya yc hBx hSy hR)
theorem zzn (B:Nat)(X:List Nat)(j:Jn)(w:World)(b:Int)(h:JAt w B X j)(hn:j.done.length≤maxLen):
  Calls Tryz.prog 87 #[.pointer (some ⟨B,0,none⟩),.int .i64 b] w (zdc w B X (j,zjl j b)):=by
 have HJ:=zaa h;have hlt:=h.lt;have hBX:=h.1;have HN:=zaa hn;clear h hn;have hne:¬w.heap.size=B:=by omega
 have hrB:w.heap.size≠B:=by omega
 obtain⟨W1,hW1⟩:∃W1,W1=w.alloc (.cells #[.int .i64 0,.int .i64 0,.string ⟨#[]⟩] 31):=⟨_,rfl⟩;have HJ1:Hid (JAt W1 B (w.heap.size::X) j):=by rw[hW1];exact HJ.o.more (zab _ _) (Nat.le_refl _)
 have HB1:Hid (ButL [B] w.heap.size w W1):=by rw[hW1];exact ButL.of_below (zab _ _)
 have KR:Hid (W1.heap[w.heap.size]?=some (.cells #[.int .i64 0,.int .i64 0,.string ⟨#[]⟩] 31 (0,0))):=by rw[hW1];exact heap_alloc_new _ _
 have hrl:w.heap.size<W1.heap.size:=by rw[hW1];simp
 have HW1:=zaa hW1;clear hW1;by_cases h0:b<0
 ·have HE:Hid ((j,zjl j b)=(j,zav 4)):=by rw[Hid,zjl,if_pos (.inl h0)]
  go_enter Tryz.func87,Tryz.ntmps87;go_wp2_with fail;rw[←HW1.o];clear h0;refine(zat 4 _).mono ?_;rintro e w2 ⟨rfl,hb2⟩;have KR2:=zaa (zad hb2 hrl KR.o);have HJ2:=zaa (HJ1.o.below hb2);have HB2:=zaa (HB1.o.trans (Y:=[]) (ButL.of_below hb2) HB1.o.size (by simp));clear hb2;obtain⟨⟨y0,y1,y2⟩,yf⟩:=zbj KR2.o;go_wp2;exact zbc HE.o KR2.o HJ2.o HB2.o hrB hBX fun W u0 u1 u2=>by simp[results,Tryz.results87,go_sem,u0,u1,u2]
 ·by_cases h12:11<b
  ·have HE:Hid ((j,zjl j b)=(j,zav 4)):=by rw[Hid,zjl,if_pos (.inr h12)]
   have h12':b≥12:=by omega
   go_enter Tryz.func87,Tryz.ntmps87;go_wp2_with fail;rw[←HW1.o];clear h0 h12 h12';refine(zat 4 _).mono ?_;rintro e w2 ⟨rfl,hb2⟩;have KR2:=zaa (zad hb2 hrl KR.o);have HJ2:=zaa (HJ1.o.below hb2);have HB2:=zaa (HB1.o.trans (Y:=[]) (ButL.of_below hb2) HB1.o.size (by simp));clear hb2;obtain⟨⟨y0,y1,y2⟩,yf⟩:=zbj KR2.o;go_wp2;exact zbc HE.o KR2.o HJ2.o HB2.o hrB hBX fun W u0 u1 u2=>by simp[results,Tryz.results87,go_sem,u0,u1,u2]
  ·have HRD:Hid (zjl j b=if(textJ j b).2=0 then⟨0,j.role b.toNat,(textJ j b).1⟩ else zav (textJ j b).2):=by rw[Hid,zjl,if_neg (by omega)]
   have h0':0≤b:=by omega
   have h11:b≤11:=by omega
   have h12':¬(b≥12):=by omega
   have h12'':b<12:=by omega
   go_enter Tryz.func87,Tryz.ntmps87;go_wp2_with fail;rw[←HW1.o];refine(zzm B (w.heap.size::X) j W1 b HJ1.o HN.o h0' h11).mono ?_;rintro e w2 ⟨rfl,hb2⟩;have HJ3:=zaa (HJ1.o.below hb2);have HB3:Hid (ButL [B] w.heap.size w w2):=HB1.o.trans (Y:=[]) (ButL.of_below hb2) HB1.o.size (by simp);have KR3:=zaa (zad hb2 hrl KR.o);have hs2:W1.heap.size≤w2.heap.size:=hb2.size;have hrl3:w.heap.size<w2.heap.size:=by omega
   clear hb2;by_cases he:(textJ j b).2=0
   ·have HE3:Hid ((j,zjl j b)=(j,⟨0,j.role b.toNat,(textJ j b).1⟩)):=by rw[Hid,HRD.o,if_pos he]
    rw[he];clear he HRD;generalize (textJ j b).1=TT at *;obtain⟨k,rfl⟩:∃k:Nat,b=(k:Int):=⟨b.toNat,by omega⟩;obtain⟨e1,_,_,_⟩:=HJ3.o.role k (by omega);rw[Int.toNat_natCast] at HE3;have KR2:=KR3;have HJ2:=HJ3;have HB2:=HB3;obtain⟨⟨y0,y1,y2⟩,yf⟩:=zbj KR2.o;go_wp2;exact zbc HE3.o KR2.o HJ2.o HB2.o hrB hBX fun W u0 u1 u2=>by simp[results,Tryz.results87,go_sem,u0,u1,u2]
   ·have HE:Hid ((j,zjl j b)=(j,zav (textJ j b).2)):=by rw[Hid,HRD.o,if_neg he]
    have he':((textJ j b).2 !=0)=true:=by simpa using he
    clear he HRD;generalize (textJ j b).2=E at *;have HJ1:=HJ3;have HB1:=HB3;have KR:=KR3;have hrl:=hrl3;go_wp2_with fail;refine(zat E _).mono ?_;rintro e w3 ⟨rfl,hb2⟩;have KR2:=zaa (zad hb2 hrl KR.o);have HJ2:=zaa (HJ1.o.below hb2);have HB2:=zaa (HB1.o.trans (Y:=[]) (ButL.of_below hb2) HB1.o.size (by simp));clear hb2;obtain⟨⟨y0,y1,y2⟩,yf⟩:=zbj KR2.o;go_wp2;exact zbc HE.o KR2.o HJ2.o HB2.o hrB hBX fun W u0 u1 u2=>by simp[results,Tryz.results87,go_sem,u0,u1,u2]
theorem ztd (t:Tx)(ua:Option Addr)(uc:Nat)(ub:Option Addr)(ud:Nat)(ue:Option Addr)(uf:Nat)(w:World):
  Calls Tryz.prog 124 #[.agg #[.int .i64 t.seq,.slice ua t.info.length uc,.slice ub t.data.length ud,.slice ue t.rev.length uf,.bool t.h0.on,.int .i64 t.h0.left,.bool t.h1.on,.int .i64 t.h1.left,.bool t.h2.on,.int .i64 t.h2.left]] w fun e w'=>e=.returned (.bool (zez t))∧Below w.heap.size w w':=by
 by_cases h1:t.info.length=0
 ·by_cases h2:t.data.length=0
  ·by_cases h3:t.rev.length=0
   ·have HE:Hid (zez t=true):=by simp[Hid,zez,h1,h2,h3]
    rw[h1,h2,h3];clear h1 h2 h3;go_enter Tryz.func124,Tryz.ntmps124;go_wp2;go_ret;exact⟨by rw[HE.o];rfl,zab _ _⟩
   ·have HE:Hid (zez t=false):=by simp[Hid,zez,h1,h2,h3]
    have h3':(t.rev.length==0)=false:=by simpa using h3
    have h3i:((t.rev.length:Int)==0)=false:=by simpa using h3
    rw[h1,h2];clear h1 h2 h3;go_enter Tryz.func124,Tryz.ntmps124;go_wp2;go_ret;exact⟨by rw[HE.o];rfl,zab _ _⟩
  ·have HE:Hid (zez t=false):=by simp[Hid,zez,h1,h2]
   have h2':(t.data.length==0)=false:=by simpa using h2
   have h2i:((t.data.length:Int)==0)=false:=by simpa using h2
   rw[h1];clear h1 h2;go_enter Tryz.func124,Tryz.ntmps124;go_wp2;go_ret;exact⟨by rw[HE.o];rfl,zab _ _⟩
 ·have HE:Hid (zez t=false):=by simp[Hid,zez,h1]
  have h1':(t.info.length==0)=false:=by simpa using h1
  have h1i:((t.info.length:Int)==0)=false:=by simpa using h1
  clear h1;go_enter Tryz.func124,Tryz.ntmps124;go_wp2;go_ret;exact⟨by rw[HE.o];rfl,zab _ _⟩
theorem zgz {w:World}{X:List Nat}{base:Nat}{e:TypeId}{size:Nat}{v:Value}{n:Nat}{xs:List Value}(h:w.ownsRow base e size v n xs)(hX:∀x∈X,x<base):(zar w X).ownsRow base e size v n xs:=by
 refine⟨h.1,?_⟩;rcases h.2 with h0|⟨g,cap,cur,hv,hg,hh,r⟩
 ·exact .inl h0
 ·exact .inr ⟨g,cap,cur,hv,hg,(zk4 (zpb hX hg)).trans hh,r⟩
theorem ScPost.foundH {w w':World}{d:Dk}{e:Ending}(h:ScPost w w' d e){X:List Nat}(hX:∀x∈X,x<w.heap.size):∃va vc,e=.returned (.tuple #[.agg #[.slice va (fndL d).length vc,.int .i64 (fndN d),.int .i64 (fndP d)],.int .i64 (scanE d)])∧SegTx (zar w' X) va (fndL d)∧Below w.heap.size w w':=by
 obtain⟨v,rfl,hb,h1,h2⟩:=h;by_cases hE:scanE d=0
 ·obtain⟨q,va,vc,rfl,hq,hO,hX2⟩:=h2 hE
  have hO2:=zgz hO hX
  have hX3:∀x∈q,OwnR (zar w' X) w.heap.size x:=fun x hx=>by
   obtain⟨r1,r2,r3⟩:=hX2 x hx;exact⟨zgz r1 hX,zgz r2 hX,zgz r3 hX⟩
  obtain⟨a,c,hv,hS,_⟩:=SegTx.of_owns hO2 hX3;simp only[Value.slice.injEq] at hv;obtain⟨rfl,_,rfl⟩:=hv;have hl:fndL d=q.map (·.t):=by rw[fndL,if_pos hE,hq]
  have hlen:q.length=(zbv d).1.length:=by rw[←hq,List.length_map]
  refine⟨va,vc,?_,by rw[hl];exact hS,hb⟩;rw[hl,fndN,fndP,if_pos hE,if_pos hE,List.length_map,hlen]
 ·rw[h1 hE]
  refine⟨none,0,?_,.inl (by rw[fndL,if_neg hE]),hb⟩;rw[fndL,fndN,fndP,if_neg hE,if_neg hE,if_neg hE];rfl
def zo2 (B:Nat)(D:Nat)(va:Option Addr)(vc:Nat)(d:Dk)(cs:List (Int×ByteArray)):Nat→Value→World→Prop
 |0,v,_=>v=.pointer (some ⟨B,0,none⟩)
 |1,v,_=>v=.pointer (some ⟨D,0,none⟩)
 |2,v,_=>v=.slice va (fndL d).length vc
 |3,v,w=>∃a c,v=.slice a cs.length c∧SegW w a cs
 |4,v,_=>v=.pointer (some ⟨D,2,none⟩)
 |5,v,_=>v=.int .i64 (fndP d)
 |6,v,_=>v=.pointer (some ⟨D,1,none⟩)
 |7,v,_=>v=.int .i64 (fndN d)
 |_,_,_=>True
theorem zo3 {B:Nat}{D:Nat}{va:Option Addr}{vc:Nat}{d:Dk}{cs:List (Int×ByteArray)}{w w':World}(hb:Below w.heap.size w w'){i:Nat}:∀kk uu,kk≠i→zo2 B D va vc d cs kk uu w→zo2 B D va vc d cs kk uu w':=by
 intro kk uu _ h
 match kk,h with
 |0,h|1,h|2,h=>exact h
 |3,⟨a,c,h1,h2⟩=>exact⟨a,c,h1,h2.below hb⟩
 |4,h|5,h|6,h|7,h=>exact h
 |_+8,_=>exact trivial
theorem zzq (B:Nat)(X:List Nat)(j:Jn)(w:World)(h:JAt w B X j)(hX:∀x∈X,x<w.heap.size)(hFew0:j.down=true→j.steps=[]→∀t∈fndL j.disk,Few t):
  Calls Tryz.prog 46 #[.pointer (some ⟨B,0,none⟩)] w (zdc w B X (zb7 j)):=by
 have HJ:=zaa h;have hlt:=h.lt;have hBX:=h.1;have HX:=zaa hX;obtain⟨_,da,dc,db,dd,na,nc,nb,nd,ne,nf,sa,sc,sb,sd,se,sf,ca,cc,fa,fc,ta,tc,h1,hr⟩:=h;have c1:w.cell? ⟨B,1,none⟩=some (.slice da j.disk.safe.length dc):=zaj h1 1;have c2:w.cell? ⟨B,2,none⟩=some (.slice db j.disk.wr.length dd):=zaj h1 2;have c6:w.cell? ⟨B,6,none⟩=some (.bool j.down):=zaj h1 6;have HD0:=zaa (hr.1.ext (Ext.seenL w X));clear h1 hr hX;have hne:¬w.heap.size=B:=by omega
 cases hd:j.down with
 |false=>
  have HE:Hid (zb7 j=(j,zav 9)):=by rw[Hid,zb7,if_pos (.inl hd)]
  rw[hd] at c6;clear hd;go_enter Tryz.func46,Tryz.ntmps46;go_wp2_with fail;obtain⟨W1,hW1⟩:∃W1,W1=w.alloc (.cells #[.int .i64 0,.int .i64 0,.string ⟨#[]⟩] 31):=⟨_,rfl⟩;have HJ1:Hid (JAt W1 B (w.heap.size::X) j):=by rw[hW1];exact HJ.o.more (zab _ _) (Nat.le_refl _)
  have HB1:Hid (ButL [B] w.heap.size w W1):=by rw[hW1];exact ButL.of_below (zab _ _)
  have KR:Hid (W1.heap[w.heap.size]?=some (.cells #[.int .i64 0,.int .i64 0,.string ⟨#[]⟩] 31 (0,0))):=by rw[hW1];exact heap_alloc_new _ _
  have hrl:w.heap.size<W1.heap.size:=by rw[hW1];simp
  have hrB:w.heap.size≠B:=by omega
  rw[←hW1];clear hW1;refine(zat 9 _).mono ?_;rintro e w2 ⟨rfl,hb2⟩;have KR2:=zaa (zad hb2 hrl KR.o);have HJ2:=zaa (HJ1.o.below hb2);have HB2:=zaa (HB1.o.trans (Y:=[]) (ButL.of_below hb2) HB1.o.size (by simp));clear hb2;obtain⟨⟨y0,y1,y2⟩,yf⟩:=zbj KR2.o;go_wp2;exact zbc HE.o KR2.o HJ2.o HB2.o hrB hBX fun W u0 u1 u2=>by simp[results,Tryz.results46,go_sem,u0,u1,u2]
 |true=>
  rw[hd] at c6;go_enter Tryz.func46,Tryz.ntmps46;go_wp2_with fail;obtain⟨W1,hW1⟩:∃W1,W1=w.alloc (.cells #[.int .i64 0,.int .i64 0,.string ⟨#[]⟩] 31):=⟨_,rfl⟩;have HJ1:Hid (JAt W1 B (w.heap.size::X) j):=by rw[hW1];exact HJ.o.more (zab _ _) (Nat.le_refl _)
  have HB1:Hid (ButL [B] w.heap.size w W1):=by rw[hW1];exact ButL.of_below (zab _ _)
  have KR:Hid (W1.heap[w.heap.size]?=some (.cells #[.int .i64 0,.int .i64 0,.string ⟨#[]⟩] 31 (0,0))):=by rw[hW1];exact heap_alloc_new _ _
  have hrl:w.heap.size<W1.heap.size:=by rw[hW1];simp
  have hrB:w.heap.size≠B:=by omega
  rw[←hW1];clear hW1;refine(ze8 B (w.heap.size::X) j W1 HJ1.o).mono ?_;rintro e w' ⟨rfl,rfl⟩;by_cases hs:0<j.steps.length
  ·have HE:Hid (zb7 j=(j,zav 9)):=by rw[Hid,zb7,if_pos (.inr (by intro e;rw[e] at hs;simp at hs))]
   have hs':decide (0<j.steps.length)=true:=by simpa using hs
   rw[hs'];clear hs hs' hd;go_wp2_with fail;refine(zat 9 _).mono ?_;rintro e w2 ⟨rfl,hb2⟩;have KR2:=zaa (zad hb2 hrl KR.o);have HJ2:=zaa (HJ1.o.below hb2);have HB2:=zaa (HB1.o.trans (Y:=[]) (ButL.of_below hb2) HB1.o.size (by simp));clear hb2;obtain⟨⟨y0,y1,y2⟩,yf⟩:=zbj KR2.o;go_wp2;exact zbc HE.o KR2.o HJ2.o HB2.o hrB hBX fun W u0 u1 u2=>by simp[results,Tryz.results46,go_sem,u0,u1,u2]
  ·have hs':decide (0<j.steps.length)=false:=by simpa using hs
   have hs0:j.steps=[]:=List.eq_nil_of_length_eq_zero (by omega);have hcb:¬(j.down=false∨j.steps≠[]):=by simp[hd,hs0]
   have hFew:=hFew0 hd hs0;clear hFew0;have HCB:=zaa hcb;rw[hs'];clear hs hs' hd hs0 hcb c1 c2 c6;obtain⟨_,ka,kc,kb,kd,na,nc,nb,nd,ne,nf,sa,sc,sb,sd,se,sf,ca,cc,fa,fc,ta,tc,h1,hr⟩:=id HJ1.o;have c1:w'.cell? ⟨B,1,none⟩=some (.slice ka j.disk.safe.length kc):=zaj h1 1;have c2:w'.cell? ⟨B,2,none⟩=some (.slice kb j.disk.wr.length kd):=zaj h1 2;have HD1:=zaa (hr.1.ext (Ext.seenL w' _));clear h1 hr HD0;go_wp2_with fail;refine(z09 _ _ _ _ j.disk _ HD1.o).mono ?_;intro e w1 hP
   obtain⟨va,vc,rfl,hS1,hb1⟩:=hP.foundH (X:=w.heap.size::X) (fun x hx=>by
    rcases List.mem_cons.1 hx with rfl|hx
    ·exact hrl
    ·have:=HX.o x hx;omega)
   have HSL1:=zaa hS1;have HJ3:=zaa (HJ1.o.below hb1);have KR3:=zaa (zad hb1 hrl KR.o);have HB3:=zaa (HB1.o.trans (Y:=[]) (ButL.of_below hb1) HB1.o.size (by simp));have hs1:w.heap.size<w1.heap.size:=Nat.lt_of_lt_of_le hrl hb1.size;clear hP hS1 hb1 HJ1 KR HB1 c1 c2 HD1 hrl HJ;obtain⟨d,hd⟩:∃d,d=j.disk:=⟨_,rfl⟩;rw[←hd] at HSL1 hFew⊢;have HDE:=zaa hd;clear hd
   have HX2:Hid (∀x∈w.heap.size::X,x<w1.heap.size):=fun x hx=>by
    rcases List.mem_cons.1 hx with rfl|hx
    ·exact hs1
    ·have:=HX.o x hx;omega
   by_cases hE:scanE d=0
   ·have HC0:Hid (zb7 j=if checkE (newestL (fndL d)) (fndP d) (fndN d)=0 then({j with work:=11,steps:=zbp (newestL (fndL d)) (fndP d) (fndN d),fL:=fndL d,fN:=fndN d,fP:=fndP d},zav 0) else(j,zav (checkE (newestL (fndL d)) (fndP d) (fndN d)))):=by
     rw[Hid,zb7,if_neg HCB.o,←HDE.o,if_pos hE]
    rw[hE];clear hE;go_wp2;rename_i KK hKK;obtain⟨W2,hW2⟩:∃W2,W2=w1.alloc (.cells #[.slice va (fndL d).length vc,.int .i64 (fndN d),.int .i64 (fndP d)] 90):=⟨_,rfl⟩;have hb2:Below w1.heap.size w1 W2:=by rw[hW2];exact zab _ _
    have HSL:=zaa (HSL1.o.ext (Ext.freshL hb2));have HJ4:=zaa (HJ3.o.below hb2);have KR4:=zaa (zad hb2 hs1 KR3.o);have HB4:=zaa (HB3.o.trans (Y:=[]) (ButL.of_below hb2) HB3.o.size (by simp));have KF:Hid (W2.heap[w1.heap.size]?=some (.cells #[.slice va (fndL d).length vc,.int .i64 (fndN d),.int .i64 (fndP d)] 90 (0,0))):=by rw[hW2];exact heap_alloc_new _ _
    have hsF:w1.heap.size<W2.heap.size:=by rw[hW2];simp
    obtain⟨⟨y0,y1,y2⟩,_⟩:=zbj KF.o;have Y0:=zaa y0;have Y1:=zaa y1;have Y2:=zaa y2;have hlt1:B<w1.heap.size:=HJ3.o.lt;rw[←hW2];clear hW2 hb2 y0 y1 y2 HSL1 HJ3 KR3 HB3
    have TAIL:∀(g:Nat→Value) (W3:World),JAt W3 B (w.heap.size::X) (zdr j 11 (newestL (fndL d)) (fndP d) (fndN d)).1→ButL [B] W2.heap.size W2 W3→KK ⟨#[.pointer (some ⟨B,0,none⟩),g 1,.pointer (some ⟨w.heap.size,0,none⟩),.pointer (some ⟨w1.heap.size,0,none⟩),.int .i64 (zdr j 11 (newestL (fndL d)) (fndP d) (fndN d)).2,g 5,g 6,g 7,g 8,g 9,g 10,g 11,g 12,g 13,g 14,g 15,g 16,g 17,g 18,g 19,g 20,g 21,g 22,g 23,g 24,g 25,g 26,g 27,g 28,g 29,g 30,g 31,g 32,g 33,g 34,g 35,g 36,g 37,g 38,g 39,g 40,g 41,g 42,g 43],[]⟩ W3:=by
     intro g W3 hJ hBt;apply hKK;clear hKK;have KR5:=zaa ((hBt.block _ (show w.heap.size<W2.heap.size by omega) (by simp;omega)).trans KR4.o);have KF5:=zaa ((hBt.block _ hsF (by simp;omega)).trans KF.o);have HS5:=zaa (HSL.o.ext (Ext.butL (hBt.wider (Y:=w.heap.size::X) (by simp[hBX]))));have HB5:=zaa (HB4.o.trans (Y:=[B]) hBt HB4.o.size (by simp));have hrl5:w.heap.size<W3.heap.size:=by have:=hBt.size;omega
     have hrB:w.heap.size≠B:=by omega
     have HJ5:=zaa hJ;clear hJ hBt Y0 Y1 Y2 HSL HJ4 KR4 HB4 KF;by_cases hc:checkE (newestL (fndL d)) (fndP d) (fndN d)=0
     ·have hsd:zdr j 11 (newestL (fndL d)) (fndP d) (fndN d)=({j with work:=11,steps:=zbp (newestL (fndL d)) (fndP d) (fndN d)},0):=by rw[zdr,if_pos hc]
      have HE:Hid (zb7 j=({j with work:=11,steps:=zbp (newestL (fndL d)) (fndP d) (fndN d),fL:=fndL d,fN:=fndN d,fP:=fndP d},zav 0)):=by rw[Hid,HC0.o,if_pos hc]
      rw[hsd] at HJ5⊢;clear hsd hc HC0;dsimp only at HJ5⊢;obtain⟨_,da,dc,db,dd,na,nc,nb,nd,ne,nf,sa,sc,sb,sd,se,sf,ca,cc,fa,fc,ta,tc,h1,_⟩:=id HJ5.o;have c52:W3.cell? ⟨B,52,none⟩=some (.slice fa j.fL.length fc):=zaj h1 52;have c53:W3.cell? ⟨B,53,none⟩=some (.int .i64 j.fN):=zaj h1 53;have c54:W3.cell? ⟨B,54,none⟩=some (.int .i64 j.fP):=zaj h1 54;have fc52:W3.frozen? ⟨B,52,none⟩=false:=frozen_of_row W3 _ _ _ _ h1;have fc53:W3.frozen? ⟨B,53,none⟩=false:=frozen_of_row W3 _ _ _ _ h1;have fc54:W3.frozen? ⟨B,54,none⟩=false:=frozen_of_row W3 _ _ _ _ h1;clear h1;obtain⟨⟨y0,y1,y2⟩,yf⟩:=zbj KF5.o;go_wp2_with fail;obtain⟨W4,hW4⟩:∃W4,W4=((W3.setCell ⟨B,52,none⟩ (.slice va (fndL d).length vc)).setCell ⟨B,53,none⟩ (.int .i64 (fndN d))).setCell ⟨B,54,none⟩ (.int .i64 (fndP d)):=⟨_,rfl⟩;have HJ1:Hid (JAt W4 B (w.heap.size::X) {j with work:=11,steps:=zbp (newestL (fndL d)) (fndP d) (fndN d),fL:=fndL d,fN:=fndN d,fP:=fndP d}):=by rw[hW4];exact HJ5.o.putFound (fndN d) (fndP d) HS5.o
      have HB1:Hid (ButL [B] w.heap.size w W4):=by rw[hW4];exact((HB5.o.set (.inl (by simp)) 52 _).set (.inl (by simp)) 53 _).set (.inl (by simp)) 54 _
      have KR:Hid (W4.heap[w.heap.size]?=some (.cells #[.int .i64 0,.int .i64 0,.string ⟨#[]⟩] 31 (0,0))):=by rw[hW4];exact(Below.heap_setCell _ _ _ _ hrB).trans ((Below.heap_setCell _ _ _ _ hrB).trans ((Below.heap_setCell _ _ _ _ hrB).trans KR5.o))
      have hrl:w.heap.size<W4.heap.size:=by rw[hW4];simpa[World.setCell] using hrl5
      rw[←hW4];clear hW4 y0 y1 y2 yf c52 c53 c54 fc52 fc53 fc54 KR5 KF5 HS5 HB5 HJ5 hrl5;refine(zat 0 _).mono ?_;rintro e w2 ⟨rfl,hb2⟩;have KR2:=zaa (zad hb2 hrl KR.o);have HJ2:=zaa (HJ1.o.below hb2);have HB2:=zaa (HB1.o.trans (Y:=[]) (ButL.of_below hb2) HB1.o.size (by simp));clear hb2;obtain⟨⟨y0,y1,y2⟩,yf⟩:=zbj KR2.o;go_wp2;exact zbc HE.o KR2.o HJ2.o HB2.o hrB hBX fun W u0 u1 u2=>by simp[results,Tryz.results46,go_sem,u0,u1,u2]
     ·have hsd:zdr j 11 (newestL (fndL d)) (fndP d) (fndN d)=(j,checkE (newestL (fndL d)) (fndP d) (fndN d)):=by rw[zdr,if_neg hc]
      have HE:Hid (zb7 j=(j,zav (checkE (newestL (fndL d)) (fndP d) (fndN d)))):=by rw[Hid,HC0.o,if_neg hc]
      rw[hsd] at HJ5⊢;dsimp only at HJ5⊢;have hc':(checkE (newestL (fndL d)) (fndP d) (fndN d)==0)=false:=by simpa using hc
      clear hsd hc HC0;generalize checkE (newestL (fndL d)) (fndP d) (fndN d)=E at *;go_wp2_with fail;have HJ1:=HJ5;have HB1:=HB5;have KR:=KR5;have hrl:=hrl5;refine(zat E _).mono ?_;rintro e w2 ⟨rfl,hb2⟩;have KR2:=zaa (zad hb2 hrl KR.o);have HJ2:=zaa (HJ1.o.below hb2);have HB2:=zaa (HB1.o.trans (Y:=[]) (ButL.of_below hb2) HB1.o.size (by simp));clear hb2;obtain⟨⟨y0,y1,y2⟩,yf⟩:=zbj KR2.o;go_wp2;exact zbc HE.o KR2.o HJ2.o HB2.o hrB hBX fun W u0 u1 u2=>by simp[results,Tryz.results46,go_sem,u0,u1,u2]
    have HTAIL:=zaa TAIL;clear TAIL hKK;refine(show∀A0:Act,A0=_→Code.wp Tryz.prog _ _ A0 _ from fun A0 hA0=>?_) _ rfl;have hsz:A0.tmps.size=44:=by rw[hA0];rfl
    have hdf:A0.defers=[]:=by rw[hA0]
    have v0:A0.eval (.tmp 0)=.pointer (some ⟨B,0,none⟩):=by rw[hA0];rfl
    have v2:A0.eval (.tmp 2)=.pointer (some ⟨w.heap.size,0,none⟩):=by rw[hA0];rfl
    have v3:A0.eval (.tmp 3)=.pointer (some ⟨w1.heap.size,0,none⟩):=by rw[hA0];rfl
    clear hA0;refine zbe 8 (fun w'=>Below W2.heap.size W2 w') [27,28,29,30,31,32,33,34] (zo2 B w1.heap.size va vc d (newestL (fndL d))) (by kernel_rfl) (by kernel_rfl) (by kernel_rfl) (by kernel_rfl) (by decide) ((Below.refl _ _).drew) ⟨?_,?_,?_,?_,?_,?_,?_,?_,trivial⟩ ?_
    ·intro a w' hF hR hp
     have z0:=(hF.other 0 rfl).trans v0;exact zak _ rfl rfl (by revert z0;generalize a.eval=ρ;intro z0;simp only[execOp];go_simp) hF hsz hR rfl
    ·intro a w' hF hR hp
     have z3:=(hF.other 3 rfl).trans v3;exact zak _ rfl rfl (by revert z3;generalize a.eval=ρ;intro z3;simp only[execOp];go_simp) hF hsz hR rfl
    ·intro a w' hF hR hp
     have p28:a.eval (.tmp 28)=.pointer (some ⟨w1.heap.size,0,none⟩):=hp ⟨1,.data⟩ (by simp) rfl;have c0:w'.cell? ⟨w1.heap.size,0,none⟩=some (.slice va (fndL d).length vc):=zac hR hsF Y0.o;exact zak _ rfl rfl (by revert p28;generalize a.eval=ρ;intro p28;simp only[execOp];go_simp) hF hsz hR rfl
    ·intro a w' hF hR hp
     have p29:a.eval (.tmp 29)=.slice va (fndL d).length vc:=hp ⟨2,.data⟩ (by simp) rfl;refine zbu 78 #[.slice va (fndL d).length vc] rfl rfl (by have pf:=Act.eval_func a 78;revert p29 pf;generalize a.eval=ρ;intro p29 pf;simp only[execOp];go_simp) _ (zwy va vc (fndL d) _ ((HSL.o.ext (Ext.seenL W2 (w.heap.size::X))).below hR) (by have:=zob d;omega) hFew) ?_;rintro e w2 ⟨v7,rfl,hO7,hb7⟩;obtain⟨ya,yc,rfl,hS7,_⟩:=SegC.of_owns hO7;refine⟨_,rfl,_,rfl,zae hR hb7,?_,zo3 hb7⟩;show zo2 _ _ _ _ _ _ _ ((a.put (some 30) _).eval (.tmp 30)) w2;rw[zap hF hsz (by decide)];exact⟨ya,yc,rfl,hS7⟩
    ·intro a w' hF hR hp
     have z3:=(hF.other 3 rfl).trans v3;exact zak _ rfl rfl (by revert z3;generalize a.eval=ρ;intro z3;simp only[execOp];go_simp) hF hsz hR rfl
    ·intro a w' hF hR hp
     have p31:a.eval (.tmp 31)=.pointer (some ⟨w1.heap.size,2,none⟩):=hp ⟨4,.data⟩ (by simp) rfl;have c0:w'.cell? ⟨w1.heap.size,2,none⟩=some (.int .i64 (fndP d)):=zac hR hsF Y2.o;exact zak _ rfl rfl (by revert p31;generalize a.eval=ρ;intro p31;simp only[execOp];go_simp) hF hsz hR rfl
    ·intro a w' hF hR hp
     have z3:=(hF.other 3 rfl).trans v3;exact zak _ rfl rfl (by revert z3;generalize a.eval=ρ;intro z3;simp only[execOp];go_simp) hF hsz hR rfl
    ·intro a w' hF hR hp
     have p33:a.eval (.tmp 33)=.pointer (some ⟨w1.heap.size,1,none⟩):=hp ⟨6,.data⟩ (by simp) rfl;have c0:w'.cell? ⟨w1.heap.size,1,none⟩=some (.int .i64 (fndN d)):=zac hR hsF Y1.o;exact zak _ rfl rfl (by revert p33;generalize a.eval=ρ;intro p33;simp only[execOp];go_simp) hF hsz hR rfl
    ·intro a W hF hR hp
     have p0:a.eval (.tmp 27)=.pointer (some ⟨B,0,none⟩):=hp 0 (by decide);obtain⟨ya,yc,p3,hS7⟩:∃ya yc,a.eval (.tmp 30)=.slice ya (newestL (fndL d)).length yc∧SegW W ya (newestL (fndL d)):=hp 3 (by decide);have p5:a.eval (.tmp 32)=.int .i64 (fndP d):=hp 5 (by decide);have p7:a.eval (.tmp 34)=.int .i64 (fndN d):=hp 7 (by decide);show wpOps Tryz.prog _ _ [8,9] a W;rw[wpOps_cons];refine zbu 77 #[.pointer (some ⟨B,0,none⟩),.int .i64 11,.slice ya (newestL (fndL d)).length yc,.int .i64 (fndP d),.int .i64 (fndN d)] rfl rfl (by have pf:=Act.eval_func a 77;have pc0:=Act.eval_const a (.int .i64 11);revert p0 p3 p5 p7 pf pc0;generalize a.eval=ρ;intro p0 p3 p5 p7 pf pc0;simp only[execOp];go_simp) _ (zqp B (w.heap.size::X) j W (HJ4.o.below hR) (fun x hx=>Nat.lt_of_lt_of_le (HX2.o x hx) (by have:=hR.size;omega)) 11 ya yc (newestL (fndL d)) hS7 (by have:=zeb (newestF (fndL d)) 12;unfold newestL;omega) (fndP d) (fndN d)) ?_;rintro e w5 ⟨rfl,hJ5,hB5⟩;refine⟨_,rfl,?_⟩;rw[wpOps_cons];have hsa:a.tmps.size=44:=hF.size.trans hsz;obtain⟨a1,ha1⟩:∃a1,a1=a.put (some 35) (.int .i64 (zdr j 11 (newestL (fndL d)) (fndP d) (fndN d)).2):=⟨_,rfl⟩;have q35:a1.eval (.tmp 35)=.int .i64 (zdr j 11 (newestL (fndL d)) (fndP d) (fndN d)).2:=by rw[ha1];exact Act.eval_put_same _ _ _ (by rw[hsa];decide)
     have hs1a:a1.tmps.size=44:=by rw[ha1,Act.size_put];exact hsa
     have hd1a:a1.defers=[]:=by rw[ha1,Act.defers_put'];exact hF.defers.trans hdf
     have o0:a1.eval (.tmp 0)=.pointer (some ⟨B,0,none⟩):=by rw[ha1,Act.eval_put_ne _ _ _ _ (by decide)];exact(hF.other 0 rfl).trans v0
     have o2:a1.eval (.tmp 2)=.pointer (some ⟨w.heap.size,0,none⟩):=by rw[ha1,Act.eval_put_ne _ _ _ _ (by decide)];exact(hF.other 2 rfl).trans v2
     have o3:a1.eval (.tmp 3)=.pointer (some ⟨w1.heap.size,0,none⟩):=by rw[ha1,Act.eval_put_ne _ _ _ _ (by decide)];exact(hF.other 3 rfl).trans v3
     show wpOp Tryz.prog _ _ _ _ (a.put (some 35) (.int .i64 (zdr j 11 (newestL (fndL d)) (fndP d) (fndN d)).2)) w5;rw[←ha1];clear ha1;refine zax (.int .i64 (zdr j 11 (newestL (fndL d)) (fndP d) (fndN d)).2) rfl rfl (by revert q35;generalize a1.eval=ρ;intro q35;simp only[execOp];go_simp) ?_;obtain⟨a2,ha2⟩:∃a2,a2=a1.put (some 4) (.int .i64 (zdr j 11 (newestL (fndL d)) (fndP d) (fndN d)).2):=⟨_,rfl⟩;have f4:a2.eval (.tmp 4)=.int .i64 (zdr j 11 (newestL (fndL d)) (fndP d) (fndN d)).2:=by rw[ha2];exact Act.eval_put_same _ _ _ (by rw[hs1a];decide)
     have f0:a2.eval (.tmp 0)=.pointer (some ⟨B,0,none⟩):=by rw[ha2,Act.eval_put_ne _ _ _ _ (by decide)];exact o0
     have f2:a2.eval (.tmp 2)=.pointer (some ⟨w.heap.size,0,none⟩):=by rw[ha2,Act.eval_put_ne _ _ _ _ (by decide)];exact o2
     have f3:a2.eval (.tmp 3)=.pointer (some ⟨w1.heap.size,0,none⟩):=by rw[ha2,Act.eval_put_ne _ _ _ _ (by decide)];exact o3
     have hlit:a2=⟨#[_,_,_,_,_,_,_,_,_,_,_,_,_,_,_,_,_,_,_,_,_,_,_,_,_,_,_,_,_,_,_,_,_,_,_,_,_,_,_,_,_,_,_,_],[]⟩:=zcj a2 44 (by rw[ha2,Act.size_put];exact hs1a) (by rw[ha2,Act.defers_put'];exact hd1a);dsimp only at hlit;rw[f0,f2,f3,f4] at hlit;show KK (a1.put (some 4) (.int .i64 (zdr j 11 (newestL (fndL d)) (fndP d) (fndN d)).2)) w5;rw[←ha2];exact(congrArg (fun x=>KK x w5) hlit).mpr (HTAIL.o (fun k=>a2.eval (.tmp k)) w5 hJ5 ((ButL.of_below hR).trans (Y:=[B]) hB5 hR.size (by simp)))
   ·have HE:Hid (zb7 j=(j,zav (scanE d))):=by rw[Hid,zb7,if_neg HCB.o,←HDE.o,if_neg hE]
    have hE':(scanE d !=0)=true:=by simpa using hE
    clear hE;generalize scanE d=E at *;go_wp2_with fail;obtain⟨W2,hW2⟩:∃W2,W2=w1.alloc (.cells #[.slice va (fndL d).length vc,.int .i64 (fndN d),.int .i64 (fndP d)] 90):=⟨_,rfl⟩;have hb2:Below w1.heap.size w1 W2:=by rw[hW2];exact zab _ _
    have HJ1:=zaa (HJ3.o.below hb2);have KR:=zaa (zad hb2 hs1 KR3.o);have HB1:=zaa (HB3.o.trans (Y:=[]) (ButL.of_below hb2) HB3.o.size (by simp));have hrl:w.heap.size<W2.heap.size:=Nat.lt_of_lt_of_le hs1 hb2.size;rw[←hW2];clear hW2 hb2 HJ3 KR3 HB3;refine(zat E _).mono ?_;rintro e w2 ⟨rfl,hb2⟩;have KR2:=zaa (zad hb2 hrl KR.o);have HJ2:=zaa (HJ1.o.below hb2);have HB2:=zaa (HB1.o.trans (Y:=[]) (ButL.of_below hb2) HB1.o.size (by simp));clear hb2;obtain⟨⟨y0,y1,y2⟩,yf⟩:=zbj KR2.o;go_wp2;exact zbc HE.o KR2.o HJ2.o HB2.o hrB hBX fun W u0 u1 u2=>by simp[results,Tryz.results46,go_sem,u0,u1,u2]
def zuq (B:Nat)(ca:Option Addr)(cc:Nat)(j:Jn):Nat→Value→World→Prop
 |0,v,_=>v=.pointer (some ⟨B,0,none⟩)
 |1,v,_=>v=.pointer (some ⟨B,0,none⟩)
 |2,v,_=>v=.pointer (some ⟨B,0,none⟩)
 |3,v,_=>v=.pointer (some ⟨B,51,none⟩)
 |4,v,_=>v=.slice ca j.done.length cc
 |5,v,w=>∃a c,v=.slice a (newestL j.done).length c∧SegW w a (newestL j.done)
 |6,v,_=>v=.pointer (some ⟨B,0,none⟩)
 |7,v,_=>v=.pointer (some ⟨B,0,none⟩)
 |8,v,_=>v=.pointer (some ⟨B,3,none⟩)
 |9,v,_=>v=.pointer (some ⟨B,3,none⟩)
 |10,v,_=>v=.int .i64 j.rh
 |11,v,_=>v=.pointer (some ⟨B,0,none⟩)
 |12,v,_=>v=.pointer (some ⟨B,0,none⟩)
 |13,v,_=>v=.pointer (some ⟨B,5,none⟩)
 |14,v,_=>v=.int .i64 j.last
 |15,v,_=>v=.int .i64 (j.last+1)
 |_,_,_=>True
theorem zri {B:Nat}{ca:Option Addr}{cc:Nat}{j:Jn}{w w':World}(hb:Below w.heap.size w w'){i:Nat}:∀kk uu,kk≠i→zuq B ca cc j kk uu w→zuq B ca cc j kk uu w':=by
 intro kk uu _ h
 match kk,h with
 |0,h|1,h|2,h|3,h|4,h=>exact h
 |5,⟨a,c,h1,h2⟩=>exact⟨a,c,h1,h2.below hb⟩
 |6,h|7,h|8,h|9,h|10,h|11,h|12,h|13,h|14,h|15,h=>exact h
 |_+16,_=>exact trivial
theorem zw4 (B:Nat)(X:List Nat)(j:Jn)(w:World)(h:JAt w B X j)(hX:∀x∈X,x<w.heap.size)(hN:j.done.length≤maxLen)(hwp:IntKind.i64.wrap (j.last+1)=j.last+1):
  Calls Tryz.prog 86 #[.pointer (some ⟨B,0,none⟩)] w (zdc w B X (zgt j)):=by
 have HJ:=zaa h;have hlt:=h.lt;have hBX:=h.1;have HX:=zaa hX;have HWP:=zaa hwp;clear h hX hwp;have hne:¬w.heap.size=B:=by omega
 go_enter Tryz.func86,Tryz.ntmps86;go_wp2_with fail;obtain⟨W1,hW1⟩:∃W1,W1=w.alloc (.cells #[.int .i64 0,.int .i64 0,.string ⟨#[]⟩] 31):=⟨_,rfl⟩;have HJ1:Hid (JAt W1 B (w.heap.size::X) j):=by rw[hW1];exact HJ.o.more (zab _ _) (Nat.le_refl _)
 have HB1:Hid (ButL [B] w.heap.size w W1):=by rw[hW1];exact ButL.of_below (zab _ _)
 have KR:Hid (W1.heap[w.heap.size]?=some (.cells #[.int .i64 0,.int .i64 0,.string ⟨#[]⟩] 31 (0,0))):=by rw[hW1];exact heap_alloc_new _ _
 have hrl:w.heap.size<W1.heap.size:=by rw[hW1];simp
 have hrB:w.heap.size≠B:=by omega
 rw[←hW1];clear hW1;refine(ze8 B (w.heap.size::X) j W1 HJ1.o).mono ?_;rintro e w' ⟨rfl,rfl⟩;by_cases hs:0<j.steps.length
 ·have HE:Hid (zgt j=(j,zav 9)):=by rw[Hid,zgt,if_pos (by intro e;rw[e] at hs;simp at hs)]
  have hs':decide (0<j.steps.length)=true:=by simpa using hs
  rw[hs'];clear hs hs';go_wp2_with fail;refine(zat 9 _).mono ?_;rintro e w2 ⟨rfl,hb2⟩;have KR2:=zaa (zad hb2 hrl KR.o);have HJ2:=zaa (HJ1.o.below hb2);have HB2:=zaa (HB1.o.trans (Y:=[]) (ButL.of_below hb2) HB1.o.size (by simp));clear hb2;obtain⟨⟨y0,y1,y2⟩,yf⟩:=zbj KR2.o;go_wp2;exact zbc HE.o KR2.o HJ2.o HB2.o hrB hBX fun W u0 u1 u2=>by simp[results,Tryz.results86,go_sem,u0,u1,u2]
 ·have hs':decide (0<j.steps.length)=false:=by simpa using hs
  have hs0:j.steps=[]:=List.eq_nil_of_length_eq_zero (by omega);rw[hs'];clear hs hs';obtain⟨_,da,dc,db,dd,na,nc,nb,nd,ne,nf,sa,sc,sb,sd,se,sf,ca,cc,fa,fc,ta,tc,h1,hr⟩:=id HJ1.o;have c51:w'.cell? ⟨B,51,none⟩=some (.slice ca j.done.length cc):=zaj h1 51;have C3:Hid (w'.cell? ⟨B,3,none⟩=some (.int .i64 j.rh)):=zaj h1 3;have C5:Hid (w'.cell? ⟨B,5,none⟩=some (.int .i64 j.last)):=zaj h1 5;have C51:Hid (w'.cell? ⟨B,51,none⟩=some (.slice ca j.done.length cc)):=zaj h1 51;have HSL:=zaa hr.2.2.2.1;clear h1 hr;by_cases hd:j.done=[]
  ·have HE:Hid (zgt j=(j,zav 4)):=by rw[Hid,zgt,if_neg (by simp[hs0]),if_pos hd]
   have hl:j.done.length=0:=by rw[hd];rfl
   clear hd hs0;go_wp2_with fail;refine(zat 4 _).mono ?_;rintro e w2 ⟨rfl,hb2⟩;have KR2:=zaa (zad hb2 hrl KR.o);have HJ2:=zaa (HJ1.o.below hb2);have HB2:=zaa (HB1.o.trans (Y:=[]) (ButL.of_below hb2) HB1.o.size (by simp));clear hb2;obtain⟨⟨y0,y1,y2⟩,yf⟩:=zbj KR2.o;go_wp2;exact zbc HE.o KR2.o HJ2.o HB2.o hrB hBX fun W u0 u1 u2=>by simp[results,Tryz.results86,go_sem,u0,u1,u2]
  ·have HE:Hid (zgt j=((zdr j 7 (newestL j.done) j.rh (j.last+1)).1,zav (zdr j 7 (newestL j.done) j.rh (j.last+1)).2)):=by rw[Hid,zgt,if_neg (by simp[hs0]),if_neg hd]
   have hl:((j.done.length:Int)==0)=false:=by
    have:=mt List.eq_nil_of_length_eq_zero hd;simp only[beq_eq_false_iff_ne];omega
   clear hd hs0;go_wp2;rename_i KK hKK;clear c51 hl;obtain⟨W2,hW2⟩:∃W2,W2=w':=⟨_,rfl⟩;rw[←hW2];subst hW2
   have TAIL:∀(g:Nat→Value) (W3:World) (E:Int),E=(zdr j 7 (newestL j.done) j.rh (j.last+1)).2→JAt W3 B (w.heap.size::X) (zdr j 7 (newestL j.done) j.rh (j.last+1)).1→ButL [B] W2.heap.size W2 W3→W3.heap[w.heap.size]?=some (.cells #[.int .i64 0,.int .i64 0,.string ⟨#[]⟩] 31 (0,0))→KK ⟨#[.pointer (some ⟨B,0,none⟩),g 1,.pointer (some ⟨w.heap.size,0,none⟩),g 3,g 4,g 5,g 6,g 7,g 8,g 9,g 10,g 11,g 12,g 13,g 14,g 15,g 16,g 17,g 18,g 19,g 20,g 21,g 22,g 23,g 24,g 25,g 26,g 27,g 28,g 29,g 30,g 31,g 32],[]⟩ (((W3.setCell ⟨w.heap.size,0,none⟩ (.int .i64 E)).setCell ⟨w.heap.size,1,none⟩ (.int .i64 0)).setCell ⟨w.heap.size,2,none⟩ (.string ⟨#[]⟩)):=by
    intro g W3 E hE hJ hBt hK;apply hKK;clear hKK;have HJ2:=zaa hJ;have HB2:=zaa (HB1.o.trans (Y:=[B]) hBt HB1.o.size (by simp));obtain⟨W,hW⟩:∃W,W=(((W3.setCell ⟨w.heap.size,0,none⟩ (.int .i64 E)).setCell ⟨w.heap.size,1,none⟩ (.int .i64 0)).setCell ⟨w.heap.size,2,none⟩ (.string ⟨#[]⟩)):=⟨_,rfl⟩;have hX:=zfs hK (.int .i64 E) (.int .i64 0) (.string ⟨#[]⟩);rw[←hW] at hX⊢;have HWW:=zaa hW;have HEE:=zaa hE;clear hW hE hK hJ hBt;go_wp2;obtain⟨⟨u0,u1,u2⟩,_⟩:=zbj hX;refine bodyPost_ret (v:=.agg #[.int .i64 E,.int .i64 0,.string ⟨#[]⟩]) (by simp[results,Tryz.results86,go_sem,u0,u1,u2]) rfl ⟨by rw[HE.o,HEE.o];rfl,?_,?_⟩
    ·rw[HE.o,HWW.o]
     exact zwb HJ2.o hrB hBX _ _ _
    ·rw[HWW.o]
     exact((HB2.o.set (.inr (by omega)) 0 _).set (.inr (by omega)) 1 _).set (.inr (by omega)) 2 _
   have HTAIL:=zaa TAIL;clear TAIL hKK;have HJ2:=HJ1;have hBW:B<W2.heap.size:=by omega
   have hwp:=HWP.o
   have HX2:Hid (∀x∈w.heap.size::X,x<W2.heap.size):=fun x hx=>by
    rcases List.mem_cons.1 hx with rfl|hx
    ·exact hrl
    ·have:=HX.o x hx;omega
   refine(show∀A0:Act,A0=_→Code.wp Tryz.prog _ _ A0 _ from fun A0 hA0=>?_) _ rfl;have hsz:A0.tmps.size=33:=by rw[hA0];rfl
   have hdf:A0.defers=[]:=by rw[hA0]
   have v0:A0.eval (.tmp 0)=.pointer (some ⟨B,0,none⟩):=by rw[hA0];rfl
   have v2:A0.eval (.tmp 2)=.pointer (some ⟨w.heap.size,0,none⟩):=by rw[hA0];rfl
   clear hA0;refine zbe 16 (fun w'=>Below W2.heap.size W2 w') [15,16,17,18,19,20,21,22,23,24,25,26,27,28,29,30] (zuq B ca cc j) (by kernel_rfl) (by kernel_rfl) (by kernel_rfl) (by kernel_rfl) (by decide) ((Below.refl _ _).drew) ⟨?_,?_,?_,?_,?_,?_,?_,?_,?_,?_,?_,?_,?_,?_,?_,?_,trivial⟩ ?_
   ·intro a w' hF hR hp
    have z0:=(hF.other 0 rfl).trans v0;exact zak _ rfl rfl (by revert z0;generalize a.eval=ρ;intro z0;simp only[execOp];go_simp) hF hsz hR rfl
   ·intro a w' hF hR hp
    have z0:=(hF.other 0 rfl).trans v0;exact zak _ rfl rfl (by revert z0;generalize a.eval=ρ;intro z0;simp only[execOp];go_simp) hF hsz hR rfl
   ·intro a w' hF hR hp
    have p16:a.eval (.tmp 16)=.pointer (some ⟨B,0,none⟩):=hp ⟨1,.data⟩ (by simp) rfl;exact zak _ rfl rfl (by revert p16;generalize a.eval=ρ;intro p16;simp only[execOp];go_simp) hF hsz hR rfl
   ·intro a w' hF hR hp
    have p17:a.eval (.tmp 17)=.pointer (some ⟨B,0,none⟩):=hp ⟨2,.data⟩ (by simp) rfl;exact zak _ rfl rfl (by revert p17;generalize a.eval=ρ;intro p17;simp only[execOp];go_simp) hF hsz hR rfl
   ·intro a w' hF hR hp
    have p18:a.eval (.tmp 18)=.pointer (some ⟨B,51,none⟩):=hp ⟨3,.data⟩ (by simp) rfl;have c0:w'.cell? ⟨B,51,none⟩=some (.slice ca j.done.length cc):=zac hR hBW C51.o;exact zak _ rfl rfl (by revert p18;generalize a.eval=ρ;intro p18;simp only[execOp];go_simp) hF hsz hR rfl
   ·intro a w' hF hR hp
    have p19:a.eval (.tmp 19)=.slice ca j.done.length cc:=hp ⟨4,.data⟩ (by simp) rfl;refine zbu 126 #[.slice ca j.done.length cc] rfl rfl (by have pf:=Act.eval_func a 126;revert p19 pf;generalize a.eval=ρ;intro p19 pf;simp only[execOp];go_simp) _ (zl3 ca cc j.done _ ((HSL.o.ext (Ext.seenL W2 (w.heap.size::X))).below hR) hN) ?_;rintro e w2 ⟨v7,rfl,hO7,hb7⟩;obtain⟨ya,yc,rfl,hS7,_⟩:=SegC.of_owns hO7;refine⟨_,rfl,_,rfl,zae hR hb7,?_,zri hb7⟩;show zuq _ _ _ _ _ ((a.put (some 20) _).eval (.tmp 20)) w2;rw[zap hF hsz (by decide)];exact⟨ya,yc,rfl,hS7⟩
   ·intro a w' hF hR hp
    have z0:=(hF.other 0 rfl).trans v0;exact zak _ rfl rfl (by revert z0;generalize a.eval=ρ;intro z0;simp only[execOp];go_simp) hF hsz hR rfl
   ·intro a w' hF hR hp
    have p21:a.eval (.tmp 21)=.pointer (some ⟨B,0,none⟩):=hp ⟨6,.data⟩ (by simp) rfl;exact zak _ rfl rfl (by revert p21;generalize a.eval=ρ;intro p21;simp only[execOp];go_simp) hF hsz hR rfl
   ·intro a w' hF hR hp
    have p22:a.eval (.tmp 22)=.pointer (some ⟨B,0,none⟩):=hp ⟨7,.data⟩ (by simp) rfl;exact zak _ rfl rfl (by revert p22;generalize a.eval=ρ;intro p22;simp only[execOp];go_simp) hF hsz hR rfl
   ·intro a w' hF hR hp
    have p23:a.eval (.tmp 23)=.pointer (some ⟨B,3,none⟩):=hp ⟨8,.data⟩ (by simp) rfl;exact zak _ rfl rfl (by revert p23;generalize a.eval=ρ;intro p23;simp only[execOp];go_simp) hF hsz hR rfl
   ·intro a w' hF hR hp
    have p24:a.eval (.tmp 24)=.pointer (some ⟨B,3,none⟩):=hp ⟨9,.data⟩ (by simp) rfl;have c0:w'.cell? ⟨B,3,none⟩=some (.int .i64 j.rh):=zac hR hBW C3.o;exact zak _ rfl rfl (by revert p24;generalize a.eval=ρ;intro p24;simp only[execOp];go_simp) hF hsz hR rfl
   ·intro a w' hF hR hp
    have z0:=(hF.other 0 rfl).trans v0;exact zak _ rfl rfl (by revert z0;generalize a.eval=ρ;intro z0;simp only[execOp];go_simp) hF hsz hR rfl
   ·intro a w' hF hR hp
    have p26:a.eval (.tmp 26)=.pointer (some ⟨B,0,none⟩):=hp ⟨11,.data⟩ (by simp) rfl;exact zak _ rfl rfl (by revert p26;generalize a.eval=ρ;intro p26;simp only[execOp];go_simp) hF hsz hR rfl
   ·intro a w' hF hR hp
    have p27:a.eval (.tmp 27)=.pointer (some ⟨B,0,none⟩):=hp ⟨12,.data⟩ (by simp) rfl;exact zak _ rfl rfl (by revert p27;generalize a.eval=ρ;intro p27;simp only[execOp];go_simp) hF hsz hR rfl
   ·intro a w' hF hR hp
    have p28:a.eval (.tmp 28)=.pointer (some ⟨B,5,none⟩):=hp ⟨13,.data⟩ (by simp) rfl;have c0:w'.cell? ⟨B,5,none⟩=some (.int .i64 j.last):=zac hR hBW C5.o;exact zak _ rfl rfl (by revert p28;generalize a.eval=ρ;intro p28;simp only[execOp];go_simp) hF hsz hR rfl
   ·intro a w' hF hR hp
    have p29:a.eval (.tmp 29)=.int .i64 j.last:=hp ⟨14,.data⟩ (by simp) rfl;exact zak _ rfl rfl (by have pc0:=Act.eval_const a (.int .i64 1);revert p29 pc0;generalize a.eval=ρ;intro p29 pc0;simp only[execOp];go_simp) hF hsz hR rfl
   ·intro a W hF hR hp
    have p15:a.eval (.tmp 15)=.pointer (some ⟨B,0,none⟩):=hp 0 (by decide);obtain⟨ya,yc,p20,hS7⟩:∃ya yc,a.eval (.tmp 20)=.slice ya (newestL j.done).length yc∧SegW W ya (newestL j.done):=hp 5 (by decide);have p25:a.eval (.tmp 25)=.int .i64 j.rh:=hp 10 (by decide);have p30:a.eval (.tmp 30)=.int .i64 (j.last+1):=hp 15 (by decide);show wpOps Tryz.prog _ _ [16,17,18] a W;rw[wpOps_cons];refine zbu 77 #[.pointer (some ⟨B,0,none⟩),.int .i64 7,.slice ya (newestL j.done).length yc,.int .i64 j.rh,.int .i64 (j.last+1)] rfl rfl (by have pf:=Act.eval_func a 77;have pc0:=Act.eval_const a (.int .i64 7);revert p15 p20 p25 p30 pf pc0;generalize a.eval=ρ;intro p15 p20 p25 p30 pf pc0;simp only[execOp];go_simp) _ (zqp B (w.heap.size::X) j W (HJ2.o.below hR) (fun x hx=>Nat.lt_of_lt_of_le (HX2.o x hx) (by have:=hR.size;omega)) 7 ya yc (newestL j.done) hS7 (by have:=zeb (newestF j.done) 12;unfold newestL;omega) j.rh (j.last+1)) ?_;rintro e w5 ⟨rfl,hJ5,hB5⟩;refine⟨_,rfl,?_⟩;rw[wpOps_cons];have hsa:a.tmps.size=33:=hF.size.trans hsz;obtain⟨E,hEE⟩:∃E,E=(zdr j 7 (newestL j.done) j.rh (j.last+1)).2:=⟨_,rfl⟩;obtain⟨a1,ha1⟩:∃a1,a1=a.put (some 31) (.int .i64 E):=⟨_,rfl⟩;have q31:a1.eval (.tmp 31)=.int .i64 E:=by rw[ha1];exact Act.eval_put_same _ _ _ (by rw[hsa];decide)
    have hs1a:a1.tmps.size=33:=by rw[ha1,Act.size_put];exact hsa
    have hd1a:a1.defers=[]:=by rw[ha1,Act.defers_put'];exact hF.defers.trans hdf
    have o0:a1.eval (.tmp 0)=.pointer (some ⟨B,0,none⟩):=by rw[ha1,Act.eval_put_ne _ _ _ _ (by decide)];exact(hF.other 0 rfl).trans v0
    have o2:a1.eval (.tmp 2)=.pointer (some ⟨w.heap.size,0,none⟩):=by rw[ha1,Act.eval_put_ne _ _ _ _ (by decide)];exact(hF.other 2 rfl).trans v2
    rw[←hEE];show wpOp Tryz.prog _ _ _ _ (a.put (some 31) (.int .i64 E)) w5;rw[←ha1];clear ha1;refine zbu 43 #[.int .i64 E] rfl rfl (by have pf:=Act.eval_func a1 43;revert q31 pf;generalize a1.eval=ρ;intro q31 pf;simp only[execOp];go_simp) _ (zat E w5) ?_;rintro e w6 ⟨rfl,hb6⟩;refine⟨_,rfl,?_⟩;rw[wpOps_cons];obtain⟨a2,ha2⟩:∃a2,a2=a1.put (some 32) (.agg #[.int .i64 E,.int .i64 0,.string ⟨#[]⟩]):=⟨_,rfl⟩;have q32:a2.eval (.tmp 32)=.agg #[.int .i64 E,.int .i64 0,.string ⟨#[]⟩]:=by rw[ha2];exact Act.eval_put_same _ _ _ (by rw[hs1a];decide)
    have f0:a2.eval (.tmp 0)=.pointer (some ⟨B,0,none⟩):=by rw[ha2,Act.eval_put_ne _ _ _ _ (by decide)];exact o0
    have f2:a2.eval (.tmp 2)=.pointer (some ⟨w.heap.size,0,none⟩):=by rw[ha2,Act.eval_put_ne _ _ _ _ (by decide)];exact o2
    have hs2a:a2.tmps.size=33:=by rw[ha2,Act.size_put];exact hs1a
    have hd2a:a2.defers=[]:=by rw[ha2,Act.defers_put'];exact hd1a
    show wpOp Tryz.prog _ _ _ _ (a1.put (some 32) (.agg #[.int .i64 E,.int .i64 0,.string ⟨#[]⟩])) w6;rw[←ha2];clear ha2;have hB25:ButL [B] W2.heap.size W2 w5:=(ButL.of_below hR).trans (Y:=[B]) hB5 hR.size (by simp);have hs5:W2.heap.size≤w5.heap.size:=hB25.size;have hKR6:=zad hb6 (show w.heap.size<w5.heap.size by omega) ((hB25.block _ hrl (by simpa using hrB)).trans KR.o);obtain⟨⟨y0,y1,y2⟩,yf⟩:=zbj hKR6;refine zco rfl rfl (w':=(((w6.setCell ⟨w.heap.size,0,none⟩ (.int .i64 E)).setCell ⟨w.heap.size,1,none⟩ (.int .i64 0)).setCell ⟨w.heap.size,2,none⟩ (.string ⟨#[]⟩))) (by revert q32 f2;generalize a2.eval=ρ;intro q32 f2;simp only[execOp];go_simp) ?_;have hlit:a2=⟨#[_,_,_,_,_,_,_,_,_,_,_,_,_,_,_,_,_,_,_,_,_,_,_,_,_,_,_,_,_,_,_,_,_],[]⟩:=zcj a2 33 hs2a hd2a;dsimp only at hlit;rw[f0,f2] at hlit;show KK a2 _;refine(congrArg (fun x=>KK x _) hlit).mpr (HTAIL.o (fun k=>a2.eval (.tmp k)) w6 E hEE (hJ5.below hb6) (hB25.trans (Y:=[]) (ButL.of_below hb6) hB25.size (by simp)) hKR6)
def zfz (B:Nat)(D:Nat)(j:Jn)(ac:Ac)(X:List Nat)(na:Option Addr)(nc:Nat)(nb:Option Addr)(nd:Nat)(ne:Option Addr)(nf:Nat):Nat→Value→Value→World→Prop
 |0,v,_,_=>v=.pointer (some ⟨B,0,none⟩)
 |1,v,_,_=>v=.pointer (some ⟨B,0,none⟩)
 |2,v,_,_=>v=.pointer (some ⟨B,31,none⟩)
 |3,v,_,_=>v=.agg #[.int .i64 j.now.seq,.slice na j.now.info.length nc,.slice nb j.now.data.length nd,.slice ne j.now.rev.length nf,.bool j.now.h0.on,.int .i64 j.now.h0.left,.bool j.now.h1.on,.int .i64 j.now.h1.left,.bool j.now.h2.on,.int .i64 j.now.h2.left]
 |4,v,_,_=>v=.pointer (some ⟨D,1,none⟩)
 |5,v,_,_=>v=.int .i64 ac.h
 |6,v,_,_=>v=.pointer (some ⟨D,2,none⟩)
 |7,v,_,_=>v=.int .i64 ac.b
 |8,v,_,_=>v=.pointer (some ⟨D,4,none⟩)
 |9,v,_,_=>v=.string ac.text
 |10,v,_,_=>v=.string (fitT ac.text)
 |11,v,u,w=>∃v2,v=.tuple #[v2,.int .i64 (changeE j.now ac.h ac.b (fitT ac.text))]∧okTx X (zaf j.now ac.h ac.b (fitT ac.text)) v2 u w
 |12,v,u,w=>∃v2,v=.tuple #[v2,.int .i64 (changeE j.now ac.h ac.b (fitT ac.text))]∧okTx X (zaf j.now ac.h ac.b (fitT ac.text)) v2 u w
 |13,v,u,w=>okTx X (zaf j.now ac.h ac.b (fitT ac.text)) v u w
 |14,v,_,_=>v=.int .i64 (changeE j.now ac.h ac.b (fitT ac.text))
 |15,v,_,_=>∃T,v=.pointer (some ⟨T,0,none⟩)
 |16,v,_,w=>∃T ua uc ub ud ue uf,v=.pointer (some ⟨T,0,none⟩)∧w.heap[T]?=some (.cells #[.int .i64 (zaf j.now ac.h ac.b (fitT ac.text)).seq,.slice ua (zaf j.now ac.h ac.b (fitT ac.text)).info.length uc,.slice ub (zaf j.now ac.h ac.b (fitT ac.text)).data.length ud,.slice ue (zaf j.now ac.h ac.b (fitT ac.text)).rev.length uf,.bool (zaf j.now ac.h ac.b (fitT ac.text)).h0.on,.int .i64 (zaf j.now ac.h ac.b (fitT ac.text)).h0.left,.bool (zaf j.now ac.h ac.b (fitT ac.text)).h1.on,.int .i64 (zaf j.now ac.h ac.b (fitT ac.text)).h1.left,.bool (zaf j.now ac.h ac.b (fitT ac.text)).h2.on,.int .i64 (zaf j.now ac.h ac.b (fitT ac.text)).h2.left] 40 (0,0))∧IsTx (zar w (T::X)) (.agg #[.int .i64 (zaf j.now ac.h ac.b (fitT ac.text)).seq,.slice ua (zaf j.now ac.h ac.b (fitT ac.text)).info.length uc,.slice ub (zaf j.now ac.h ac.b (fitT ac.text)).data.length ud,.slice ue (zaf j.now ac.h ac.b (fitT ac.text)).rev.length uf,.bool (zaf j.now ac.h ac.b (fitT ac.text)).h0.on,.int .i64 (zaf j.now ac.h ac.b (fitT ac.text)).h0.left,.bool (zaf j.now ac.h ac.b (fitT ac.text)).h1.on,.int .i64 (zaf j.now ac.h ac.b (fitT ac.text)).h1.left,.bool (zaf j.now ac.h ac.b (fitT ac.text)).h2.on,.int .i64 (zaf j.now ac.h ac.b (fitT ac.text)).h2.left]) (zaf j.now ac.h ac.b (fitT ac.text))∧RoomTx (.agg #[.int .i64 (zaf j.now ac.h ac.b (fitT ac.text)).seq,.slice ua (zaf j.now ac.h ac.b (fitT ac.text)).info.length uc,.slice ub (zaf j.now ac.h ac.b (fitT ac.text)).data.length ud,.slice ue (zaf j.now ac.h ac.b (fitT ac.text)).rev.length uf,.bool (zaf j.now ac.h ac.b (fitT ac.text)).h0.on,.int .i64 (zaf j.now ac.h ac.b (fitT ac.text)).h0.left,.bool (zaf j.now ac.h ac.b (fitT ac.text)).h1.on,.int .i64 (zaf j.now ac.h ac.b (fitT ac.text)).h1.left,.bool (zaf j.now ac.h ac.b (fitT ac.text)).h2.on,.int .i64 (zaf j.now ac.h ac.b (fitT ac.text)).h2.left])
 |_,_,_,_=>True
theorem zl6 {B:Nat}{D:Nat}{j:Jn}{ac:Ac}{X:List Nat}{na:Option Addr}{nc:Nat}{nb:Option Addr}{nd:Nat}{ne:Option Addr}{nf:Nat}{u:Value}{w w':World}(hb:Below w.heap.size w w'):∀kk x,zfz B D j ac X na nc nb nd ne nf kk x u w→zfz B D j ac X na nc nb nd ne nf kk x u w':=by
 intro kk x h
 match kk,h with
 |0,h|1,h|2,h|3,h|4,h|5,h|6,h|7,h|8,h|9,h|10,h=>exact h
 |11,⟨v2,h1,h2⟩=>exact⟨v2,h1,h2.below hb⟩
 |12,⟨v2,h1,h2⟩=>exact⟨v2,h1,h2.below hb⟩
 |13,h=>exact h.below hb
 |14,h|15,h=>exact h
 |16,⟨T,ua,uc,ub,ud,ue,uf,h1,h2,h3,h4⟩=>exact⟨T,ua,uc,ub,ud,ue,uf,h1,zad hb (Array.getElem?_eq_some_iff.1 h2).1 h2,h3.ext (Ext.freshL hb),h4⟩
 |_+17,_=>exact trivial
theorem zto {B:Nat}{D:Nat}{j:Jn}{ac:Ac}{X:List Nat}{na:Option Addr}{nc:Nat}{nb:Option Addr}{nd:Nat}{ne:Option Addr}{nf:Nat}{u:Value}{w:World}(o:Obj):∀kk x,zfz B D j ac X na nc nb nd ne nf kk x u w→zfz B D j ac X na nc nb nd ne nf kk x (.pointer (some ⟨w.heap.size,0,none⟩)) (w.alloc o):=by
 intro kk x h
 match kk,h with
 |0,h|1,h|2,h|3,h|4,h|5,h|6,h|7,h|8,h|9,h|10,h=>exact h
 |11,⟨v2,h1,h2⟩=>exact⟨v2,h1,h2.alloc o⟩
 |12,⟨v2,h1,h2⟩=>exact⟨v2,h1,h2.alloc o⟩
 |13,h=>exact h.alloc o
 |14,h|15,h=>exact h
 |16,⟨T,ua,uc,ub,ud,ue,uf,h1,h2,h3,h4⟩=>exact⟨T,ua,uc,ub,ud,ue,uf,h1,zad (zab _ _) (Array.getElem?_eq_some_iff.1 h2).1 h2,h3.ext (Ext.freshL (zab _ _)),h4⟩
 |_+17,_=>exact trivial
theorem ztp {B:Nat}{D:Nat}{j:Jn}{ac:Ac}{X:List Nat}{na:Option Addr}{nc:Nat}{nb:Option Addr}{nd:Nat}{ne:Option Addr}{nf:Nat}{u:Value}{w w':World}(hs:∀t x,okTx X t x u w→okTx X t x u w'):∀kk x,kk≠16→zfz B D j ac X na nc nb nd ne nf kk x u w→zfz B D j ac X na nc nb nd ne nf kk x u w':=by
 intro kk x hk h
 match kk,h with
 |0,h|1,h|2,h|3,h|4,h|5,h|6,h|7,h|8,h|9,h|10,h=>exact h
 |11,⟨y,h1,h2⟩=>exact⟨y,h1,hs _ _ h2⟩
 |12,⟨y,h1,h2⟩=>exact⟨y,h1,hs _ _ h2⟩
 |13,h=>exact hs _ _ h
 |14,h|15,h=>exact h
 |16,_=>exact absurd rfl hk
 |_+17,_=>exact trivial
theorem zw5 (B:Nat)(X:List Nat)(j:Jn)(w:World)(h:JAt w B X j)(hX:∀x∈X,x<w.heap.size)(ac:Ac)(hsz2:ac.text.size≤maxLen)(r1:j.now.info.length*24≤140737488355328)(r2:j.now.data.length*24≤140737488355328):
  Calls Tryz.prog 82 #[.pointer (some ⟨B,0,none⟩),.agg #[.int .i64 ac.kind,.int .i64 ac.h,.int .i64 ac.b,.int .i64 ac.n,.string ac.text]] w (zdc w B X (zgs j ac)):=by
 have HJ:=zaa h;have hlt:=h.lt;have hBX:=h.1;have HX:=zaa hX;clear h hX;go_enter Tryz.func82,Tryz.ntmps82;go_wp2;rename_i KK hKK;obtain⟨W2,hW2⟩:∃W2,W2=(w.alloc (.cells #[.int .i64 ac.kind,.int .i64 ac.h,.int .i64 ac.b,.int .i64 ac.n,.string ac.text] 23)).alloc (.cells #[.int .i64 0,.int .i64 0,.string ⟨#[]⟩] 31):=⟨_,rfl⟩;have hz1:(w.alloc (.cells #[.int .i64 ac.kind,.int .i64 ac.h,.int .i64 ac.b,.int .i64 ac.n,.string ac.text] 23)).heap.size=w.heap.size+1:=by simp
 have HJ2:Hid (JAt W2 B ((w.heap.size+1)::X) j):=by rw[hW2];exact(HJ.o.below (zab _ _)).more (zab _ _) (by omega)
 have HB2:Hid (Below w.heap.size w W2):=by rw[hW2];exact zae (zab _ _) (zab _ _)
 have KR2:Hid (W2.heap[w.heap.size+1]?=some (.cells #[.int .i64 0,.int .i64 0,.string ⟨#[]⟩] 31 (0,0))):=by rw[hW2,←hz1];exact heap_alloc_new _ _
 have KA2:Hid (W2.heap[w.heap.size]?=some (.cells #[.int .i64 ac.kind,.int .i64 ac.h,.int .i64 ac.b,.int .i64 ac.n,.string ac.text] 23 (0,0))):=by rw[hW2];exact zad (zab _ _) (by omega) (heap_alloc_new _ _)
 have hs2:W2.heap.size=w.heap.size+2:=by rw[hW2];simp
 have HX2:Hid (∀x∈((w.heap.size+1)::X),x<W2.heap.size):=fun x hx=>by
  rcases List.mem_cons.1 hx with rfl|hx
  ·omega
  ·have:=HX.o x hx;omega
 rw[←hW2];clear hW2 hz1;have hBW:B<W2.heap.size:=by omega
 have hAW:w.heap.size<W2.heap.size:=by omega
 have TAIL:∀(g:Nat→Value) (W3:World) (T:Nat) (ua:Option Addr) (uc:Nat) (ub:Option Addr) (ud:Nat) (ue:Option Addr) (uf:Nat),IsTx (zar W3 (T::((w.heap.size+1)::X))) (.agg #[.int .i64 (zaf j.now ac.h ac.b (fitT ac.text)).seq,.slice ua (zaf j.now ac.h ac.b (fitT ac.text)).info.length uc,.slice ub (zaf j.now ac.h ac.b (fitT ac.text)).data.length ud,.slice ue (zaf j.now ac.h ac.b (fitT ac.text)).rev.length uf,.bool (zaf j.now ac.h ac.b (fitT ac.text)).h0.on,.int .i64 (zaf j.now ac.h ac.b (fitT ac.text)).h0.left,.bool (zaf j.now ac.h ac.b (fitT ac.text)).h1.on,.int .i64 (zaf j.now ac.h ac.b (fitT ac.text)).h1.left,.bool (zaf j.now ac.h ac.b (fitT ac.text)).h2.on,.int .i64 (zaf j.now ac.h ac.b (fitT ac.text)).h2.left]) (zaf j.now ac.h ac.b (fitT ac.text))→RoomTx (.agg #[.int .i64 (zaf j.now ac.h ac.b (fitT ac.text)).seq,.slice ua (zaf j.now ac.h ac.b (fitT ac.text)).info.length uc,.slice ub (zaf j.now ac.h ac.b (fitT ac.text)).data.length ud,.slice ue (zaf j.now ac.h ac.b (fitT ac.text)).rev.length uf,.bool (zaf j.now ac.h ac.b (fitT ac.text)).h0.on,.int .i64 (zaf j.now ac.h ac.b (fitT ac.text)).h0.left,.bool (zaf j.now ac.h ac.b (fitT ac.text)).h1.on,.int .i64 (zaf j.now ac.h ac.b (fitT ac.text)).h1.left,.bool (zaf j.now ac.h ac.b (fitT ac.text)).h2.on,.int .i64 (zaf j.now ac.h ac.b (fitT ac.text)).h2.left])→W3.heap[T]?=some (.cells #[.int .i64 (zaf j.now ac.h ac.b (fitT ac.text)).seq,.slice ua (zaf j.now ac.h ac.b (fitT ac.text)).info.length uc,.slice ub (zaf j.now ac.h ac.b (fitT ac.text)).data.length ud,.slice ue (zaf j.now ac.h ac.b (fitT ac.text)).rev.length uf,.bool (zaf j.now ac.h ac.b (fitT ac.text)).h0.on,.int .i64 (zaf j.now ac.h ac.b (fitT ac.text)).h0.left,.bool (zaf j.now ac.h ac.b (fitT ac.text)).h1.on,.int .i64 (zaf j.now ac.h ac.b (fitT ac.text)).h1.left,.bool (zaf j.now ac.h ac.b (fitT ac.text)).h2.on,.int .i64 (zaf j.now ac.h ac.b (fitT ac.text)).h2.left] 40 (0,0))→W2.heap.size≤T→Below W2.heap.size W2 W3→KK ⟨#[.pointer (some ⟨B,0,none⟩),g 1,g 2,.pointer (some ⟨w.heap.size,0,none⟩),.pointer (some ⟨w.heap.size+1,0,none⟩),.pointer (some ⟨T,0,none⟩),.int .i64 (changeE j.now ac.h ac.b (fitT ac.text)),g 7,g 8,g 9,g 10,g 11,g 12,g 13,g 14,g 15,g 16,g 17,g 18,g 19,g 20,g 21,g 22,g 23,g 24,g 25,g 26,g 27,g 28,g 29,g 30,g 31,g 32,g 33,g 34,g 35,g 36,g 37,g 38,g 39,g 40,g 41,g 42,g 43,g 44],[]⟩ W3:=by
  intro g W3 T ua uc ub ud ue uf hIT hRT hTb hT1 hb3;apply hKK;clear hKK;have HIT:=zaa (hIT.ext (Ext.lessL T));have HRT:=zaa hRT;have KT:=zaa hTb;have HJ3:=zaa (HJ2.o.below hb3);have HB3:=zaa (zae HB2.o hb3);have KR3:=zaa (zad hb3 (show w.heap.size+1<W2.heap.size by omega) KR2.o);have KA3:=zaa (zad hb3 hAW KA2.o);have hs3:W2.heap.size≤W3.heap.size:=hb3.size;have hTl:T<W3.heap.size:=(Array.getElem?_eq_some_iff.1 hTb).1;clear hIT hRT hTb hb3 HJ2 HB2 KR2 KA2;obtain⟨t,ht⟩:∃t,t=zaf j.now ac.h ac.b (fitT ac.text):=⟨_,rfl⟩;rw[←ht] at HIT HRT KT;have hrB:w.heap.size+1≠B:=by omega
  by_cases he:changeE j.now ac.h ac.b (fitT ac.text)=0
  ·obtain⟨hb0,hb1⟩:=zq2 he
   obtain⟨bn,hbn⟩:∃bn:Nat,ac.b=(bn:Int):=⟨ac.b.toNat,by omega⟩;have hb12:bn<12:=by omega
   have HW:Hid (zgs j ac=if j.role bn=2 then(j,zav 8) else({j with role:=upd j.role bn 1,now:=t},zav 0)):=by
    rw[Hid,zgs,if_pos he,←ht,hbn,Int.toNat_natCast]
   rw[he];rw[hbn] at KA3;clear he ht hbn hb0 hb1;obtain⟨⟨y0,y1,y2,y3,y4⟩,yf⟩:=zie KA3.o;have hbi0:(0:Int)≤(bn:Int):=by omega
   have hbi1:(bn:Int)<12:=by omega
   go_wp2
   go_quiet (fail)
   obtain⟨W5,hW5⟩:∃W5,W5=W3.drewN nq:=⟨_,rfl⟩;have hbd:Below W3.heap.size W3 W5:=by rw[hW5];exact below_drewN (Below.refl _ _) _
   have HJ5:=zaa (HJ3.o.below hbd);have HB5:Hid (ButL [B] w.heap.size w W5):=ButL.of_below (zae HB3.o hbd);have KR5:=zaa (zad hbd (show w.heap.size+1<W3.heap.size by omega) KR3.o);have KT5:=zaa (zad hbd hTl KT.o);have HIT5:=zaa (HIT.o.ext (Ext.freshL hbd));have hs5:W3.heap.size≤W5.heap.size:=hbd.size;rw[←hW5];clear hW5 hbd y0 y1 y2 y3 y4 yf HJ3 HB3 KR3 KT HIT KA3;obtain⟨rr0,_,rf0,_⟩:=HJ5.o.role bn hb12;by_cases hro:j.role bn=2
   ·have HE:Hid (zgs j ac=(j,zav 8)):=by rw[Hid,HW.o,if_pos hro]
    rw[hro] at rr0;clear hro HW;go_wp2_with fail;have HJ1:=HJ5;have HB1:=HB5;have KR:=KR5;have hrl:w.heap.size+1<W5.heap.size:=by omega
    refine(zat 8 _).mono ?_;rintro e w2 ⟨rfl,hb2⟩;have KR2:=zaa (zad hb2 hrl KR.o);have HJ2:=zaa (HJ1.o.below hb2);have HB2:=zaa (HB1.o.trans (Y:=[]) (ButL.of_below hb2) HB1.o.size (by simp));clear hb2;obtain⟨⟨y0,y1,y2⟩,yf⟩:=zbj KR2.o;go_wp2;exact zbc HE.o KR2.o HJ2.o HB2.o hrB hBX fun W u0 u1 u2=>by simp[results,Tryz.results82,go_sem,u0,u1,u2]
   ·have HE:Hid (zgs j ac=({j with role:=upd j.role bn 1,now:=t},zav 0)):=by rw[Hid,HW.o,if_neg hro]
    have hro':(j.role bn==2)=false:=by simpa using hro
    clear hro HW;obtain⟨⟨t0,t1,t2,t3,t4,t5,t6,t7,t8,t9⟩,tf⟩:=zai KT5.o;have hTB:¬T=B:=by omega
    have hBT:¬B=T:=by omega
    go_wp2_with fail;obtain⟨W6,hW6⟩:∃W6,W6=W5.setCell ⟨B,7+bn*2,none⟩ (.int .i64 1):=⟨_,rfl⟩;have HJ6:Hid (JAt W6 B ((w.heap.size+1)::X) {j with role:=upd j.role bn 1}):=by rw[hW6];exact HJ5.o.putRole bn hb12 1
    have HIT6:Hid (IsTx (zar W6 ((w.heap.size+1)::X)) (.agg #[.int .i64 t.seq,.slice ua t.info.length uc,.slice ub t.data.length ud,.slice ue t.rev.length uf,.bool t.h0.on,.int .i64 t.h0.left,.bool t.h1.on,.int .i64 t.h1.left,.bool t.h2.on,.int .i64 t.h2.left]) t):=by rw[hW6];exact HIT5.o.ext (Ext.setL (by simp[hBX]) _ _)
    have HB6:Hid (ButL [B] w.heap.size w W6):=by rw[hW6];exact HB5.o.set (.inl (by simp)) _ _
    have KR6:Hid (W6.heap[w.heap.size+1]?=some (.cells #[.int .i64 0,.int .i64 0,.string ⟨#[]⟩] 31 (0,0))):=by rw[hW6];exact(Below.heap_setCell _ _ _ _ hrB).trans KR5.o
    have hs6:W6.heap.size=W5.heap.size:=by rw[hW6];simp[World.setCell]
    rw[←hW6];clear hW6 rr0 rf0 t0 t1 t2 t3 t4 t5 t6 t7 t8 t9 tf HJ5 HIT5 HB5 KR5 KT5;refine(zi7 B ((w.heap.size+1)::X) _ W6 HJ6.o t ua uc ub ud ue uf HIT6.o HRT.o 0).mono ?_;rintro e w2 ⟨rfl,hJ2,hB2⟩;have HJ2:Hid (JAt w2 B ((w.heap.size+1)::X) {j with role:=upd j.role bn 1,now:=t}):=hJ2;have HB2:=zaa (HB6.o.trans (Y:=[B]) hB2 HB6.o.size (by simp));have KR2:=zaa ((hB2.block _ (show w.heap.size+1<W6.heap.size by omega) (by simpa using hrB)).trans KR6.o);clear hJ2 hB2 HJ6 HB6 KR6 HIT6;dsimp only[zmh,vRp,zav];obtain⟨⟨y0,y1,y2⟩,yf⟩:=zbj KR2.o;go_wp2;exact zbc HE.o KR2.o HJ2.o HB2.o hrB hBX fun W u0 u1 u2=>by simp[results,Tryz.results82,go_sem,u0,u1,u2]
  ·have HE:Hid (zgs j ac=(j,zav (changeE j.now ac.h ac.b (fitT ac.text)))):=by rw[Hid,zgs,if_neg he]
   have he':(changeE j.now ac.h ac.b (fitT ac.text) !=0)=true:=by simpa using he
   clear he ht;generalize changeE j.now ac.h ac.b (fitT ac.text)=E at *;go_wp2_with fail;have HJ1:=HJ3;have HB1:Hid (ButL [B] w.heap.size w W3):=ButL.of_below HB3.o;have KR:=KR3;have hrl:w.heap.size+1<W3.heap.size:=by omega
   refine(zat E _).mono ?_;rintro e w2 ⟨rfl,hb2⟩;have KR2:=zaa (zad hb2 hrl KR.o);have HJ2:=zaa (HJ1.o.below hb2);have HB2:=zaa (HB1.o.trans (Y:=[]) (ButL.of_below hb2) HB1.o.size (by simp));clear hb2;obtain⟨⟨y0,y1,y2⟩,yf⟩:=zbj KR2.o;go_wp2;exact zbc HE.o KR2.o HJ2.o HB2.o hrB hBX fun W u0 u1 u2=>by simp[results,Tryz.results82,go_sem,u0,u1,u2]
 have HTAIL:=zaa TAIL;clear TAIL hKK;obtain⟨_,da,dc,db,dd,na,nc,nb,nd,ne,nf,sa,sc,sb,sd,se,sf,ca,cc,fa,fc,ta,tc,h1,hr⟩:=id HJ2.o;have c31:W2.cell? ⟨B,31,none⟩=some (.int .i64 j.now.seq):=zaj h1 31;have c32:W2.cell? ⟨B,32,none⟩=some (.slice na j.now.info.length nc):=zaj h1 32;have c33:W2.cell? ⟨B,33,none⟩=some (.slice nb j.now.data.length nd):=zaj h1 33;have c34:W2.cell? ⟨B,34,none⟩=some (.slice ne j.now.rev.length nf):=zaj h1 34;have c35:W2.cell? ⟨B,35,none⟩=some (.bool j.now.h0.on):=zaj h1 35;have c36:W2.cell? ⟨B,36,none⟩=some (.int .i64 j.now.h0.left):=zaj h1 36;have c37:W2.cell? ⟨B,37,none⟩=some (.bool j.now.h1.on):=zaj h1 37;have c38:W2.cell? ⟨B,38,none⟩=some (.int .i64 j.now.h1.left):=zaj h1 38;have c39:W2.cell? ⟨B,39,none⟩=some (.bool j.now.h2.on):=zaj h1 39;have c40:W2.cell? ⟨B,40,none⟩=some (.int .i64 j.now.h2.left):=zaj h1 40;have C31:=zaa c31;have C32:=zaa c32;have C33:=zaa c33;have C34:=zaa c34;have C35:=zaa c35;have C36:=zaa c36;have C37:=zaa c37;have C38:=zaa c38;have C39:=zaa c39;have C40:=zaa c40;have HTN:=zaa hr.2.1;have HRN:=zaa hr.2.2.2.2.2.2.1;clear h1 hr c31 c32 c33 c34 c35 c36 c37 c38 c39 c40;obtain⟨⟨y0,y1,y2,y3,y4⟩,_⟩:=zie KA2.o;have A0:=zaa y0;have A1:=zaa y1;have A2:=zaa y2;have A3:=zaa y3;have A4:=zaa y4;clear y0 y1 y2 y3 y4;refine(show∀A0:Act,A0=_→Code.wp Tryz.prog _ _ A0 _ from fun A0 hA0=>?_) _ rfl;have hsz:A0.tmps.size=45:=by rw[hA0];rfl
 have hdf:A0.defers=[]:=by rw[hA0]
 have v0:A0.eval (.tmp 0)=.pointer (some ⟨B,0,none⟩):=by rw[hA0];rfl
 have v3:A0.eval (.tmp 3)=.pointer (some ⟨w.heap.size,0,none⟩):=by rw[hA0];rfl
 have v4:A0.eval (.tmp 4)=.pointer (some ⟨w.heap.size+1,0,none⟩):=by rw[hA0];rfl
 have v5:A0.eval (.tmp 5)=undef:=by rw[hA0];rfl
 clear hA0;refine zc7 17 5 (zl2 W2) [9,10,11,12,13,14,15,16,17,18,19,20,8,21,22,5,5] (zfz B w.heap.size j ac ((w.heap.size+1)::X) na nc nb nd ne nf) (by kernel_rfl) (by kernel_rfl) (by kernel_rfl) (by kernel_rfl) (by decide) (⟨(Below.refl _ _).drew,.inl v5⟩) ⟨?_,?_,?_,?_,?_,?_,?_,?_,?_,?_,?_,?_,?_,?_,?_,?_,?_,trivial⟩ ?_
 ·intro a w' hF hR hp
  have z0:=(hF.other 0 rfl).trans v0;exact zbw _ rfl rfl (by revert z0;generalize a.eval=ρ;intro z0;simp only[execOp];go_simp) hF hsz hR rfl
 ·intro a w' hF hR hp
  have p9:a.eval (.tmp 9)=.pointer (some ⟨B,0,none⟩):=hp ⟨0,.data⟩ (by simp) rfl;exact zbw _ rfl rfl (by revert p9;generalize a.eval=ρ;intro p9;simp only[execOp];go_simp) hF hsz hR rfl
 ·intro a w' hF hR hp
  have p10:a.eval (.tmp 10)=.pointer (some ⟨B,0,none⟩):=hp ⟨1,.data⟩ (by simp) rfl;exact zbw _ rfl rfl (by revert p10;generalize a.eval=ρ;intro p10;simp only[execOp];go_simp) hF hsz hR rfl
 ·intro a w' hF hR hp
  have p11:a.eval (.tmp 11)=.pointer (some ⟨B,31,none⟩):=hp ⟨2,.data⟩ (by simp) rfl;have c0:w'.cell? ⟨B,31,none⟩=some (.int .i64 j.now.seq):=zac hR.1 hBW C31.o;have c1:w'.cell? ⟨B,32,none⟩=some (.slice na j.now.info.length nc):=zac hR.1 hBW C32.o;have c2:w'.cell? ⟨B,33,none⟩=some (.slice nb j.now.data.length nd):=zac hR.1 hBW C33.o;have c3:w'.cell? ⟨B,34,none⟩=some (.slice ne j.now.rev.length nf):=zac hR.1 hBW C34.o;have c4:w'.cell? ⟨B,35,none⟩=some (.bool j.now.h0.on):=zac hR.1 hBW C35.o;have c5:w'.cell? ⟨B,36,none⟩=some (.int .i64 j.now.h0.left):=zac hR.1 hBW C36.o;have c6:w'.cell? ⟨B,37,none⟩=some (.bool j.now.h1.on):=zac hR.1 hBW C37.o;have c7:w'.cell? ⟨B,38,none⟩=some (.int .i64 j.now.h1.left):=zac hR.1 hBW C38.o;have c8:w'.cell? ⟨B,39,none⟩=some (.bool j.now.h2.on):=zac hR.1 hBW C39.o;have c9:w'.cell? ⟨B,40,none⟩=some (.int .i64 j.now.h2.left):=zac hR.1 hBW C40.o;exact zbw _ rfl rfl (by revert p11;generalize a.eval=ρ;intro p11;simp only[execOp];go_simp) hF hsz hR rfl
 ·intro a w' hF hR hp
  have z3:=(hF.other 3 rfl).trans v3;exact zbw _ rfl rfl (by revert z3;generalize a.eval=ρ;intro z3;simp only[execOp];go_simp) hF hsz hR rfl
 ·intro a w' hF hR hp
  have p13:a.eval (.tmp 13)=.pointer (some ⟨w.heap.size,1,none⟩):=hp ⟨4,.data⟩ (by simp) rfl;have c0:w'.cell? ⟨w.heap.size,1,none⟩=some (.int .i64 ac.h):=zac hR.1 hAW A1.o;exact zbw _ rfl rfl (by revert p13;generalize a.eval=ρ;intro p13;simp only[execOp];go_simp) hF hsz hR rfl
 ·intro a w' hF hR hp
  have z3:=(hF.other 3 rfl).trans v3;exact zbw _ rfl rfl (by revert z3;generalize a.eval=ρ;intro z3;simp only[execOp];go_simp) hF hsz hR rfl
 ·intro a w' hF hR hp
  have p15:a.eval (.tmp 15)=.pointer (some ⟨w.heap.size,2,none⟩):=hp ⟨6,.data⟩ (by simp) rfl;have c0:w'.cell? ⟨w.heap.size,2,none⟩=some (.int .i64 ac.b):=zac hR.1 hAW A2.o;exact zbw _ rfl rfl (by revert p15;generalize a.eval=ρ;intro p15;simp only[execOp];go_simp) hF hsz hR rfl
 ·intro a w' hF hR hp
  have z3:=(hF.other 3 rfl).trans v3;exact zbw _ rfl rfl (by revert z3;generalize a.eval=ρ;intro z3;simp only[execOp];go_simp) hF hsz hR rfl
 ·intro a w' hF hR hp
  have p17:a.eval (.tmp 17)=.pointer (some ⟨w.heap.size,4,none⟩):=hp ⟨8,.data⟩ (by simp) rfl;have c0:w'.cell? ⟨w.heap.size,4,none⟩=some (.string ac.text):=zac hR.1 hAW A4.o;exact zbw _ rfl rfl (by revert p17;generalize a.eval=ρ;intro p17;simp only[execOp];go_simp) hF hsz hR rfl
 ·intro a w' hF hR hp
  have p18:a.eval (.tmp 18)=.string ac.text:=hp ⟨9,.data⟩ (by simp) rfl;refine zbu 25 #[.string ac.text] rfl rfl (by have pf:=Act.eval_func a 25;revert p18 pf;generalize a.eval=ρ;intro p18 pf;simp only[execOp];go_simp) _ (zgb ac.text _ hsz2) ?_;rintro e w2 ⟨rfl,hb2⟩;refine⟨_,rfl,_,rfl,?_,?_,?_⟩
  ·show zl2 W2 ((a.put (some 19) _).eval (.tmp 5)) w2
   rw[Act.eval_put_ne _ _ _ _ (by decide)];exact zfk hR hb2
  ·show zfz _ _ _ _ _ _ _ _ _ _ _ _ ((a.put (some 19) _).eval (.tmp 19)) ((a.put (some 19) _).eval (.tmp 5)) w2
   rw[zap hF hsz (by decide),Act.eval_put_ne _ _ _ _ (by decide)];exact rfl
  ·intro kk x hk h
   show zfz _ _ _ _ _ _ _ _ _ _ _ kk x ((a.put (some 19) _).eval (.tmp 5)) w2;rw[Act.eval_put_ne _ _ _ _ (by decide)];exact zl6 hb2 kk x h
 ·intro a w' hF hR hp
  have p12:a.eval (.tmp 12)=.agg #[.int .i64 j.now.seq,.slice na j.now.info.length nc,.slice nb j.now.data.length nd,.slice ne j.now.rev.length nf,.bool j.now.h0.on,.int .i64 j.now.h0.left,.bool j.now.h1.on,.int .i64 j.now.h1.left,.bool j.now.h2.on,.int .i64 j.now.h2.left]:=hp ⟨3,.data⟩ (by simp) rfl;have p14:a.eval (.tmp 14)=.int .i64 ac.h:=hp ⟨5,.data⟩ (by simp) rfl;have p16:a.eval (.tmp 16)=.int .i64 ac.b:=hp ⟨7,.data⟩ (by simp) rfl;have p19:a.eval (.tmp 19)=.string (fitT ac.text):=hp ⟨10,.data⟩ (by simp) rfl;refine zbu 121 #[.agg #[.int .i64 j.now.seq,.slice na j.now.info.length nc,.slice nb j.now.data.length nd,.slice ne j.now.rev.length nf,.bool j.now.h0.on,.int .i64 j.now.h0.left,.bool j.now.h1.on,.int .i64 j.now.h1.left,.bool j.now.h2.on,.int .i64 j.now.h2.left],.int .i64 ac.h,.int .i64 ac.b,.string (fitT ac.text)] rfl rfl (by have pf:=Act.eval_func a 121;revert p12 p14 p16 p19 pf;generalize a.eval=ρ;intro p12 p14 p16 p19 pf;simp only[execOp];go_simp) _ (zq0 _ j.now ac.h ac.b (fitT ac.text) _ ((HTN.o.ext (Ext.seenL W2 _)).below hR.1) r1 r2) ?_;rintro e w2 ⟨v2,rfl,hT2,hb2,hv2⟩;refine⟨_,rfl,_,rfl,?_,?_,?_⟩
  ·show zl2 W2 ((a.put (some 20) _).eval (.tmp 5)) w2
   rw[Act.eval_put_ne _ _ _ _ (by decide)];exact zfk hR hb2
  ·show zfz _ _ _ _ _ _ _ _ _ _ _ _ ((a.put (some 20) _).eval (.tmp 20)) ((a.put (some 20) _).eval (.tmp 5)) w2
   rw[zap hF hsz (by decide),Act.eval_put_ne _ _ _ _ (by decide)];exact⟨v2,rfl,okTx.made HX2.o HTN.o HRN.o hR hT2 hb2 hv2⟩
  ·intro kk x hk h
   show zfz _ _ _ _ _ _ _ _ _ _ _ kk x ((a.put (some 20) _).eval (.tmp 5)) w2;rw[Act.eval_put_ne _ _ _ _ (by decide)];exact zl6 hb2 kk x h
 ·intro a w' hF hR hp
  obtain⟨v2,pc,ok⟩:∃v2,a.eval (.tmp 20)=.tuple #[v2,.int .i64 (changeE j.now ac.h ac.b (fitT ac.text))]∧okTx ((w.heap.size+1)::X) (zaf j.now ac.h ac.b (fitT ac.text)) v2 (a.eval (.tmp 5)) w':=hp ⟨11,.data⟩ (by simp) rfl;refine zax (.tuple #[v2,.int .i64 (changeE j.now ac.h ac.b (fitT ac.text))]) rfl rfl (by revert pc;generalize a.eval=ρ;intro pc;simp only[execOp];go_simp) ⟨_,rfl,?_,?_,?_⟩
  ·show zl2 W2 ((a.put (some 8) _).eval (.tmp 5)) w'
   rw[Act.eval_put_ne _ _ _ _ (by decide)];exact hR
  ·show zfz _ _ _ _ _ _ _ _ _ _ _ _ ((a.put (some 8) _).eval (.tmp 8)) ((a.put (some 8) _).eval (.tmp 5)) w'
   rw[zap hF hsz (by decide),Act.eval_put_ne _ _ _ _ (by decide)];exact⟨v2,rfl,ok⟩
  ·intro kk x hk h
   show zfz _ _ _ _ _ _ _ _ _ _ _ kk x ((a.put (some 8) _).eval (.tmp 5)) w';rw[Act.eval_put_ne _ _ _ _ (by decide)];exact h
 ·intro a w' hF hR hp
  obtain⟨v2,pm,ok⟩:∃v2,a.eval (.tmp 8)=.tuple #[v2,.int .i64 (changeE j.now ac.h ac.b (fitT ac.text))]∧okTx ((w.heap.size+1)::X) (zaf j.now ac.h ac.b (fitT ac.text)) v2 (a.eval (.tmp 5)) w':=hp ⟨12,.data⟩ (by simp) rfl;refine zax (v2) rfl rfl (by revert pm;generalize a.eval=ρ;intro pm;simp only[execOp];go_simp) ⟨_,rfl,?_,?_,?_⟩
  ·show zl2 W2 ((a.put (some 21) _).eval (.tmp 5)) w'
   rw[Act.eval_put_ne _ _ _ _ (by decide)];exact hR
  ·show zfz _ _ _ _ _ _ _ _ _ _ _ _ ((a.put (some 21) _).eval (.tmp 21)) ((a.put (some 21) _).eval (.tmp 5)) w'
   rw[zap hF hsz (by decide),Act.eval_put_ne _ _ _ _ (by decide)];exact ok
  ·intro kk x hk h
   show zfz _ _ _ _ _ _ _ _ _ _ _ kk x ((a.put (some 21) _).eval (.tmp 5)) w';rw[Act.eval_put_ne _ _ _ _ (by decide)];exact h
 ·intro a w' hF hR hp
  obtain⟨v2,pm,ok⟩:∃v2,a.eval (.tmp 8)=.tuple #[v2,.int .i64 (changeE j.now ac.h ac.b (fitT ac.text))]∧okTx ((w.heap.size+1)::X) (zaf j.now ac.h ac.b (fitT ac.text)) v2 (a.eval (.tmp 5)) w':=hp ⟨12,.data⟩ (by simp) rfl;exact zbw _ rfl rfl (by revert pm;generalize a.eval=ρ;intro pm;simp only[execOp];go_simp) hF hsz hR rfl
 ·intro a w' hF hR hp
  refine zfw (.pointer (some ⟨w'.heap.size,0,none⟩)) rfl rfl (w':=w'.alloc (.cells #[.int .i64 0,.slice none 0 0,.slice none 0 0,.slice none 0 0,.bool false,.int .i64 0,.bool false,.int .i64 0,.bool false,.int .i64 0] 40)) (by simp only[execOp];go_simp) ⟨_,rfl,?_,?_,?_⟩
  ·show zl2 W2 ((a.put (some 5) _).eval (.tmp 5)) _
   rw[zap hF hsz (by decide)];exact⟨hR.1.alloc hR.1.size _,.inr ⟨_,rfl,hR.1.size,by simp,_,_,_,_,_,_,_,_,_,_,heap_alloc_new _ _⟩⟩
  ·show zfz _ _ _ _ _ _ _ _ _ _ _ _ ((a.put (some 5) _).eval (.tmp 5)) ((a.put (some 5) _).eval (.tmp 5)) _
   rw[zap hF hsz (by decide)];exact⟨_,rfl⟩
  ·intro kk x hk h
   show zfz _ _ _ _ _ _ _ _ _ _ _ kk x ((a.put (some 5) _).eval (.tmp 5)) _;rw[zap hF hsz (by decide)];exact zto _ kk x h
 ·intro a w' hF hR hp
  obtain⟨T,pT⟩:∃T,a.eval (.tmp 5)=.pointer (some ⟨T,0,none⟩):=hp ⟨15,.data⟩ (by simp) rfl;have ok:okTx ((w.heap.size+1)::X) (zaf j.now ac.h ac.b (fitT ac.text)) (a.eval (.tmp 21)) (a.eval (.tmp 5)) w':=hp ⟨13,.data⟩ (by simp) rfl
  obtain⟨hT1,hT2,c0,c1,c2,c3,c4,c5,c6,c7,c8,c9,hTb⟩:W2.heap.size≤T∧T<w'.heap.size∧∃c0 c1 c2 c3 c4 c5 c6 c7 c8 c9,w'.heap[T]?=some (.cells #[c0,c1,c2,c3,c4,c5,c6,c7,c8,c9] 40 (0,0)):=by
   rcases hR.2 with h0|⟨T',e,h3,h4,h5⟩
   ·rw[h0] at pT;cases pT
   ·rw[e] at pT;cases pT;exact⟨h3,h4,h5⟩
  have hIT:=ok.2.2 T pT;have hRT:=ok.2.1;obtain⟨ua,uc,ub,ud,ue,uf,hv,_⟩:=id hIT;rw[hv] at hIT hRT;obtain⟨⟨t0,t1,t2,t3,t4,t5,t6,t7,t8,t9⟩,tf⟩:=zai hTb;refine zco rfl rfl (w':=((((((((((w'.setCell ⟨T,0,none⟩ (.int .i64 (zaf j.now ac.h ac.b (fitT ac.text)).seq)).setCell ⟨T,1,none⟩ (.slice ua (zaf j.now ac.h ac.b (fitT ac.text)).info.length uc)).setCell ⟨T,2,none⟩ (.slice ub (zaf j.now ac.h ac.b (fitT ac.text)).data.length ud)).setCell ⟨T,3,none⟩ (.slice ue (zaf j.now ac.h ac.b (fitT ac.text)).rev.length uf)).setCell ⟨T,4,none⟩ (.bool (zaf j.now ac.h ac.b (fitT ac.text)).h0.on)).setCell ⟨T,5,none⟩ (.int .i64 (zaf j.now ac.h ac.b (fitT ac.text)).h0.left)).setCell ⟨T,6,none⟩ (.bool (zaf j.now ac.h ac.b (fitT ac.text)).h1.on)).setCell ⟨T,7,none⟩ (.int .i64 (zaf j.now ac.h ac.b (fitT ac.text)).h1.left)).setCell ⟨T,8,none⟩ (.bool (zaf j.now ac.h ac.b (fitT ac.text)).h2.on)).setCell ⟨T,9,none⟩ (.int .i64 (zaf j.now ac.h ac.b (fitT ac.text)).h2.left))) (by revert pT hv;generalize a.eval=ρ;intro pT hv;simp only[execOp];go_simp) ⟨_,rfl,?_,?_,?_⟩
  ·show zl2 W2 (a.eval (.tmp 5)) _
   exact⟨Below.set10 hR.1 hT1 _ _ _ _ _ _ _ _ _ _,.inr ⟨T,pT,hT1,by simpa[World.setCell] using hT2,_,_,_,_,_,_,_,_,_,_,zho hTb _ _ _ _ _ _ _ _ _ _⟩⟩
  ·show zfz _ _ _ _ _ _ _ _ _ _ _ _ (a.eval (.tmp 5)) (a.eval (.tmp 5)) _
   exact⟨T,ua,uc,ub,ud,ue,uf,pT,zho hTb _ _ _ _ _ _ _ _ _ _,hIT.ext (zoz (by simp) w' _ _ _ _ _ _ _ _ _ _),hRT⟩
  ·intro kk x hk h
   show zfz _ _ _ _ _ _ _ _ _ _ _ kk x (a.eval (.tmp 5)) _;rw[pT] at h⊢;exact ztp (fun t x h=>h.store _ _ _ _ _ _ _ _ _ _) kk x hk h
 ·intro a W hF hR hp
  obtain⟨T,ua,uc,ub,ud,ue,uf,pT,hTb,hIT,hRT⟩:∃T ua uc ub ud ue uf,a.eval (.tmp 5)=.pointer (some ⟨T,0,none⟩)∧W.heap[T]?=some (.cells #[.int .i64 (zaf j.now ac.h ac.b (fitT ac.text)).seq,.slice ua (zaf j.now ac.h ac.b (fitT ac.text)).info.length uc,.slice ub (zaf j.now ac.h ac.b (fitT ac.text)).data.length ud,.slice ue (zaf j.now ac.h ac.b (fitT ac.text)).rev.length uf,.bool (zaf j.now ac.h ac.b (fitT ac.text)).h0.on,.int .i64 (zaf j.now ac.h ac.b (fitT ac.text)).h0.left,.bool (zaf j.now ac.h ac.b (fitT ac.text)).h1.on,.int .i64 (zaf j.now ac.h ac.b (fitT ac.text)).h1.left,.bool (zaf j.now ac.h ac.b (fitT ac.text)).h2.on,.int .i64 (zaf j.now ac.h ac.b (fitT ac.text)).h2.left] 40 (0,0))∧IsTx (zar W (T::(w.heap.size+1)::X)) (.agg #[.int .i64 (zaf j.now ac.h ac.b (fitT ac.text)).seq,.slice ua (zaf j.now ac.h ac.b (fitT ac.text)).info.length uc,.slice ub (zaf j.now ac.h ac.b (fitT ac.text)).data.length ud,.slice ue (zaf j.now ac.h ac.b (fitT ac.text)).rev.length uf,.bool (zaf j.now ac.h ac.b (fitT ac.text)).h0.on,.int .i64 (zaf j.now ac.h ac.b (fitT ac.text)).h0.left,.bool (zaf j.now ac.h ac.b (fitT ac.text)).h1.on,.int .i64 (zaf j.now ac.h ac.b (fitT ac.text)).h1.left,.bool (zaf j.now ac.h ac.b (fitT ac.text)).h2.on,.int .i64 (zaf j.now ac.h ac.b (fitT ac.text)).h2.left]) (zaf j.now ac.h ac.b (fitT ac.text))∧RoomTx (.agg #[.int .i64 (zaf j.now ac.h ac.b (fitT ac.text)).seq,.slice ua (zaf j.now ac.h ac.b (fitT ac.text)).info.length uc,.slice ub (zaf j.now ac.h ac.b (fitT ac.text)).data.length ud,.slice ue (zaf j.now ac.h ac.b (fitT ac.text)).rev.length uf,.bool (zaf j.now ac.h ac.b (fitT ac.text)).h0.on,.int .i64 (zaf j.now ac.h ac.b (fitT ac.text)).h0.left,.bool (zaf j.now ac.h ac.b (fitT ac.text)).h1.on,.int .i64 (zaf j.now ac.h ac.b (fitT ac.text)).h1.left,.bool (zaf j.now ac.h ac.b (fitT ac.text)).h2.on,.int .i64 (zaf j.now ac.h ac.b (fitT ac.text)).h2.left]):=hp 16 (by decide);have pE:a.eval (.tmp 22)=.int .i64 (changeE j.now ac.h ac.b (fitT ac.text)):=hp 14 (by decide)
  have hT1:W2.heap.size≤T:=by
   rcases hR.2 with h0|⟨T',e,h3,h4,h5⟩
   ·rw[h0] at pT;cases pT
   ·rw[e] at pT;cases pT;exact h3
  show wpOps Tryz.prog _ _ [17] a W;rw[wpOps_cons];refine zax (.int .i64 (changeE j.now ac.h ac.b (fitT ac.text))) rfl rfl (by revert pE;generalize a.eval=ρ;intro pE;simp only[execOp];go_simp) ?_;have hsa:a.tmps.size=45:=hF.size.trans hsz;obtain⟨a2,ha2⟩:∃a2,a2=a.put (some 6) (.int .i64 (changeE j.now ac.h ac.b (fitT ac.text))):=⟨_,rfl⟩;have f6:a2.eval (.tmp 6)=.int .i64 (changeE j.now ac.h ac.b (fitT ac.text)):=by rw[ha2];exact Act.eval_put_same _ _ _ (by rw[hsa];decide)
  have f0:a2.eval (.tmp 0)=.pointer (some ⟨B,0,none⟩):=by rw[ha2,Act.eval_put_ne _ _ _ _ (by decide)];exact(hF.other 0 rfl).trans v0
  have f3:a2.eval (.tmp 3)=.pointer (some ⟨w.heap.size,0,none⟩):=by rw[ha2,Act.eval_put_ne _ _ _ _ (by decide)];exact(hF.other 3 rfl).trans v3
  have f4:a2.eval (.tmp 4)=.pointer (some ⟨w.heap.size+1,0,none⟩):=by rw[ha2,Act.eval_put_ne _ _ _ _ (by decide)];exact(hF.other 4 rfl).trans v4
  have f5:a2.eval (.tmp 5)=.pointer (some ⟨T,0,none⟩):=by rw[ha2,Act.eval_put_ne _ _ _ _ (by decide)];exact pT
  have hlit:a2=⟨#[_,_,_,_,_,_,_,_,_,_,_,_,_,_,_,_,_,_,_,_,_,_,_,_,_,_,_,_,_,_,_,_,_,_,_,_,_,_,_,_,_,_,_,_,_],[]⟩:=zcj a2 45 (by rw[ha2,Act.size_put];exact hsa) (by rw[ha2,Act.defers_put'];exact hF.defers.trans hdf);dsimp only at hlit;rw[f0,f3,f4,f5,f6] at hlit;show KK (a.put (some 6) (.int .i64 (changeE j.now ac.h ac.b (fitT ac.text)))) _;rw[←ha2];exact(congrArg (fun x=>KK x _) hlit).mpr (HTAIL.o (fun k=>a2.eval (.tmp k)) _ T ua uc ub ud ue uf hIT hRT hTb hT1 hR.1)
theorem JAt.last {w:World}{B:Nat}{X:List Nat}{j:Jn}(h:JAt w B X j):w.cell? ⟨B,5,none⟩=some (.int .i64 j.last)∧w.frozen? ⟨B,5,none⟩=false:=by
 obtain⟨_,da,dc,db,dd,na,nc,nb,nd,ne,nf,sa,sc,sb,sd,se,sf,ca,cc,fa,fc,ta,tc,h1,_⟩:=h;exact⟨(zaj h1 5).trans rfl,frozen_of_row w _ _ _ _ h1⟩
def zf5 (B:Nat)(D:Nat)(j:Jn)(ac:Ac)(X:List Nat)(na:Option Addr)(nc:Nat)(nb:Option Addr)(nd:Nat)(ne:Option Addr)(nf:Nat):Nat→Value→Value→World→Prop
 |0,v,_,_=>v=.pointer (some ⟨B,0,none⟩)
 |1,v,_,_=>v=.pointer (some ⟨B,0,none⟩)
 |2,v,_,_=>v=.pointer (some ⟨B,31,none⟩)
 |3,v,_,_=>v=.agg #[.int .i64 j.now.seq,.slice na j.now.info.length nc,.slice nb j.now.data.length nd,.slice ne j.now.rev.length nf,.bool j.now.h0.on,.int .i64 j.now.h0.left,.bool j.now.h1.on,.int .i64 j.now.h1.left,.bool j.now.h2.on,.int .i64 j.now.h2.left]
 |4,v,_,_=>v=.pointer (some ⟨D,1,none⟩)
 |5,v,_,_=>v=.int .i64 ac.h
 |6,v,_,_=>v=.pointer (some ⟨D,2,none⟩)
 |7,v,_,_=>v=.int .i64 ac.b
 |8,v,_,_=>v=.pointer (some ⟨D,4,none⟩)
 |9,v,_,_=>v=.string ac.text
 |10,v,_,_=>v=.string (fitT ac.text)
 |11,v,u,w=>∃v2,v=.tuple #[v2,.int .i64 (fillE j.now ac.h ac.b (fitT ac.text))]∧okTx X (zan j.now ac.h ac.b (fitT ac.text)) v2 u w
 |12,v,u,w=>∃v2,v=.tuple #[v2,.int .i64 (fillE j.now ac.h ac.b (fitT ac.text))]∧okTx X (zan j.now ac.h ac.b (fitT ac.text)) v2 u w
 |13,v,u,w=>okTx X (zan j.now ac.h ac.b (fitT ac.text)) v u w
 |14,v,_,_=>v=.int .i64 (fillE j.now ac.h ac.b (fitT ac.text))
 |15,v,_,_=>∃T,v=.pointer (some ⟨T,0,none⟩)
 |16,v,_,w=>∃T ua uc ub ud ue uf,v=.pointer (some ⟨T,0,none⟩)∧w.heap[T]?=some (.cells #[.int .i64 (zan j.now ac.h ac.b (fitT ac.text)).seq,.slice ua (zan j.now ac.h ac.b (fitT ac.text)).info.length uc,.slice ub (zan j.now ac.h ac.b (fitT ac.text)).data.length ud,.slice ue (zan j.now ac.h ac.b (fitT ac.text)).rev.length uf,.bool (zan j.now ac.h ac.b (fitT ac.text)).h0.on,.int .i64 (zan j.now ac.h ac.b (fitT ac.text)).h0.left,.bool (zan j.now ac.h ac.b (fitT ac.text)).h1.on,.int .i64 (zan j.now ac.h ac.b (fitT ac.text)).h1.left,.bool (zan j.now ac.h ac.b (fitT ac.text)).h2.on,.int .i64 (zan j.now ac.h ac.b (fitT ac.text)).h2.left] 40 (0,0))∧IsTx (zar w (T::X)) (.agg #[.int .i64 (zan j.now ac.h ac.b (fitT ac.text)).seq,.slice ua (zan j.now ac.h ac.b (fitT ac.text)).info.length uc,.slice ub (zan j.now ac.h ac.b (fitT ac.text)).data.length ud,.slice ue (zan j.now ac.h ac.b (fitT ac.text)).rev.length uf,.bool (zan j.now ac.h ac.b (fitT ac.text)).h0.on,.int .i64 (zan j.now ac.h ac.b (fitT ac.text)).h0.left,.bool (zan j.now ac.h ac.b (fitT ac.text)).h1.on,.int .i64 (zan j.now ac.h ac.b (fitT ac.text)).h1.left,.bool (zan j.now ac.h ac.b (fitT ac.text)).h2.on,.int .i64 (zan j.now ac.h ac.b (fitT ac.text)).h2.left]) (zan j.now ac.h ac.b (fitT ac.text))∧RoomTx (.agg #[.int .i64 (zan j.now ac.h ac.b (fitT ac.text)).seq,.slice ua (zan j.now ac.h ac.b (fitT ac.text)).info.length uc,.slice ub (zan j.now ac.h ac.b (fitT ac.text)).data.length ud,.slice ue (zan j.now ac.h ac.b (fitT ac.text)).rev.length uf,.bool (zan j.now ac.h ac.b (fitT ac.text)).h0.on,.int .i64 (zan j.now ac.h ac.b (fitT ac.text)).h0.left,.bool (zan j.now ac.h ac.b (fitT ac.text)).h1.on,.int .i64 (zan j.now ac.h ac.b (fitT ac.text)).h1.left,.bool (zan j.now ac.h ac.b (fitT ac.text)).h2.on,.int .i64 (zan j.now ac.h ac.b (fitT ac.text)).h2.left])
 |_,_,_,_=>True
theorem zl7 {B:Nat}{D:Nat}{j:Jn}{ac:Ac}{X:List Nat}{na:Option Addr}{nc:Nat}{nb:Option Addr}{nd:Nat}{ne:Option Addr}{nf:Nat}{u:Value}{w w':World}(hb:Below w.heap.size w w'):∀kk x,zf5 B D j ac X na nc nb nd ne nf kk x u w→zf5 B D j ac X na nc nb nd ne nf kk x u w':=by
 intro kk x h
 match kk,h with
 |0,h|1,h|2,h|3,h|4,h|5,h|6,h|7,h|8,h|9,h|10,h=>exact h
 |11,⟨v2,h1,h2⟩=>exact⟨v2,h1,h2.below hb⟩
 |12,⟨v2,h1,h2⟩=>exact⟨v2,h1,h2.below hb⟩
 |13,h=>exact h.below hb
 |14,h|15,h=>exact h
 |16,⟨T,ua,uc,ub,ud,ue,uf,h1,h2,h3,h4⟩=>exact⟨T,ua,uc,ub,ud,ue,uf,h1,zad hb (Array.getElem?_eq_some_iff.1 h2).1 h2,h3.ext (Ext.freshL hb),h4⟩
 |_+17,_=>exact trivial
theorem ztq {B:Nat}{D:Nat}{j:Jn}{ac:Ac}{X:List Nat}{na:Option Addr}{nc:Nat}{nb:Option Addr}{nd:Nat}{ne:Option Addr}{nf:Nat}{u:Value}{w:World}(o:Obj):∀kk x,zf5 B D j ac X na nc nb nd ne nf kk x u w→zf5 B D j ac X na nc nb nd ne nf kk x (.pointer (some ⟨w.heap.size,0,none⟩)) (w.alloc o):=by
 intro kk x h
 match kk,h with
 |0,h|1,h|2,h|3,h|4,h|5,h|6,h|7,h|8,h|9,h|10,h=>exact h
 |11,⟨v2,h1,h2⟩=>exact⟨v2,h1,h2.alloc o⟩
 |12,⟨v2,h1,h2⟩=>exact⟨v2,h1,h2.alloc o⟩
 |13,h=>exact h.alloc o
 |14,h|15,h=>exact h
 |16,⟨T,ua,uc,ub,ud,ue,uf,h1,h2,h3,h4⟩=>exact⟨T,ua,uc,ub,ud,ue,uf,h1,zad (zab _ _) (Array.getElem?_eq_some_iff.1 h2).1 h2,h3.ext (Ext.freshL (zab _ _)),h4⟩
 |_+17,_=>exact trivial
theorem ztr {B:Nat}{D:Nat}{j:Jn}{ac:Ac}{X:List Nat}{na:Option Addr}{nc:Nat}{nb:Option Addr}{nd:Nat}{ne:Option Addr}{nf:Nat}{u:Value}{w w':World}(hs:∀t x,okTx X t x u w→okTx X t x u w'):∀kk x,kk≠16→zf5 B D j ac X na nc nb nd ne nf kk x u w→zf5 B D j ac X na nc nb nd ne nf kk x u w':=by
 intro kk x hk h
 match kk,h with
 |0,h|1,h|2,h|3,h|4,h|5,h|6,h|7,h|8,h|9,h|10,h=>exact h
 |11,⟨y,h1,h2⟩=>exact⟨y,h1,hs _ _ h2⟩
 |12,⟨y,h1,h2⟩=>exact⟨y,h1,hs _ _ h2⟩
 |13,h=>exact hs _ _ h
 |14,h|15,h=>exact h
 |16,_=>exact absurd rfl hk
 |_+17,_=>exact trivial
theorem zz0 (B:Nat)(X:List Nat)(j:Jn)(w:World)(h:JAt w B X j)(hX:∀x∈X,x<w.heap.size)(ac:Ac)(hsz2:ac.text.size≤maxLen)(r1:j.now.info.length*24≤140737488355328)(r2:j.now.data.length*24≤140737488355328):
  Calls Tryz.prog 83 #[.pointer (some ⟨B,0,none⟩),.agg #[.int .i64 ac.kind,.int .i64 ac.h,.int .i64 ac.b,.int .i64 ac.n,.string ac.text]] w (zdc w B X (zjk j ac)):=by
 have HJ:=zaa h;have hlt:=h.lt;have hBX:=h.1;have HX:=zaa hX;clear h hX;go_enter Tryz.func83,Tryz.ntmps83;go_wp2;rename_i KK hKK;obtain⟨W2,hW2⟩:∃W2,W2=(w.alloc (.cells #[.int .i64 ac.kind,.int .i64 ac.h,.int .i64 ac.b,.int .i64 ac.n,.string ac.text] 23)).alloc (.cells #[.int .i64 0,.int .i64 0,.string ⟨#[]⟩] 31):=⟨_,rfl⟩;have hz1:(w.alloc (.cells #[.int .i64 ac.kind,.int .i64 ac.h,.int .i64 ac.b,.int .i64 ac.n,.string ac.text] 23)).heap.size=w.heap.size+1:=by simp
 have HJ2:Hid (JAt W2 B ((w.heap.size+1)::X) j):=by rw[hW2];exact(HJ.o.below (zab _ _)).more (zab _ _) (by omega)
 have HB2:Hid (Below w.heap.size w W2):=by rw[hW2];exact zae (zab _ _) (zab _ _)
 have KR2:Hid (W2.heap[w.heap.size+1]?=some (.cells #[.int .i64 0,.int .i64 0,.string ⟨#[]⟩] 31 (0,0))):=by rw[hW2,←hz1];exact heap_alloc_new _ _
 have KA2:Hid (W2.heap[w.heap.size]?=some (.cells #[.int .i64 ac.kind,.int .i64 ac.h,.int .i64 ac.b,.int .i64 ac.n,.string ac.text] 23 (0,0))):=by rw[hW2];exact zad (zab _ _) (by omega) (heap_alloc_new _ _)
 have hs2:W2.heap.size=w.heap.size+2:=by rw[hW2];simp
 have HX2:Hid (∀x∈((w.heap.size+1)::X),x<W2.heap.size):=fun x hx=>by
  rcases List.mem_cons.1 hx with rfl|hx
  ·omega
  ·have:=HX.o x hx;omega
 rw[←hW2];clear hW2 hz1;have hBW:B<W2.heap.size:=by omega
 have hAW:w.heap.size<W2.heap.size:=by omega
 have TAIL:∀(g:Nat→Value) (W3:World) (T:Nat) (ua:Option Addr) (uc:Nat) (ub:Option Addr) (ud:Nat) (ue:Option Addr) (uf:Nat),IsTx (zar W3 (T::((w.heap.size+1)::X))) (.agg #[.int .i64 (zan j.now ac.h ac.b (fitT ac.text)).seq,.slice ua (zan j.now ac.h ac.b (fitT ac.text)).info.length uc,.slice ub (zan j.now ac.h ac.b (fitT ac.text)).data.length ud,.slice ue (zan j.now ac.h ac.b (fitT ac.text)).rev.length uf,.bool (zan j.now ac.h ac.b (fitT ac.text)).h0.on,.int .i64 (zan j.now ac.h ac.b (fitT ac.text)).h0.left,.bool (zan j.now ac.h ac.b (fitT ac.text)).h1.on,.int .i64 (zan j.now ac.h ac.b (fitT ac.text)).h1.left,.bool (zan j.now ac.h ac.b (fitT ac.text)).h2.on,.int .i64 (zan j.now ac.h ac.b (fitT ac.text)).h2.left]) (zan j.now ac.h ac.b (fitT ac.text))→RoomTx (.agg #[.int .i64 (zan j.now ac.h ac.b (fitT ac.text)).seq,.slice ua (zan j.now ac.h ac.b (fitT ac.text)).info.length uc,.slice ub (zan j.now ac.h ac.b (fitT ac.text)).data.length ud,.slice ue (zan j.now ac.h ac.b (fitT ac.text)).rev.length uf,.bool (zan j.now ac.h ac.b (fitT ac.text)).h0.on,.int .i64 (zan j.now ac.h ac.b (fitT ac.text)).h0.left,.bool (zan j.now ac.h ac.b (fitT ac.text)).h1.on,.int .i64 (zan j.now ac.h ac.b (fitT ac.text)).h1.left,.bool (zan j.now ac.h ac.b (fitT ac.text)).h2.on,.int .i64 (zan j.now ac.h ac.b (fitT ac.text)).h2.left])→W3.heap[T]?=some (.cells #[.int .i64 (zan j.now ac.h ac.b (fitT ac.text)).seq,.slice ua (zan j.now ac.h ac.b (fitT ac.text)).info.length uc,.slice ub (zan j.now ac.h ac.b (fitT ac.text)).data.length ud,.slice ue (zan j.now ac.h ac.b (fitT ac.text)).rev.length uf,.bool (zan j.now ac.h ac.b (fitT ac.text)).h0.on,.int .i64 (zan j.now ac.h ac.b (fitT ac.text)).h0.left,.bool (zan j.now ac.h ac.b (fitT ac.text)).h1.on,.int .i64 (zan j.now ac.h ac.b (fitT ac.text)).h1.left,.bool (zan j.now ac.h ac.b (fitT ac.text)).h2.on,.int .i64 (zan j.now ac.h ac.b (fitT ac.text)).h2.left] 40 (0,0))→W2.heap.size≤T→Below W2.heap.size W2 W3→KK ⟨#[.pointer (some ⟨B,0,none⟩),g 1,g 2,.pointer (some ⟨w.heap.size,0,none⟩),.pointer (some ⟨w.heap.size+1,0,none⟩),.pointer (some ⟨T,0,none⟩),.int .i64 (fillE j.now ac.h ac.b (fitT ac.text)),g 7,g 8,g 9,g 10,g 11,g 12,g 13,g 14,g 15,g 16,g 17,g 18,g 19,g 20,g 21,g 22,g 23,g 24,g 25,g 26,g 27,g 28,g 29,g 30,g 31,g 32,g 33,g 34,g 35,g 36,g 37,g 38,g 39,g 40,g 41,g 42,g 43,g 44,g 45,g 46,g 47,g 48,g 49,g 50,g 51,g 52,g 53,g 54,g 55,g 56],[]⟩ W3:=by
  intro g W3 T ua uc ub ud ue uf hIT hRT hTb hT1 hb3;apply hKK;clear hKK;have HIT:=zaa (hIT.ext (Ext.lessL T));have HRT:=zaa hRT;have KT:=zaa hTb;have HJ3:=zaa (HJ2.o.below hb3);have HB3:=zaa (zae HB2.o hb3);have KR3:=zaa (zad hb3 (show w.heap.size+1<W2.heap.size by omega) KR2.o);have KA3:=zaa (zad hb3 hAW KA2.o);have hs3:W2.heap.size≤W3.heap.size:=hb3.size;have hTl:T<W3.heap.size:=(Array.getElem?_eq_some_iff.1 hTb).1;clear hIT hRT hTb hb3 HJ2 HB2 KR2 KA2;obtain⟨t,ht⟩:∃t,t=zan j.now ac.h ac.b (fitT ac.text):=⟨_,rfl⟩;rw[←ht] at HIT HRT KT;have hrB:w.heap.size+1≠B:=by omega
  by_cases he:fillE j.now ac.h ac.b (fitT ac.text)=0
  ·obtain⟨hb0,hb1⟩:=zwp he
   obtain⟨bn,hbn⟩:∃bn:Nat,ac.b=(bn:Int):=⟨ac.b.toNat,by omega⟩;have hb12:bn<12:=by omega
   have HW:Hid (zjk j ac=if j.role bn=1 then(j,zav 8) else if j.last<j.freed bn then(j,zav 9) else({j with role:=upd j.role bn 2,now:=t},zav 0)):=by
    rw[Hid,zjk,if_pos he,←ht,hbn,Int.toNat_natCast]
   rw[he];rw[hbn] at KA3;clear he ht hbn hb0 hb1;obtain⟨⟨y0,y1,y2,y3,y4⟩,yf⟩:=zie KA3.o;have hbi0:(0:Int)≤(bn:Int):=by omega
   have hbi1:(bn:Int)<12:=by omega
   go_wp2
   go_quiet (fail)
   obtain⟨W5,hW5⟩:∃W5,W5=W3.drewN nq:=⟨_,rfl⟩;have hbd:Below W3.heap.size W3 W5:=by rw[hW5];exact below_drewN (Below.refl _ _) _
   have HJ5:=zaa (HJ3.o.below hbd);have HB5:Hid (ButL [B] w.heap.size w W5):=ButL.of_below (zae HB3.o hbd);have KR5:=zaa (zad hbd (show w.heap.size+1<W3.heap.size by omega) KR3.o);have KT5:=zaa (zad hbd hTl KT.o);have HIT5:=zaa (HIT.o.ext (Ext.freshL hbd));have hs5:W3.heap.size≤W5.heap.size:=hbd.size;rw[←hW5];clear hW5 hbd y0 y1 y2 y3 y4 yf HJ3 HB3 KR3 KT HIT KA3;obtain⟨rr0,rr1,rf0,rf1⟩:=HJ5.o.role bn hb12;by_cases hro:j.role bn=1
   ·have HE:Hid (zjk j ac=(j,zav 8)):=by rw[Hid,HW.o,if_pos hro]
    rw[hro] at rr0;clear hro HW;go_wp2_with fail;have HJ1:=HJ5;have HB1:=HB5;have KR:=KR5;have hrl:w.heap.size+1<W5.heap.size:=by omega
    refine(zat 8 _).mono ?_;rintro e w2 ⟨rfl,hb2⟩;have KR2:=zaa (zad hb2 hrl KR.o);have HJ2:=zaa (HJ1.o.below hb2);have HB2:=zaa (HB1.o.trans (Y:=[]) (ButL.of_below hb2) HB1.o.size (by simp));clear hb2;obtain⟨⟨y0,y1,y2⟩,yf⟩:=zbj KR2.o;go_wp2;exact zbc HE.o KR2.o HJ2.o HB2.o hrB hBX fun W u0 u1 u2=>by simp[results,Tryz.results83,go_sem,u0,u1,u2]
   ·have hro':(j.role bn==1)=false:=by simpa using hro
    have HW2:Hid (zjk j ac=if j.last<j.freed bn then(j,zav 9) else({j with role:=upd j.role bn 2,now:=t},zav 0)):=by rw[Hid,HW.o,if_neg hro]
    clear hro HW;obtain⟨hc5,hf5⟩:=HJ5.o.last;by_cases hfr:j.last<j.freed bn
    ·have HE:Hid (zjk j ac=(j,zav 9)):=by rw[Hid,HW2.o,if_pos hfr]
     clear HW2;go_wp2_with fail
     go_quiet (fail)
     obtain⟨W6,hW6⟩:∃W6,W6=W5.drewN nq:=⟨_,rfl⟩;have hbd:Below W5.heap.size W5 W6:=by rw[hW6];exact below_drewN (Below.refl _ _) _
     have HJ1:=zaa (HJ5.o.below hbd);have HB1:Hid (ButL [B] w.heap.size w W6):=HB5.o.trans (Y:=[]) (ButL.of_below hbd) HB5.o.size (by simp);have KR:=zaa (zad hbd (show w.heap.size+1<W5.heap.size by omega) KR5.o);have hs6:W5.heap.size≤W6.heap.size:=hbd.size;rw[←hW6];clear hW6 hbd;have hrl:w.heap.size+1<W6.heap.size:=by omega
     go_wp2_with fail;refine(zat 9 _).mono ?_;rintro e w2 ⟨rfl,hb2⟩;have KR2:=zaa (zad hb2 hrl KR.o);have HJ2:=zaa (HJ1.o.below hb2);have HB2:=zaa (HB1.o.trans (Y:=[]) (ButL.of_below hb2) HB1.o.size (by simp));clear hb2;obtain⟨⟨y0,y1,y2⟩,yf⟩:=zbj KR2.o;go_wp2;exact zbc HE.o KR2.o HJ2.o HB2.o hrB hBX fun W u0 u1 u2=>by simp[results,Tryz.results83,go_sem,u0,u1,u2]
    ·have HE:Hid (zjk j ac=({j with role:=upd j.role bn 2,now:=t},zav 0)):=by rw[Hid,HW2.o,if_neg hfr]
     clear HW2;go_wp2_with fail
     go_quiet (fail)
     obtain⟨W7,hW7⟩:∃W7,W7=W5.drewN nq:=⟨_,rfl⟩;have hbd:Below W5.heap.size W5 W7:=by rw[hW7];exact below_drewN (Below.refl _ _) _
     have HJ7:=zaa (HJ5.o.below hbd);have HB7:Hid (ButL [B] w.heap.size w W7):=HB5.o.trans (Y:=[]) (ButL.of_below hbd) HB5.o.size (by simp);have KR7:=zaa (zad hbd (show w.heap.size+1<W5.heap.size by omega) KR5.o);have KT7:=zaa (zad hbd (show T<W5.heap.size by omega) KT5.o);have HIT7:=zaa (HIT5.o.ext (Ext.freshL hbd));have hs7:W5.heap.size≤W7.heap.size:=hbd.size;rw[←hW7];clear hW7 hbd rr0 rr1 rf0 rf1 hc5 hf5 HJ5 HB5 KR5 KT5 HIT5;obtain⟨rr0,_,rf0,_⟩:=HJ7.o.role bn hb12;obtain⟨⟨t0,t1,t2,t3,t4,t5,t6,t7,t8,t9⟩,tf⟩:=zai KT7.o;have hTB:¬T=B:=by omega
     have hBT:¬B=T:=by omega
     go_wp2_with fail;obtain⟨W6,hW6⟩:∃W6,W6=W7.setCell ⟨B,7+bn*2,none⟩ (.int .i64 2):=⟨_,rfl⟩;have HJ6:Hid (JAt W6 B ((w.heap.size+1)::X) {j with role:=upd j.role bn 2}):=by rw[hW6];exact HJ7.o.putRole bn hb12 2
     have HIT6:Hid (IsTx (zar W6 ((w.heap.size+1)::X)) (.agg #[.int .i64 t.seq,.slice ua t.info.length uc,.slice ub t.data.length ud,.slice ue t.rev.length uf,.bool t.h0.on,.int .i64 t.h0.left,.bool t.h1.on,.int .i64 t.h1.left,.bool t.h2.on,.int .i64 t.h2.left]) t):=by rw[hW6];exact HIT7.o.ext (Ext.setL (by simp[hBX]) _ _)
     have HB6:Hid (ButL [B] w.heap.size w W6):=by rw[hW6];exact HB7.o.set (.inl (by simp)) _ _
     have KR6:Hid (W6.heap[w.heap.size+1]?=some (.cells #[.int .i64 0,.int .i64 0,.string ⟨#[]⟩] 31 (0,0))):=by rw[hW6];exact(Below.heap_setCell _ _ _ _ hrB).trans KR7.o
     have hs6:W6.heap.size=W7.heap.size:=by rw[hW6];simp[World.setCell]
     rw[←hW6];clear hW6 rr0 rf0 t0 t1 t2 t3 t4 t5 t6 t7 t8 t9 tf HJ7 HIT7 HB7 KR7 KT7;refine(zi7 B ((w.heap.size+1)::X) _ W6 HJ6.o t ua uc ub ud ue uf HIT6.o HRT.o 0).mono ?_;rintro e w2 ⟨rfl,hJ2,hB2⟩;have HJ2:Hid (JAt w2 B ((w.heap.size+1)::X) {j with role:=upd j.role bn 2,now:=t}):=hJ2;have HB2:=zaa (HB6.o.trans (Y:=[B]) hB2 HB6.o.size (by simp));have KR2:=zaa ((hB2.block _ (show w.heap.size+1<W6.heap.size by omega) (by simpa using hrB)).trans KR6.o);clear hJ2 hB2 HJ6 HB6 KR6 HIT6;dsimp only[zmh,vRp,zav];obtain⟨⟨y0,y1,y2⟩,yf⟩:=zbj KR2.o;go_wp2;exact zbc HE.o KR2.o HJ2.o HB2.o hrB hBX fun W u0 u1 u2=>by simp[results,Tryz.results83,go_sem,u0,u1,u2]
  ·have HE:Hid (zjk j ac=(j,zav (fillE j.now ac.h ac.b (fitT ac.text)))):=by rw[Hid,zjk,if_neg he]
   have he':(fillE j.now ac.h ac.b (fitT ac.text) !=0)=true:=by simpa using he
   clear he ht;generalize fillE j.now ac.h ac.b (fitT ac.text)=E at *;go_wp2_with fail;have HJ1:=HJ3;have HB1:Hid (ButL [B] w.heap.size w W3):=ButL.of_below HB3.o;have KR:=KR3;have hrl:w.heap.size+1<W3.heap.size:=by omega
   refine(zat E _).mono ?_;rintro e w2 ⟨rfl,hb2⟩;have KR2:=zaa (zad hb2 hrl KR.o);have HJ2:=zaa (HJ1.o.below hb2);have HB2:=zaa (HB1.o.trans (Y:=[]) (ButL.of_below hb2) HB1.o.size (by simp));clear hb2;obtain⟨⟨y0,y1,y2⟩,yf⟩:=zbj KR2.o;go_wp2;exact zbc HE.o KR2.o HJ2.o HB2.o hrB hBX fun W u0 u1 u2=>by simp[results,Tryz.results83,go_sem,u0,u1,u2]
 have HTAIL:=zaa TAIL;clear TAIL hKK;obtain⟨_,da,dc,db,dd,na,nc,nb,nd,ne,nf,sa,sc,sb,sd,se,sf,ca,cc,fa,fc,ta,tc,h1,hr⟩:=id HJ2.o;have c31:W2.cell? ⟨B,31,none⟩=some (.int .i64 j.now.seq):=zaj h1 31;have c32:W2.cell? ⟨B,32,none⟩=some (.slice na j.now.info.length nc):=zaj h1 32;have c33:W2.cell? ⟨B,33,none⟩=some (.slice nb j.now.data.length nd):=zaj h1 33;have c34:W2.cell? ⟨B,34,none⟩=some (.slice ne j.now.rev.length nf):=zaj h1 34;have c35:W2.cell? ⟨B,35,none⟩=some (.bool j.now.h0.on):=zaj h1 35;have c36:W2.cell? ⟨B,36,none⟩=some (.int .i64 j.now.h0.left):=zaj h1 36;have c37:W2.cell? ⟨B,37,none⟩=some (.bool j.now.h1.on):=zaj h1 37;have c38:W2.cell? ⟨B,38,none⟩=some (.int .i64 j.now.h1.left):=zaj h1 38;have c39:W2.cell? ⟨B,39,none⟩=some (.bool j.now.h2.on):=zaj h1 39;have c40:W2.cell? ⟨B,40,none⟩=some (.int .i64 j.now.h2.left):=zaj h1 40;have C31:=zaa c31;have C32:=zaa c32;have C33:=zaa c33;have C34:=zaa c34;have C35:=zaa c35;have C36:=zaa c36;have C37:=zaa c37;have C38:=zaa c38;have C39:=zaa c39;have C40:=zaa c40;have HTN:=zaa hr.2.1;have HRN:=zaa hr.2.2.2.2.2.2.1;clear h1 hr c31 c32 c33 c34 c35 c36 c37 c38 c39 c40;obtain⟨⟨y0,y1,y2,y3,y4⟩,_⟩:=zie KA2.o;have A0:=zaa y0;have A1:=zaa y1;have A2:=zaa y2;have A3:=zaa y3;have A4:=zaa y4;clear y0 y1 y2 y3 y4;refine(show∀A0:Act,A0=_→Code.wp Tryz.prog _ _ A0 _ from fun A0 hA0=>?_) _ rfl;have hsz:A0.tmps.size=57:=by rw[hA0];rfl
 have hdf:A0.defers=[]:=by rw[hA0]
 have v0:A0.eval (.tmp 0)=.pointer (some ⟨B,0,none⟩):=by rw[hA0];rfl
 have v3:A0.eval (.tmp 3)=.pointer (some ⟨w.heap.size,0,none⟩):=by rw[hA0];rfl
 have v4:A0.eval (.tmp 4)=.pointer (some ⟨w.heap.size+1,0,none⟩):=by rw[hA0];rfl
 have v5:A0.eval (.tmp 5)=undef:=by rw[hA0];rfl
 clear hA0;refine zc7 17 5 (zl2 W2) [9,10,11,12,13,14,15,16,17,18,19,20,8,21,22,5,5] (zf5 B w.heap.size j ac ((w.heap.size+1)::X) na nc nb nd ne nf) (by kernel_rfl) (by kernel_rfl) (by kernel_rfl) (by kernel_rfl) (by decide) (⟨(Below.refl _ _).drew,.inl v5⟩) ⟨?_,?_,?_,?_,?_,?_,?_,?_,?_,?_,?_,?_,?_,?_,?_,?_,?_,trivial⟩ ?_
 ·intro a w' hF hR hp
  have z0:=(hF.other 0 rfl).trans v0;exact zbw _ rfl rfl (by revert z0;generalize a.eval=ρ;intro z0;simp only[execOp];go_simp) hF hsz hR rfl
 ·intro a w' hF hR hp
  have p9:a.eval (.tmp 9)=.pointer (some ⟨B,0,none⟩):=hp ⟨0,.data⟩ (by simp) rfl;exact zbw _ rfl rfl (by revert p9;generalize a.eval=ρ;intro p9;simp only[execOp];go_simp) hF hsz hR rfl
 ·intro a w' hF hR hp
  have p10:a.eval (.tmp 10)=.pointer (some ⟨B,0,none⟩):=hp ⟨1,.data⟩ (by simp) rfl;exact zbw _ rfl rfl (by revert p10;generalize a.eval=ρ;intro p10;simp only[execOp];go_simp) hF hsz hR rfl
 ·intro a w' hF hR hp
  have p11:a.eval (.tmp 11)=.pointer (some ⟨B,31,none⟩):=hp ⟨2,.data⟩ (by simp) rfl;have c0:w'.cell? ⟨B,31,none⟩=some (.int .i64 j.now.seq):=zac hR.1 hBW C31.o;have c1:w'.cell? ⟨B,32,none⟩=some (.slice na j.now.info.length nc):=zac hR.1 hBW C32.o;have c2:w'.cell? ⟨B,33,none⟩=some (.slice nb j.now.data.length nd):=zac hR.1 hBW C33.o;have c3:w'.cell? ⟨B,34,none⟩=some (.slice ne j.now.rev.length nf):=zac hR.1 hBW C34.o;have c4:w'.cell? ⟨B,35,none⟩=some (.bool j.now.h0.on):=zac hR.1 hBW C35.o;have c5:w'.cell? ⟨B,36,none⟩=some (.int .i64 j.now.h0.left):=zac hR.1 hBW C36.o;have c6:w'.cell? ⟨B,37,none⟩=some (.bool j.now.h1.on):=zac hR.1 hBW C37.o;have c7:w'.cell? ⟨B,38,none⟩=some (.int .i64 j.now.h1.left):=zac hR.1 hBW C38.o;have c8:w'.cell? ⟨B,39,none⟩=some (.bool j.now.h2.on):=zac hR.1 hBW C39.o;have c9:w'.cell? ⟨B,40,none⟩=some (.int .i64 j.now.h2.left):=zac hR.1 hBW C40.o;exact zbw _ rfl rfl (by revert p11;generalize a.eval=ρ;intro p11;simp only[execOp];go_simp) hF hsz hR rfl
 ·intro a w' hF hR hp
  have z3:=(hF.other 3 rfl).trans v3;exact zbw _ rfl rfl (by revert z3;generalize a.eval=ρ;intro z3;simp only[execOp];go_simp) hF hsz hR rfl
 ·intro a w' hF hR hp
  have p13:a.eval (.tmp 13)=.pointer (some ⟨w.heap.size,1,none⟩):=hp ⟨4,.data⟩ (by simp) rfl;have c0:w'.cell? ⟨w.heap.size,1,none⟩=some (.int .i64 ac.h):=zac hR.1 hAW A1.o;exact zbw _ rfl rfl (by revert p13;generalize a.eval=ρ;intro p13;simp only[execOp];go_simp) hF hsz hR rfl
 ·intro a w' hF hR hp
  have z3:=(hF.other 3 rfl).trans v3;exact zbw _ rfl rfl (by revert z3;generalize a.eval=ρ;intro z3;simp only[execOp];go_simp) hF hsz hR rfl
 ·intro a w' hF hR hp
  have p15:a.eval (.tmp 15)=.pointer (some ⟨w.heap.size,2,none⟩):=hp ⟨6,.data⟩ (by simp) rfl;have c0:w'.cell? ⟨w.heap.size,2,none⟩=some (.int .i64 ac.b):=zac hR.1 hAW A2.o;exact zbw _ rfl rfl (by revert p15;generalize a.eval=ρ;intro p15;simp only[execOp];go_simp) hF hsz hR rfl
 ·intro a w' hF hR hp
  have z3:=(hF.other 3 rfl).trans v3;exact zbw _ rfl rfl (by revert z3;generalize a.eval=ρ;intro z3;simp only[execOp];go_simp) hF hsz hR rfl
 ·intro a w' hF hR hp
  have p17:a.eval (.tmp 17)=.pointer (some ⟨w.heap.size,4,none⟩):=hp ⟨8,.data⟩ (by simp) rfl;have c0:w'.cell? ⟨w.heap.size,4,none⟩=some (.string ac.text):=zac hR.1 hAW A4.o;exact zbw _ rfl rfl (by revert p17;generalize a.eval=ρ;intro p17;simp only[execOp];go_simp) hF hsz hR rfl
 ·intro a w' hF hR hp
  have p18:a.eval (.tmp 18)=.string ac.text:=hp ⟨9,.data⟩ (by simp) rfl;refine zbu 25 #[.string ac.text] rfl rfl (by have pf:=Act.eval_func a 25;revert p18 pf;generalize a.eval=ρ;intro p18 pf;simp only[execOp];go_simp) _ (zgb ac.text _ hsz2) ?_;rintro e w2 ⟨rfl,hb2⟩;refine⟨_,rfl,_,rfl,?_,?_,?_⟩
  ·show zl2 W2 ((a.put (some 19) _).eval (.tmp 5)) w2
   rw[Act.eval_put_ne _ _ _ _ (by decide)];exact zfk hR hb2
  ·show zf5 _ _ _ _ _ _ _ _ _ _ _ _ ((a.put (some 19) _).eval (.tmp 19)) ((a.put (some 19) _).eval (.tmp 5)) w2
   rw[zap hF hsz (by decide),Act.eval_put_ne _ _ _ _ (by decide)];exact rfl
  ·intro kk x hk h
   show zf5 _ _ _ _ _ _ _ _ _ _ _ kk x ((a.put (some 19) _).eval (.tmp 5)) w2;rw[Act.eval_put_ne _ _ _ _ (by decide)];exact zl7 hb2 kk x h
 ·intro a w' hF hR hp
  have p12:a.eval (.tmp 12)=.agg #[.int .i64 j.now.seq,.slice na j.now.info.length nc,.slice nb j.now.data.length nd,.slice ne j.now.rev.length nf,.bool j.now.h0.on,.int .i64 j.now.h0.left,.bool j.now.h1.on,.int .i64 j.now.h1.left,.bool j.now.h2.on,.int .i64 j.now.h2.left]:=hp ⟨3,.data⟩ (by simp) rfl;have p14:a.eval (.tmp 14)=.int .i64 ac.h:=hp ⟨5,.data⟩ (by simp) rfl;have p16:a.eval (.tmp 16)=.int .i64 ac.b:=hp ⟨7,.data⟩ (by simp) rfl;have p19:a.eval (.tmp 19)=.string (fitT ac.text):=hp ⟨10,.data⟩ (by simp) rfl;refine zbu 122 #[.agg #[.int .i64 j.now.seq,.slice na j.now.info.length nc,.slice nb j.now.data.length nd,.slice ne j.now.rev.length nf,.bool j.now.h0.on,.int .i64 j.now.h0.left,.bool j.now.h1.on,.int .i64 j.now.h1.left,.bool j.now.h2.on,.int .i64 j.now.h2.left],.int .i64 ac.h,.int .i64 ac.b,.string (fitT ac.text)] rfl rfl (by have pf:=Act.eval_func a 122;revert p12 p14 p16 p19 pf;generalize a.eval=ρ;intro p12 p14 p16 p19 pf;simp only[execOp];go_simp) _ (zwm _ j.now ac.h ac.b (fitT ac.text) _ ((HTN.o.ext (Ext.seenL W2 _)).below hR.1) r1 r2) ?_;rintro e w2 ⟨v2,rfl,hT2,hb2,hv2⟩;refine⟨_,rfl,_,rfl,?_,?_,?_⟩
  ·show zl2 W2 ((a.put (some 20) _).eval (.tmp 5)) w2
   rw[Act.eval_put_ne _ _ _ _ (by decide)];exact zfk hR hb2
  ·show zf5 _ _ _ _ _ _ _ _ _ _ _ _ ((a.put (some 20) _).eval (.tmp 20)) ((a.put (some 20) _).eval (.tmp 5)) w2
   rw[zap hF hsz (by decide),Act.eval_put_ne _ _ _ _ (by decide)];exact⟨v2,rfl,okTx.made HX2.o HTN.o HRN.o hR hT2 hb2 hv2⟩
  ·intro kk x hk h
   show zf5 _ _ _ _ _ _ _ _ _ _ _ kk x ((a.put (some 20) _).eval (.tmp 5)) w2;rw[Act.eval_put_ne _ _ _ _ (by decide)];exact zl7 hb2 kk x h
 ·intro a w' hF hR hp
  obtain⟨v2,pc,ok⟩:∃v2,a.eval (.tmp 20)=.tuple #[v2,.int .i64 (fillE j.now ac.h ac.b (fitT ac.text))]∧okTx ((w.heap.size+1)::X) (zan j.now ac.h ac.b (fitT ac.text)) v2 (a.eval (.tmp 5)) w':=hp ⟨11,.data⟩ (by simp) rfl;refine zax (.tuple #[v2,.int .i64 (fillE j.now ac.h ac.b (fitT ac.text))]) rfl rfl (by revert pc;generalize a.eval=ρ;intro pc;simp only[execOp];go_simp) ⟨_,rfl,?_,?_,?_⟩
  ·show zl2 W2 ((a.put (some 8) _).eval (.tmp 5)) w'
   rw[Act.eval_put_ne _ _ _ _ (by decide)];exact hR
  ·show zf5 _ _ _ _ _ _ _ _ _ _ _ _ ((a.put (some 8) _).eval (.tmp 8)) ((a.put (some 8) _).eval (.tmp 5)) w'
   rw[zap hF hsz (by decide),Act.eval_put_ne _ _ _ _ (by decide)];exact⟨v2,rfl,ok⟩
  ·intro kk x hk h
   show zf5 _ _ _ _ _ _ _ _ _ _ _ kk x ((a.put (some 8) _).eval (.tmp 5)) w';rw[Act.eval_put_ne _ _ _ _ (by decide)];exact h
 ·intro a w' hF hR hp
  obtain⟨v2,pm,ok⟩:∃v2,a.eval (.tmp 8)=.tuple #[v2,.int .i64 (fillE j.now ac.h ac.b (fitT ac.text))]∧okTx ((w.heap.size+1)::X) (zan j.now ac.h ac.b (fitT ac.text)) v2 (a.eval (.tmp 5)) w':=hp ⟨12,.data⟩ (by simp) rfl;refine zax (v2) rfl rfl (by revert pm;generalize a.eval=ρ;intro pm;simp only[execOp];go_simp) ⟨_,rfl,?_,?_,?_⟩
  ·show zl2 W2 ((a.put (some 21) _).eval (.tmp 5)) w'
   rw[Act.eval_put_ne _ _ _ _ (by decide)];exact hR
  ·show zf5 _ _ _ _ _ _ _ _ _ _ _ _ ((a.put (some 21) _).eval (.tmp 21)) ((a.put (some 21) _).eval (.tmp 5)) w'
   rw[zap hF hsz (by decide),Act.eval_put_ne _ _ _ _ (by decide)];exact ok
  ·intro kk x hk h
   show zf5 _ _ _ _ _ _ _ _ _ _ _ kk x ((a.put (some 21) _).eval (.tmp 5)) w';rw[Act.eval_put_ne _ _ _ _ (by decide)];exact h
 ·intro a w' hF hR hp
  obtain⟨v2,pm,ok⟩:∃v2,a.eval (.tmp 8)=.tuple #[v2,.int .i64 (fillE j.now ac.h ac.b (fitT ac.text))]∧okTx ((w.heap.size+1)::X) (zan j.now ac.h ac.b (fitT ac.text)) v2 (a.eval (.tmp 5)) w':=hp ⟨12,.data⟩ (by simp) rfl;exact zbw _ rfl rfl (by revert pm;generalize a.eval=ρ;intro pm;simp only[execOp];go_simp) hF hsz hR rfl
 ·intro a w' hF hR hp
  refine zfw (.pointer (some ⟨w'.heap.size,0,none⟩)) rfl rfl (w':=w'.alloc (.cells #[.int .i64 0,.slice none 0 0,.slice none 0 0,.slice none 0 0,.bool false,.int .i64 0,.bool false,.int .i64 0,.bool false,.int .i64 0] 40)) (by simp only[execOp];go_simp) ⟨_,rfl,?_,?_,?_⟩
  ·show zl2 W2 ((a.put (some 5) _).eval (.tmp 5)) _
   rw[zap hF hsz (by decide)];exact⟨hR.1.alloc hR.1.size _,.inr ⟨_,rfl,hR.1.size,by simp,_,_,_,_,_,_,_,_,_,_,heap_alloc_new _ _⟩⟩
  ·show zf5 _ _ _ _ _ _ _ _ _ _ _ _ ((a.put (some 5) _).eval (.tmp 5)) ((a.put (some 5) _).eval (.tmp 5)) _
   rw[zap hF hsz (by decide)];exact⟨_,rfl⟩
  ·intro kk x hk h
   show zf5 _ _ _ _ _ _ _ _ _ _ _ kk x ((a.put (some 5) _).eval (.tmp 5)) _;rw[zap hF hsz (by decide)];exact ztq _ kk x h
 ·intro a w' hF hR hp
  obtain⟨T,pT⟩:∃T,a.eval (.tmp 5)=.pointer (some ⟨T,0,none⟩):=hp ⟨15,.data⟩ (by simp) rfl;have ok:okTx ((w.heap.size+1)::X) (zan j.now ac.h ac.b (fitT ac.text)) (a.eval (.tmp 21)) (a.eval (.tmp 5)) w':=hp ⟨13,.data⟩ (by simp) rfl
  obtain⟨hT1,hT2,c0,c1,c2,c3,c4,c5,c6,c7,c8,c9,hTb⟩:W2.heap.size≤T∧T<w'.heap.size∧∃c0 c1 c2 c3 c4 c5 c6 c7 c8 c9,w'.heap[T]?=some (.cells #[c0,c1,c2,c3,c4,c5,c6,c7,c8,c9] 40 (0,0)):=by
   rcases hR.2 with h0|⟨T',e,h3,h4,h5⟩
   ·rw[h0] at pT;cases pT
   ·rw[e] at pT;cases pT;exact⟨h3,h4,h5⟩
  have hIT:=ok.2.2 T pT;have hRT:=ok.2.1;obtain⟨ua,uc,ub,ud,ue,uf,hv,_⟩:=id hIT;rw[hv] at hIT hRT;obtain⟨⟨t0,t1,t2,t3,t4,t5,t6,t7,t8,t9⟩,tf⟩:=zai hTb;refine zco rfl rfl (w':=((((((((((w'.setCell ⟨T,0,none⟩ (.int .i64 (zan j.now ac.h ac.b (fitT ac.text)).seq)).setCell ⟨T,1,none⟩ (.slice ua (zan j.now ac.h ac.b (fitT ac.text)).info.length uc)).setCell ⟨T,2,none⟩ (.slice ub (zan j.now ac.h ac.b (fitT ac.text)).data.length ud)).setCell ⟨T,3,none⟩ (.slice ue (zan j.now ac.h ac.b (fitT ac.text)).rev.length uf)).setCell ⟨T,4,none⟩ (.bool (zan j.now ac.h ac.b (fitT ac.text)).h0.on)).setCell ⟨T,5,none⟩ (.int .i64 (zan j.now ac.h ac.b (fitT ac.text)).h0.left)).setCell ⟨T,6,none⟩ (.bool (zan j.now ac.h ac.b (fitT ac.text)).h1.on)).setCell ⟨T,7,none⟩ (.int .i64 (zan j.now ac.h ac.b (fitT ac.text)).h1.left)).setCell ⟨T,8,none⟩ (.bool (zan j.now ac.h ac.b (fitT ac.text)).h2.on)).setCell ⟨T,9,none⟩ (.int .i64 (zan j.now ac.h ac.b (fitT ac.text)).h2.left))) (by revert pT hv;generalize a.eval=ρ;intro pT hv;simp only[execOp];go_simp) ⟨_,rfl,?_,?_,?_⟩
  ·show zl2 W2 (a.eval (.tmp 5)) _
   exact⟨Below.set10 hR.1 hT1 _ _ _ _ _ _ _ _ _ _,.inr ⟨T,pT,hT1,by simpa[World.setCell] using hT2,_,_,_,_,_,_,_,_,_,_,zho hTb _ _ _ _ _ _ _ _ _ _⟩⟩
  ·show zf5 _ _ _ _ _ _ _ _ _ _ _ _ (a.eval (.tmp 5)) (a.eval (.tmp 5)) _
   exact⟨T,ua,uc,ub,ud,ue,uf,pT,zho hTb _ _ _ _ _ _ _ _ _ _,hIT.ext (zoz (by simp) w' _ _ _ _ _ _ _ _ _ _),hRT⟩
  ·intro kk x hk h
   show zf5 _ _ _ _ _ _ _ _ _ _ _ kk x (a.eval (.tmp 5)) _;rw[pT] at h⊢;exact ztr (fun t x h=>h.store _ _ _ _ _ _ _ _ _ _) kk x hk h
 ·intro a W hF hR hp
  obtain⟨T,ua,uc,ub,ud,ue,uf,pT,hTb,hIT,hRT⟩:∃T ua uc ub ud ue uf,a.eval (.tmp 5)=.pointer (some ⟨T,0,none⟩)∧W.heap[T]?=some (.cells #[.int .i64 (zan j.now ac.h ac.b (fitT ac.text)).seq,.slice ua (zan j.now ac.h ac.b (fitT ac.text)).info.length uc,.slice ub (zan j.now ac.h ac.b (fitT ac.text)).data.length ud,.slice ue (zan j.now ac.h ac.b (fitT ac.text)).rev.length uf,.bool (zan j.now ac.h ac.b (fitT ac.text)).h0.on,.int .i64 (zan j.now ac.h ac.b (fitT ac.text)).h0.left,.bool (zan j.now ac.h ac.b (fitT ac.text)).h1.on,.int .i64 (zan j.now ac.h ac.b (fitT ac.text)).h1.left,.bool (zan j.now ac.h ac.b (fitT ac.text)).h2.on,.int .i64 (zan j.now ac.h ac.b (fitT ac.text)).h2.left] 40 (0,0))∧IsTx (zar W (T::(w.heap.size+1)::X)) (.agg #[.int .i64 (zan j.now ac.h ac.b (fitT ac.text)).seq,.slice ua (zan j.now ac.h ac.b (fitT ac.text)).info.length uc,.slice ub (zan j.now ac.h ac.b (fitT ac.text)).data.length ud,.slice ue (zan j.now ac.h ac.b (fitT ac.text)).rev.length uf,.bool (zan j.now ac.h ac.b (fitT ac.text)).h0.on,.int .i64 (zan j.now ac.h ac.b (fitT ac.text)).h0.left,.bool (zan j.now ac.h ac.b (fitT ac.text)).h1.on,.int .i64 (zan j.now ac.h ac.b (fitT ac.text)).h1.left,.bool (zan j.now ac.h ac.b (fitT ac.text)).h2.on,.int .i64 (zan j.now ac.h ac.b (fitT ac.text)).h2.left]) (zan j.now ac.h ac.b (fitT ac.text))∧RoomTx (.agg #[.int .i64 (zan j.now ac.h ac.b (fitT ac.text)).seq,.slice ua (zan j.now ac.h ac.b (fitT ac.text)).info.length uc,.slice ub (zan j.now ac.h ac.b (fitT ac.text)).data.length ud,.slice ue (zan j.now ac.h ac.b (fitT ac.text)).rev.length uf,.bool (zan j.now ac.h ac.b (fitT ac.text)).h0.on,.int .i64 (zan j.now ac.h ac.b (fitT ac.text)).h0.left,.bool (zan j.now ac.h ac.b (fitT ac.text)).h1.on,.int .i64 (zan j.now ac.h ac.b (fitT ac.text)).h1.left,.bool (zan j.now ac.h ac.b (fitT ac.text)).h2.on,.int .i64 (zan j.now ac.h ac.b (fitT ac.text)).h2.left]):=hp 16 (by decide);have pE:a.eval (.tmp 22)=.int .i64 (fillE j.now ac.h ac.b (fitT ac.text)):=hp 14 (by decide)
  have hT1:W2.heap.size≤T:=by
   rcases hR.2 with h0|⟨T',e,h3,h4,h5⟩
   ·rw[h0] at pT;cases pT
   ·rw[e] at pT;cases pT;exact h3
  show wpOps Tryz.prog _ _ [17] a W;rw[wpOps_cons];refine zax (.int .i64 (fillE j.now ac.h ac.b (fitT ac.text))) rfl rfl (by revert pE;generalize a.eval=ρ;intro pE;simp only[execOp];go_simp) ?_;have hsa:a.tmps.size=57:=hF.size.trans hsz;obtain⟨a2,ha2⟩:∃a2,a2=a.put (some 6) (.int .i64 (fillE j.now ac.h ac.b (fitT ac.text))):=⟨_,rfl⟩;have f6:a2.eval (.tmp 6)=.int .i64 (fillE j.now ac.h ac.b (fitT ac.text)):=by rw[ha2];exact Act.eval_put_same _ _ _ (by rw[hsa];decide)
  have f0:a2.eval (.tmp 0)=.pointer (some ⟨B,0,none⟩):=by rw[ha2,Act.eval_put_ne _ _ _ _ (by decide)];exact(hF.other 0 rfl).trans v0
  have f3:a2.eval (.tmp 3)=.pointer (some ⟨w.heap.size,0,none⟩):=by rw[ha2,Act.eval_put_ne _ _ _ _ (by decide)];exact(hF.other 3 rfl).trans v3
  have f4:a2.eval (.tmp 4)=.pointer (some ⟨w.heap.size+1,0,none⟩):=by rw[ha2,Act.eval_put_ne _ _ _ _ (by decide)];exact(hF.other 4 rfl).trans v4
  have f5:a2.eval (.tmp 5)=.pointer (some ⟨T,0,none⟩):=by rw[ha2,Act.eval_put_ne _ _ _ _ (by decide)];exact pT
  have hlit:a2=⟨#[_,_,_,_,_,_,_,_,_,_,_,_,_,_,_,_,_,_,_,_,_,_,_,_,_,_,_,_,_,_,_,_,_,_,_,_,_,_,_,_,_,_,_,_,_,_,_,_,_,_,_,_,_,_,_,_,_],[]⟩:=zcj a2 57 (by rw[ha2,Act.size_put];exact hsa) (by rw[ha2,Act.defers_put'];exact hF.defers.trans hdf);dsimp only at hlit;rw[f0,f3,f4,f5,f6] at hlit;show KK (a.put (some 6) (.int .i64 (fillE j.now ac.h ac.b (fitT ac.text)))) _;rw[←ha2];exact(congrArg (fun x=>KK x _) hlit).mpr (HTAIL.o (fun k=>a2.eval (.tmp k)) _ T ua uc ub ud ue uf hIT hRT hTb hT1 hR.1)
def zg1 (B:Nat)(D:Nat)(j:Jn)(ac:Ac)(X:List Nat)(na:Option Addr)(nc:Nat)(nb:Option Addr)(nd:Nat)(ne:Option Addr)(nf:Nat):Nat→Value→Value→World→Prop
 |0,v,_,_=>v=.pointer (some ⟨B,0,none⟩)
 |1,v,_,_=>v=.pointer (some ⟨B,0,none⟩)
 |2,v,_,_=>v=.pointer (some ⟨B,31,none⟩)
 |3,v,_,_=>v=.agg #[.int .i64 j.now.seq,.slice na j.now.info.length nc,.slice nb j.now.data.length nd,.slice ne j.now.rev.length nf,.bool j.now.h0.on,.int .i64 j.now.h0.left,.bool j.now.h1.on,.int .i64 j.now.h1.left,.bool j.now.h2.on,.int .i64 j.now.h2.left]
 |4,v,_,_=>v=.pointer (some ⟨D,1,none⟩)
 |5,v,_,_=>v=.int .i64 ac.h
 |6,v,_,_=>v=.pointer (some ⟨D,2,none⟩)
 |7,v,_,_=>v=.int .i64 ac.b
 |8,v,u,w=>∃v2,v=.tuple #[v2,.int .i64 (revokeE j.now ac.h ac.b)]∧okTx X (zag j.now ac.h ac.b) v2 u w
 |9,v,u,w=>∃v2,v=.tuple #[v2,.int .i64 (revokeE j.now ac.h ac.b)]∧okTx X (zag j.now ac.h ac.b) v2 u w
 |10,v,u,w=>okTx X (zag j.now ac.h ac.b) v u w
 |11,v,_,_=>v=.int .i64 (revokeE j.now ac.h ac.b)
 |12,v,_,_=>∃T,v=.pointer (some ⟨T,0,none⟩)
 |13,v,_,w=>∃T ua uc ub ud ue uf,v=.pointer (some ⟨T,0,none⟩)∧w.heap[T]?=some (.cells #[.int .i64 (zag j.now ac.h ac.b).seq,.slice ua (zag j.now ac.h ac.b).info.length uc,.slice ub (zag j.now ac.h ac.b).data.length ud,.slice ue (zag j.now ac.h ac.b).rev.length uf,.bool (zag j.now ac.h ac.b).h0.on,.int .i64 (zag j.now ac.h ac.b).h0.left,.bool (zag j.now ac.h ac.b).h1.on,.int .i64 (zag j.now ac.h ac.b).h1.left,.bool (zag j.now ac.h ac.b).h2.on,.int .i64 (zag j.now ac.h ac.b).h2.left] 40 (0,0))∧IsTx (zar w (T::X)) (.agg #[.int .i64 (zag j.now ac.h ac.b).seq,.slice ua (zag j.now ac.h ac.b).info.length uc,.slice ub (zag j.now ac.h ac.b).data.length ud,.slice ue (zag j.now ac.h ac.b).rev.length uf,.bool (zag j.now ac.h ac.b).h0.on,.int .i64 (zag j.now ac.h ac.b).h0.left,.bool (zag j.now ac.h ac.b).h1.on,.int .i64 (zag j.now ac.h ac.b).h1.left,.bool (zag j.now ac.h ac.b).h2.on,.int .i64 (zag j.now ac.h ac.b).h2.left]) (zag j.now ac.h ac.b)∧RoomTx (.agg #[.int .i64 (zag j.now ac.h ac.b).seq,.slice ua (zag j.now ac.h ac.b).info.length uc,.slice ub (zag j.now ac.h ac.b).data.length ud,.slice ue (zag j.now ac.h ac.b).rev.length uf,.bool (zag j.now ac.h ac.b).h0.on,.int .i64 (zag j.now ac.h ac.b).h0.left,.bool (zag j.now ac.h ac.b).h1.on,.int .i64 (zag j.now ac.h ac.b).h1.left,.bool (zag j.now ac.h ac.b).h2.on,.int .i64 (zag j.now ac.h ac.b).h2.left])
 |_,_,_,_=>True
theorem zts {B:Nat}{D:Nat}{j:Jn}{ac:Ac}{X:List Nat}{na:Option Addr}{nc:Nat}{nb:Option Addr}{nd:Nat}{ne:Option Addr}{nf:Nat}{u:Value}{w w':World}(hb:Below w.heap.size w w'):∀kk x,zg1 B D j ac X na nc nb nd ne nf kk x u w→zg1 B D j ac X na nc nb nd ne nf kk x u w':=by
 intro kk x h
 match kk,h with
 |0,h|1,h|2,h|3,h|4,h|5,h|6,h|7,h=>exact h
 |8,⟨v2,h1,h2⟩=>exact⟨v2,h1,h2.below hb⟩
 |9,⟨v2,h1,h2⟩=>exact⟨v2,h1,h2.below hb⟩
 |10,h=>exact h.below hb
 |11,h|12,h=>exact h
 |13,⟨T,ua,uc,ub,ud,ue,uf,h1,h2,h3,h4⟩=>exact⟨T,ua,uc,ub,ud,ue,uf,h1,zad hb (Array.getElem?_eq_some_iff.1 h2).1 h2,h3.ext (Ext.freshL hb),h4⟩
 |_+14,_=>exact trivial
theorem ztt {B:Nat}{D:Nat}{j:Jn}{ac:Ac}{X:List Nat}{na:Option Addr}{nc:Nat}{nb:Option Addr}{nd:Nat}{ne:Option Addr}{nf:Nat}{u:Value}{w:World}(o:Obj):∀kk x,zg1 B D j ac X na nc nb nd ne nf kk x u w→zg1 B D j ac X na nc nb nd ne nf kk x (.pointer (some ⟨w.heap.size,0,none⟩)) (w.alloc o):=by
 intro kk x h
 match kk,h with
 |0,h|1,h|2,h|3,h|4,h|5,h|6,h|7,h=>exact h
 |8,⟨v2,h1,h2⟩=>exact⟨v2,h1,h2.alloc o⟩
 |9,⟨v2,h1,h2⟩=>exact⟨v2,h1,h2.alloc o⟩
 |10,h=>exact h.alloc o
 |11,h|12,h=>exact h
 |13,⟨T,ua,uc,ub,ud,ue,uf,h1,h2,h3,h4⟩=>exact⟨T,ua,uc,ub,ud,ue,uf,h1,zad (zab _ _) (Array.getElem?_eq_some_iff.1 h2).1 h2,h3.ext (Ext.freshL (zab _ _)),h4⟩
 |_+14,_=>exact trivial
theorem ztu {B:Nat}{D:Nat}{j:Jn}{ac:Ac}{X:List Nat}{na:Option Addr}{nc:Nat}{nb:Option Addr}{nd:Nat}{ne:Option Addr}{nf:Nat}{u:Value}{w w':World}(hs:∀t x,okTx X t x u w→okTx X t x u w'):∀kk x,kk≠13→zg1 B D j ac X na nc nb nd ne nf kk x u w→zg1 B D j ac X na nc nb nd ne nf kk x u w':=by
 intro kk x hk h
 match kk,h with
 |0,h|1,h|2,h|3,h|4,h|5,h|6,h|7,h=>exact h
 |8,⟨y,h1,h2⟩=>exact⟨y,h1,hs _ _ h2⟩
 |9,⟨y,h1,h2⟩=>exact⟨y,h1,hs _ _ h2⟩
 |10,h=>exact hs _ _ h
 |11,h|12,h=>exact h
 |13,_=>exact absurd rfl hk
 |_+14,_=>exact trivial
theorem ztv (B:Nat)(X:List Nat)(j:Jn)(w:World)(h:JAt w B X j)(hX:∀x∈X,x<w.heap.size)(ac:Ac)(r1:j.now.info.length*24≤140737488355328)(r2:j.now.data.length*24≤140737488355328):
  Calls Tryz.prog 84 #[.pointer (some ⟨B,0,none⟩),.agg #[.int .i64 ac.kind,.int .i64 ac.h,.int .i64 ac.b,.int .i64 ac.n,.string ac.text]] w (zdc w B X (zem j ac)):=by
 have HJ:=zaa h;have hlt:=h.lt;have hBX:=h.1;have HX:=zaa hX;clear h hX;go_enter Tryz.func84,Tryz.ntmps84;go_wp2;rename_i KK hKK;obtain⟨W2,hW2⟩:∃W2,W2=(w.alloc (.cells #[.int .i64 ac.kind,.int .i64 ac.h,.int .i64 ac.b,.int .i64 ac.n,.string ac.text] 23)).alloc (.cells #[.int .i64 0,.int .i64 0,.string ⟨#[]⟩] 31):=⟨_,rfl⟩;have hz1:(w.alloc (.cells #[.int .i64 ac.kind,.int .i64 ac.h,.int .i64 ac.b,.int .i64 ac.n,.string ac.text] 23)).heap.size=w.heap.size+1:=by simp
 have HJ2:Hid (JAt W2 B ((w.heap.size+1)::X) j):=by rw[hW2];exact(HJ.o.below (zab _ _)).more (zab _ _) (by omega)
 have HB2:Hid (Below w.heap.size w W2):=by rw[hW2];exact zae (zab _ _) (zab _ _)
 have KR2:Hid (W2.heap[w.heap.size+1]?=some (.cells #[.int .i64 0,.int .i64 0,.string ⟨#[]⟩] 31 (0,0))):=by rw[hW2,←hz1];exact heap_alloc_new _ _
 have KA2:Hid (W2.heap[w.heap.size]?=some (.cells #[.int .i64 ac.kind,.int .i64 ac.h,.int .i64 ac.b,.int .i64 ac.n,.string ac.text] 23 (0,0))):=by rw[hW2];exact zad (zab _ _) (by omega) (heap_alloc_new _ _)
 have hs2:W2.heap.size=w.heap.size+2:=by rw[hW2];simp
 have HX2:Hid (∀x∈((w.heap.size+1)::X),x<W2.heap.size):=fun x hx=>by
  rcases List.mem_cons.1 hx with rfl|hx
  ·omega
  ·have:=HX.o x hx;omega
 rw[←hW2];clear hW2 hz1;have hBW:B<W2.heap.size:=by omega
 have hAW:w.heap.size<W2.heap.size:=by omega
 have TAIL:∀(g:Nat→Value) (W3:World) (T:Nat) (ua:Option Addr) (uc:Nat) (ub:Option Addr) (ud:Nat) (ue:Option Addr) (uf:Nat),IsTx (zar W3 (T::((w.heap.size+1)::X))) (.agg #[.int .i64 (zag j.now ac.h ac.b).seq,.slice ua (zag j.now ac.h ac.b).info.length uc,.slice ub (zag j.now ac.h ac.b).data.length ud,.slice ue (zag j.now ac.h ac.b).rev.length uf,.bool (zag j.now ac.h ac.b).h0.on,.int .i64 (zag j.now ac.h ac.b).h0.left,.bool (zag j.now ac.h ac.b).h1.on,.int .i64 (zag j.now ac.h ac.b).h1.left,.bool (zag j.now ac.h ac.b).h2.on,.int .i64 (zag j.now ac.h ac.b).h2.left]) (zag j.now ac.h ac.b)→RoomTx (.agg #[.int .i64 (zag j.now ac.h ac.b).seq,.slice ua (zag j.now ac.h ac.b).info.length uc,.slice ub (zag j.now ac.h ac.b).data.length ud,.slice ue (zag j.now ac.h ac.b).rev.length uf,.bool (zag j.now ac.h ac.b).h0.on,.int .i64 (zag j.now ac.h ac.b).h0.left,.bool (zag j.now ac.h ac.b).h1.on,.int .i64 (zag j.now ac.h ac.b).h1.left,.bool (zag j.now ac.h ac.b).h2.on,.int .i64 (zag j.now ac.h ac.b).h2.left])→W3.heap[T]?=some (.cells #[.int .i64 (zag j.now ac.h ac.b).seq,.slice ua (zag j.now ac.h ac.b).info.length uc,.slice ub (zag j.now ac.h ac.b).data.length ud,.slice ue (zag j.now ac.h ac.b).rev.length uf,.bool (zag j.now ac.h ac.b).h0.on,.int .i64 (zag j.now ac.h ac.b).h0.left,.bool (zag j.now ac.h ac.b).h1.on,.int .i64 (zag j.now ac.h ac.b).h1.left,.bool (zag j.now ac.h ac.b).h2.on,.int .i64 (zag j.now ac.h ac.b).h2.left] 40 (0,0))→W2.heap.size≤T→Below W2.heap.size W2 W3→KK ⟨#[.pointer (some ⟨B,0,none⟩),g 1,g 2,.pointer (some ⟨w.heap.size,0,none⟩),.pointer (some ⟨w.heap.size+1,0,none⟩),.pointer (some ⟨T,0,none⟩),.int .i64 (revokeE j.now ac.h ac.b),g 7,g 8,g 9,g 10,g 11,g 12,g 13,g 14,g 15,g 16,g 17,g 18,g 19,g 20,g 21,g 22,g 23,g 24,g 25,g 26,g 27,g 28,g 29,g 30,g 31,g 32,g 33,g 34,g 35,g 36,g 37,g 38,g 39,g 40,g 41,g 42,g 43],[]⟩ W3:=by
  intro g W3 T ua uc ub ud ue uf hIT hRT hTb hT1 hb3;apply hKK;clear hKK;have HIT:=zaa (hIT.ext (Ext.lessL T));have HRT:=zaa hRT;have KT:=zaa hTb;have HJ3:=zaa (HJ2.o.below hb3);have HB3:=zaa (zae HB2.o hb3);have KR3:=zaa (zad hb3 (show w.heap.size+1<W2.heap.size by omega) KR2.o);have KA3:=zaa (zad hb3 hAW KA2.o);have hs3:W2.heap.size≤W3.heap.size:=hb3.size;have hTl:T<W3.heap.size:=(Array.getElem?_eq_some_iff.1 hTb).1;clear hIT hRT hTb hb3 HJ2 HB2 KR2 KA2;obtain⟨t,ht⟩:∃t,t=zag j.now ac.h ac.b:=⟨_,rfl⟩;rw[←ht] at HIT HRT KT;have hrB:w.heap.size+1≠B:=by omega
  by_cases he:revokeE j.now ac.h ac.b=0
  ·obtain⟨hb0,hb1⟩:=zq3 he
   obtain⟨bn,hbn⟩:∃bn:Nat,ac.b=(bn:Int):=⟨ac.b.toNat,by omega⟩;have hb12:bn<12:=by omega
   have HW:Hid (zem j ac=if j.role bn=0 then(j,zav 8) else({j with role:=upd j.role bn 0,freed:=upd j.freed bn t.seq,now:=t},zav 0)):=by
    rw[Hid,zem,if_pos he,←ht,hbn,Int.toNat_natCast]
   rw[he];rw[hbn] at KA3;clear he ht hbn hb0 hb1;obtain⟨⟨y0,y1,y2,y3,y4⟩,yf⟩:=zie KA3.o;have hbi0:(0:Int)≤(bn:Int):=by omega
   have hbi1:(bn:Int)<12:=by omega
   go_wp2
   go_quiet (fail)
   obtain⟨W5,hW5⟩:∃W5,W5=W3.drewN nq:=⟨_,rfl⟩;have hbd:Below W3.heap.size W3 W5:=by rw[hW5];exact below_drewN (Below.refl _ _) _
   have HJ5:=zaa (HJ3.o.below hbd);have HB5:Hid (ButL [B] w.heap.size w W5):=ButL.of_below (zae HB3.o hbd);have KR5:=zaa (zad hbd (show w.heap.size+1<W3.heap.size by omega) KR3.o);have KT5:=zaa (zad hbd hTl KT.o);have HIT5:=zaa (HIT.o.ext (Ext.freshL hbd));have hs5:W3.heap.size≤W5.heap.size:=hbd.size;rw[←hW5];clear hW5 hbd y0 y1 y2 y3 y4 yf HJ3 HB3 KR3 KT HIT KA3;obtain⟨rr0,rr1,rf0,rf1⟩:=HJ5.o.role bn hb12;by_cases hro:j.role bn=0
   ·have HE:Hid (zem j ac=(j,zav 8)):=by rw[Hid,HW.o,if_pos hro]
    rw[hro] at rr0;clear hro HW;go_wp2_with fail;have HJ1:=HJ5;have HB1:=HB5;have KR:=KR5;have hrl:w.heap.size+1<W5.heap.size:=by omega
    refine(zat 8 _).mono ?_;rintro e w2 ⟨rfl,hb2⟩;have KR2:=zaa (zad hb2 hrl KR.o);have HJ2:=zaa (HJ1.o.below hb2);have HB2:=zaa (HB1.o.trans (Y:=[]) (ButL.of_below hb2) HB1.o.size (by simp));clear hb2;obtain⟨⟨y0,y1,y2⟩,yf⟩:=zbj KR2.o;go_wp2;exact zbc HE.o KR2.o HJ2.o HB2.o hrB hBX fun W u0 u1 u2=>by simp[results,Tryz.results84,go_sem,u0,u1,u2]
   ·have HE:Hid (zem j ac=({j with role:=upd j.role bn 0,freed:=upd j.freed bn t.seq,now:=t},zav 0)):=by rw[Hid,HW.o,if_neg hro]
    have hro':(j.role bn==0)=false:=by simpa using hro
    clear hro HW;obtain⟨⟨t0,t1,t2,t3,t4,t5,t6,t7,t8,t9⟩,tf⟩:=zai KT5.o;have hTB:¬T=B:=by omega
    have hBT:¬B=T:=by omega
    go_wp2_with fail;obtain⟨W6,hW6⟩:∃W6,W6=(W5.setCell ⟨B,7+bn*2,none⟩ (.int .i64 0)).setCell ⟨B,7+bn*2+1,none⟩ (.int .i64 t.seq):=⟨_,rfl⟩;have HJ6:Hid (JAt W6 B ((w.heap.size+1)::X) {j with role:=upd j.role bn 0,freed:=upd j.freed bn t.seq}):=by rw[hW6,show 7+bn*2+1=8+bn*2 by omega];exact(HJ5.o.putRole bn hb12 0).putFreed bn hb12 t.seq
    have HIT6:Hid (IsTx (zar W6 ((w.heap.size+1)::X)) (.agg #[.int .i64 t.seq,.slice ua t.info.length uc,.slice ub t.data.length ud,.slice ue t.rev.length uf,.bool t.h0.on,.int .i64 t.h0.left,.bool t.h1.on,.int .i64 t.h1.left,.bool t.h2.on,.int .i64 t.h2.left]) t):=by rw[hW6];exact(HIT5.o.ext (Ext.setL (by simp[hBX]) _ _)).ext (Ext.setL (by simp[hBX]) _ _)
    have HB6:Hid (ButL [B] w.heap.size w W6):=by rw[hW6];exact(HB5.o.set (.inl (by simp)) _ _).set (.inl (by simp)) _ _
    have KR6:Hid (W6.heap[w.heap.size+1]?=some (.cells #[.int .i64 0,.int .i64 0,.string ⟨#[]⟩] 31 (0,0))):=by rw[hW6];exact(Below.heap_setCell _ _ _ _ hrB).trans ((Below.heap_setCell _ _ _ _ hrB).trans KR5.o)
    have hs6:W6.heap.size=W5.heap.size:=by rw[hW6];simp[World.setCell]
    rw[←hW6];clear hW6 rr0 rf0 rr1 rf1 t0 t1 t2 t3 t4 t5 t6 t7 t8 t9 tf HJ5 HIT5 HB5 KR5 KT5;refine(zi7 B ((w.heap.size+1)::X) _ W6 HJ6.o t ua uc ub ud ue uf HIT6.o HRT.o 0).mono ?_;rintro e w2 ⟨rfl,hJ2,hB2⟩;have HJ2:Hid (JAt w2 B ((w.heap.size+1)::X) {j with role:=upd j.role bn 0,freed:=upd j.freed bn t.seq,now:=t}):=hJ2;have HB2:=zaa (HB6.o.trans (Y:=[B]) hB2 HB6.o.size (by simp));have KR2:=zaa ((hB2.block _ (show w.heap.size+1<W6.heap.size by omega) (by simpa using hrB)).trans KR6.o);clear hJ2 hB2 HJ6 HB6 KR6 HIT6;dsimp only[zmh,vRp,zav];obtain⟨⟨y0,y1,y2⟩,yf⟩:=zbj KR2.o;go_wp2;exact zbc HE.o KR2.o HJ2.o HB2.o hrB hBX fun W u0 u1 u2=>by simp[results,Tryz.results84,go_sem,u0,u1,u2]
  ·have HE:Hid (zem j ac=(j,zav (revokeE j.now ac.h ac.b))):=by rw[Hid,zem,if_neg he]
   have he':(revokeE j.now ac.h ac.b !=0)=true:=by simpa using he
   clear he ht;generalize revokeE j.now ac.h ac.b=E at *;go_wp2_with fail;have HJ1:=HJ3;have HB1:Hid (ButL [B] w.heap.size w W3):=ButL.of_below HB3.o;have KR:=KR3;have hrl:w.heap.size+1<W3.heap.size:=by omega
   refine(zat E _).mono ?_;rintro e w2 ⟨rfl,hb2⟩;have KR2:=zaa (zad hb2 hrl KR.o);have HJ2:=zaa (HJ1.o.below hb2);have HB2:=zaa (HB1.o.trans (Y:=[]) (ButL.of_below hb2) HB1.o.size (by simp));clear hb2;obtain⟨⟨y0,y1,y2⟩,yf⟩:=zbj KR2.o;go_wp2;exact zbc HE.o KR2.o HJ2.o HB2.o hrB hBX fun W u0 u1 u2=>by simp[results,Tryz.results84,go_sem,u0,u1,u2]
 have HTAIL:=zaa TAIL;clear TAIL hKK;obtain⟨_,da,dc,db,dd,na,nc,nb,nd,ne,nf,sa,sc,sb,sd,se,sf,ca,cc,fa,fc,ta,tc,h1,hr⟩:=id HJ2.o;have c31:W2.cell? ⟨B,31,none⟩=some (.int .i64 j.now.seq):=zaj h1 31;have c32:W2.cell? ⟨B,32,none⟩=some (.slice na j.now.info.length nc):=zaj h1 32;have c33:W2.cell? ⟨B,33,none⟩=some (.slice nb j.now.data.length nd):=zaj h1 33;have c34:W2.cell? ⟨B,34,none⟩=some (.slice ne j.now.rev.length nf):=zaj h1 34;have c35:W2.cell? ⟨B,35,none⟩=some (.bool j.now.h0.on):=zaj h1 35;have c36:W2.cell? ⟨B,36,none⟩=some (.int .i64 j.now.h0.left):=zaj h1 36;have c37:W2.cell? ⟨B,37,none⟩=some (.bool j.now.h1.on):=zaj h1 37;have c38:W2.cell? ⟨B,38,none⟩=some (.int .i64 j.now.h1.left):=zaj h1 38;have c39:W2.cell? ⟨B,39,none⟩=some (.bool j.now.h2.on):=zaj h1 39;have c40:W2.cell? ⟨B,40,none⟩=some (.int .i64 j.now.h2.left):=zaj h1 40;have C31:=zaa c31;have C32:=zaa c32;have C33:=zaa c33;have C34:=zaa c34;have C35:=zaa c35;have C36:=zaa c36;have C37:=zaa c37;have C38:=zaa c38;have C39:=zaa c39;have C40:=zaa c40;have HTN:=zaa hr.2.1;have HRN:=zaa hr.2.2.2.2.2.2.1;clear h1 hr c31 c32 c33 c34 c35 c36 c37 c38 c39 c40;obtain⟨⟨y0,y1,y2,y3,y4⟩,_⟩:=zie KA2.o;have A0:=zaa y0;have A1:=zaa y1;have A2:=zaa y2;have A3:=zaa y3;have A4:=zaa y4;clear y0 y1 y2 y3 y4;refine(show∀A0:Act,A0=_→Code.wp Tryz.prog _ _ A0 _ from fun A0 hA0=>?_) _ rfl;have hsz:A0.tmps.size=44:=by rw[hA0];rfl
 have hdf:A0.defers=[]:=by rw[hA0]
 have v0:A0.eval (.tmp 0)=.pointer (some ⟨B,0,none⟩):=by rw[hA0];rfl
 have v3:A0.eval (.tmp 3)=.pointer (some ⟨w.heap.size,0,none⟩):=by rw[hA0];rfl
 have v4:A0.eval (.tmp 4)=.pointer (some ⟨w.heap.size+1,0,none⟩):=by rw[hA0];rfl
 have v5:A0.eval (.tmp 5)=undef:=by rw[hA0];rfl
 clear hA0;refine zc7 14 5 (zl2 W2) [9,10,11,12,13,14,15,16,17,8,18,19,5,5] (zg1 B w.heap.size j ac ((w.heap.size+1)::X) na nc nb nd ne nf) (by kernel_rfl) (by kernel_rfl) (by kernel_rfl) (by kernel_rfl) (by decide) (⟨(Below.refl _ _).drew,.inl v5⟩) ⟨?_,?_,?_,?_,?_,?_,?_,?_,?_,?_,?_,?_,?_,?_,trivial⟩ ?_
 ·intro a w' hF hR hp
  have z0:=(hF.other 0 rfl).trans v0;exact zbw _ rfl rfl (by revert z0;generalize a.eval=ρ;intro z0;simp only[execOp];go_simp) hF hsz hR rfl
 ·intro a w' hF hR hp
  have p9:a.eval (.tmp 9)=.pointer (some ⟨B,0,none⟩):=hp ⟨0,.data⟩ (by simp) rfl;exact zbw _ rfl rfl (by revert p9;generalize a.eval=ρ;intro p9;simp only[execOp];go_simp) hF hsz hR rfl
 ·intro a w' hF hR hp
  have p10:a.eval (.tmp 10)=.pointer (some ⟨B,0,none⟩):=hp ⟨1,.data⟩ (by simp) rfl;exact zbw _ rfl rfl (by revert p10;generalize a.eval=ρ;intro p10;simp only[execOp];go_simp) hF hsz hR rfl
 ·intro a w' hF hR hp
  have p11:a.eval (.tmp 11)=.pointer (some ⟨B,31,none⟩):=hp ⟨2,.data⟩ (by simp) rfl;have c0:w'.cell? ⟨B,31,none⟩=some (.int .i64 j.now.seq):=zac hR.1 hBW C31.o;have c1:w'.cell? ⟨B,32,none⟩=some (.slice na j.now.info.length nc):=zac hR.1 hBW C32.o;have c2:w'.cell? ⟨B,33,none⟩=some (.slice nb j.now.data.length nd):=zac hR.1 hBW C33.o;have c3:w'.cell? ⟨B,34,none⟩=some (.slice ne j.now.rev.length nf):=zac hR.1 hBW C34.o;have c4:w'.cell? ⟨B,35,none⟩=some (.bool j.now.h0.on):=zac hR.1 hBW C35.o;have c5:w'.cell? ⟨B,36,none⟩=some (.int .i64 j.now.h0.left):=zac hR.1 hBW C36.o;have c6:w'.cell? ⟨B,37,none⟩=some (.bool j.now.h1.on):=zac hR.1 hBW C37.o;have c7:w'.cell? ⟨B,38,none⟩=some (.int .i64 j.now.h1.left):=zac hR.1 hBW C38.o;have c8:w'.cell? ⟨B,39,none⟩=some (.bool j.now.h2.on):=zac hR.1 hBW C39.o;have c9:w'.cell? ⟨B,40,none⟩=some (.int .i64 j.now.h2.left):=zac hR.1 hBW C40.o;exact zbw _ rfl rfl (by revert p11;generalize a.eval=ρ;intro p11;simp only[execOp];go_simp) hF hsz hR rfl
 ·intro a w' hF hR hp
  have z3:=(hF.other 3 rfl).trans v3;exact zbw _ rfl rfl (by revert z3;generalize a.eval=ρ;intro z3;simp only[execOp];go_simp) hF hsz hR rfl
 ·intro a w' hF hR hp
  have p13:a.eval (.tmp 13)=.pointer (some ⟨w.heap.size,1,none⟩):=hp ⟨4,.data⟩ (by simp) rfl;have c0:w'.cell? ⟨w.heap.size,1,none⟩=some (.int .i64 ac.h):=zac hR.1 hAW A1.o;exact zbw _ rfl rfl (by revert p13;generalize a.eval=ρ;intro p13;simp only[execOp];go_simp) hF hsz hR rfl
 ·intro a w' hF hR hp
  have z3:=(hF.other 3 rfl).trans v3;exact zbw _ rfl rfl (by revert z3;generalize a.eval=ρ;intro z3;simp only[execOp];go_simp) hF hsz hR rfl
 ·intro a w' hF hR hp
  have p15:a.eval (.tmp 15)=.pointer (some ⟨w.heap.size,2,none⟩):=hp ⟨6,.data⟩ (by simp) rfl;have c0:w'.cell? ⟨w.heap.size,2,none⟩=some (.int .i64 ac.b):=zac hR.1 hAW A2.o;exact zbw _ rfl rfl (by revert p15;generalize a.eval=ρ;intro p15;simp only[execOp];go_simp) hF hsz hR rfl
 ·intro a w' hF hR hp
  have p12:a.eval (.tmp 12)=.agg #[.int .i64 j.now.seq,.slice na j.now.info.length nc,.slice nb j.now.data.length nd,.slice ne j.now.rev.length nf,.bool j.now.h0.on,.int .i64 j.now.h0.left,.bool j.now.h1.on,.int .i64 j.now.h1.left,.bool j.now.h2.on,.int .i64 j.now.h2.left]:=hp ⟨3,.data⟩ (by simp) rfl;have p14:a.eval (.tmp 14)=.int .i64 ac.h:=hp ⟨5,.data⟩ (by simp) rfl;have p16:a.eval (.tmp 16)=.int .i64 ac.b:=hp ⟨7,.data⟩ (by simp) rfl;refine zbu 123 #[.agg #[.int .i64 j.now.seq,.slice na j.now.info.length nc,.slice nb j.now.data.length nd,.slice ne j.now.rev.length nf,.bool j.now.h0.on,.int .i64 j.now.h0.left,.bool j.now.h1.on,.int .i64 j.now.h1.left,.bool j.now.h2.on,.int .i64 j.now.h2.left],.int .i64 ac.h,.int .i64 ac.b] rfl rfl (by have pf:=Act.eval_func a 123;revert p12 p14 p16 pf;generalize a.eval=ρ;intro p12 p14 p16 pf;simp only[execOp];go_simp) _ (zq1 _ j.now ac.h ac.b _ ((HTN.o.ext (Ext.seenL W2 _)).below hR.1) r1 r2) ?_;rintro e w2 ⟨v2,rfl,hT2,hb2,hv2⟩;refine⟨_,rfl,_,rfl,?_,?_,?_⟩
  ·show zl2 W2 ((a.put (some 17) _).eval (.tmp 5)) w2
   rw[Act.eval_put_ne _ _ _ _ (by decide)];exact zfk hR hb2
  ·show zg1 _ _ _ _ _ _ _ _ _ _ _ _ ((a.put (some 17) _).eval (.tmp 17)) ((a.put (some 17) _).eval (.tmp 5)) w2
   rw[zap hF hsz (by decide),Act.eval_put_ne _ _ _ _ (by decide)];exact⟨v2,rfl,okTx.made HX2.o HTN.o HRN.o hR hT2 hb2 hv2⟩
  ·intro kk x hk h
   show zg1 _ _ _ _ _ _ _ _ _ _ _ kk x ((a.put (some 17) _).eval (.tmp 5)) w2;rw[Act.eval_put_ne _ _ _ _ (by decide)];exact zts hb2 kk x h
 ·intro a w' hF hR hp
  obtain⟨v2,pc,ok⟩:∃v2,a.eval (.tmp 17)=.tuple #[v2,.int .i64 (revokeE j.now ac.h ac.b)]∧okTx ((w.heap.size+1)::X) (zag j.now ac.h ac.b) v2 (a.eval (.tmp 5)) w':=hp ⟨8,.data⟩ (by simp) rfl;refine zax (.tuple #[v2,.int .i64 (revokeE j.now ac.h ac.b)]) rfl rfl (by revert pc;generalize a.eval=ρ;intro pc;simp only[execOp];go_simp) ⟨_,rfl,?_,?_,?_⟩
  ·show zl2 W2 ((a.put (some 8) _).eval (.tmp 5)) w'
   rw[Act.eval_put_ne _ _ _ _ (by decide)];exact hR
  ·show zg1 _ _ _ _ _ _ _ _ _ _ _ _ ((a.put (some 8) _).eval (.tmp 8)) ((a.put (some 8) _).eval (.tmp 5)) w'
   rw[zap hF hsz (by decide),Act.eval_put_ne _ _ _ _ (by decide)];exact⟨v2,rfl,ok⟩
  ·intro kk x hk h
   show zg1 _ _ _ _ _ _ _ _ _ _ _ kk x ((a.put (some 8) _).eval (.tmp 5)) w';rw[Act.eval_put_ne _ _ _ _ (by decide)];exact h
 ·intro a w' hF hR hp
  obtain⟨v2,pm,ok⟩:∃v2,a.eval (.tmp 8)=.tuple #[v2,.int .i64 (revokeE j.now ac.h ac.b)]∧okTx ((w.heap.size+1)::X) (zag j.now ac.h ac.b) v2 (a.eval (.tmp 5)) w':=hp ⟨9,.data⟩ (by simp) rfl;refine zax (v2) rfl rfl (by revert pm;generalize a.eval=ρ;intro pm;simp only[execOp];go_simp) ⟨_,rfl,?_,?_,?_⟩
  ·show zl2 W2 ((a.put (some 18) _).eval (.tmp 5)) w'
   rw[Act.eval_put_ne _ _ _ _ (by decide)];exact hR
  ·show zg1 _ _ _ _ _ _ _ _ _ _ _ _ ((a.put (some 18) _).eval (.tmp 18)) ((a.put (some 18) _).eval (.tmp 5)) w'
   rw[zap hF hsz (by decide),Act.eval_put_ne _ _ _ _ (by decide)];exact ok
  ·intro kk x hk h
   show zg1 _ _ _ _ _ _ _ _ _ _ _ kk x ((a.put (some 18) _).eval (.tmp 5)) w';rw[Act.eval_put_ne _ _ _ _ (by decide)];exact h
 ·intro a w' hF hR hp
  obtain⟨v2,pm,ok⟩:∃v2,a.eval (.tmp 8)=.tuple #[v2,.int .i64 (revokeE j.now ac.h ac.b)]∧okTx ((w.heap.size+1)::X) (zag j.now ac.h ac.b) v2 (a.eval (.tmp 5)) w':=hp ⟨9,.data⟩ (by simp) rfl;exact zbw _ rfl rfl (by revert pm;generalize a.eval=ρ;intro pm;simp only[execOp];go_simp) hF hsz hR rfl
 ·intro a w' hF hR hp
  refine zfw (.pointer (some ⟨w'.heap.size,0,none⟩)) rfl rfl (w':=w'.alloc (.cells #[.int .i64 0,.slice none 0 0,.slice none 0 0,.slice none 0 0,.bool false,.int .i64 0,.bool false,.int .i64 0,.bool false,.int .i64 0] 40)) (by simp only[execOp];go_simp) ⟨_,rfl,?_,?_,?_⟩
  ·show zl2 W2 ((a.put (some 5) _).eval (.tmp 5)) _
   rw[zap hF hsz (by decide)];exact⟨hR.1.alloc hR.1.size _,.inr ⟨_,rfl,hR.1.size,by simp,_,_,_,_,_,_,_,_,_,_,heap_alloc_new _ _⟩⟩
  ·show zg1 _ _ _ _ _ _ _ _ _ _ _ _ ((a.put (some 5) _).eval (.tmp 5)) ((a.put (some 5) _).eval (.tmp 5)) _
   rw[zap hF hsz (by decide)];exact⟨_,rfl⟩
  ·intro kk x hk h
   show zg1 _ _ _ _ _ _ _ _ _ _ _ kk x ((a.put (some 5) _).eval (.tmp 5)) _;rw[zap hF hsz (by decide)];exact ztt _ kk x h
 ·intro a w' hF hR hp
  obtain⟨T,pT⟩:∃T,a.eval (.tmp 5)=.pointer (some ⟨T,0,none⟩):=hp ⟨12,.data⟩ (by simp) rfl;have ok:okTx ((w.heap.size+1)::X) (zag j.now ac.h ac.b) (a.eval (.tmp 18)) (a.eval (.tmp 5)) w':=hp ⟨10,.data⟩ (by simp) rfl
  obtain⟨hT1,hT2,c0,c1,c2,c3,c4,c5,c6,c7,c8,c9,hTb⟩:W2.heap.size≤T∧T<w'.heap.size∧∃c0 c1 c2 c3 c4 c5 c6 c7 c8 c9,w'.heap[T]?=some (.cells #[c0,c1,c2,c3,c4,c5,c6,c7,c8,c9] 40 (0,0)):=by
   rcases hR.2 with h0|⟨T',e,h3,h4,h5⟩
   ·rw[h0] at pT;cases pT
   ·rw[e] at pT;cases pT;exact⟨h3,h4,h5⟩
  have hIT:=ok.2.2 T pT;have hRT:=ok.2.1;obtain⟨ua,uc,ub,ud,ue,uf,hv,_⟩:=id hIT;rw[hv] at hIT hRT;obtain⟨⟨t0,t1,t2,t3,t4,t5,t6,t7,t8,t9⟩,tf⟩:=zai hTb;refine zco rfl rfl (w':=((((((((((w'.setCell ⟨T,0,none⟩ (.int .i64 (zag j.now ac.h ac.b).seq)).setCell ⟨T,1,none⟩ (.slice ua (zag j.now ac.h ac.b).info.length uc)).setCell ⟨T,2,none⟩ (.slice ub (zag j.now ac.h ac.b).data.length ud)).setCell ⟨T,3,none⟩ (.slice ue (zag j.now ac.h ac.b).rev.length uf)).setCell ⟨T,4,none⟩ (.bool (zag j.now ac.h ac.b).h0.on)).setCell ⟨T,5,none⟩ (.int .i64 (zag j.now ac.h ac.b).h0.left)).setCell ⟨T,6,none⟩ (.bool (zag j.now ac.h ac.b).h1.on)).setCell ⟨T,7,none⟩ (.int .i64 (zag j.now ac.h ac.b).h1.left)).setCell ⟨T,8,none⟩ (.bool (zag j.now ac.h ac.b).h2.on)).setCell ⟨T,9,none⟩ (.int .i64 (zag j.now ac.h ac.b).h2.left))) (by revert pT hv;generalize a.eval=ρ;intro pT hv;simp only[execOp];go_simp) ⟨_,rfl,?_,?_,?_⟩
  ·show zl2 W2 (a.eval (.tmp 5)) _
   exact⟨Below.set10 hR.1 hT1 _ _ _ _ _ _ _ _ _ _,.inr ⟨T,pT,hT1,by simpa[World.setCell] using hT2,_,_,_,_,_,_,_,_,_,_,zho hTb _ _ _ _ _ _ _ _ _ _⟩⟩
  ·show zg1 _ _ _ _ _ _ _ _ _ _ _ _ (a.eval (.tmp 5)) (a.eval (.tmp 5)) _
   exact⟨T,ua,uc,ub,ud,ue,uf,pT,zho hTb _ _ _ _ _ _ _ _ _ _,hIT.ext (zoz (by simp) w' _ _ _ _ _ _ _ _ _ _),hRT⟩
  ·intro kk x hk h
   show zg1 _ _ _ _ _ _ _ _ _ _ _ kk x (a.eval (.tmp 5)) _;rw[pT] at h⊢;exact ztu (fun t x h=>h.store _ _ _ _ _ _ _ _ _ _) kk x hk h
 ·intro a W hF hR hp
  obtain⟨T,ua,uc,ub,ud,ue,uf,pT,hTb,hIT,hRT⟩:∃T ua uc ub ud ue uf,a.eval (.tmp 5)=.pointer (some ⟨T,0,none⟩)∧W.heap[T]?=some (.cells #[.int .i64 (zag j.now ac.h ac.b).seq,.slice ua (zag j.now ac.h ac.b).info.length uc,.slice ub (zag j.now ac.h ac.b).data.length ud,.slice ue (zag j.now ac.h ac.b).rev.length uf,.bool (zag j.now ac.h ac.b).h0.on,.int .i64 (zag j.now ac.h ac.b).h0.left,.bool (zag j.now ac.h ac.b).h1.on,.int .i64 (zag j.now ac.h ac.b).h1.left,.bool (zag j.now ac.h ac.b).h2.on,.int .i64 (zag j.now ac.h ac.b).h2.left] 40 (0,0))∧IsTx (zar W (T::(w.heap.size+1)::X)) (.agg #[.int .i64 (zag j.now ac.h ac.b).seq,.slice ua (zag j.now ac.h ac.b).info.length uc,.slice ub (zag j.now ac.h ac.b).data.length ud,.slice ue (zag j.now ac.h ac.b).rev.length uf,.bool (zag j.now ac.h ac.b).h0.on,.int .i64 (zag j.now ac.h ac.b).h0.left,.bool (zag j.now ac.h ac.b).h1.on,.int .i64 (zag j.now ac.h ac.b).h1.left,.bool (zag j.now ac.h ac.b).h2.on,.int .i64 (zag j.now ac.h ac.b).h2.left]) (zag j.now ac.h ac.b)∧RoomTx (.agg #[.int .i64 (zag j.now ac.h ac.b).seq,.slice ua (zag j.now ac.h ac.b).info.length uc,.slice ub (zag j.now ac.h ac.b).data.length ud,.slice ue (zag j.now ac.h ac.b).rev.length uf,.bool (zag j.now ac.h ac.b).h0.on,.int .i64 (zag j.now ac.h ac.b).h0.left,.bool (zag j.now ac.h ac.b).h1.on,.int .i64 (zag j.now ac.h ac.b).h1.left,.bool (zag j.now ac.h ac.b).h2.on,.int .i64 (zag j.now ac.h ac.b).h2.left]):=hp 13 (by decide);have pE:a.eval (.tmp 19)=.int .i64 (revokeE j.now ac.h ac.b):=hp 11 (by decide)
  have hT1:W2.heap.size≤T:=by
   rcases hR.2 with h0|⟨T',e,h3,h4,h5⟩
   ·rw[h0] at pT;cases pT
   ·rw[e] at pT;cases pT;exact h3
  show wpOps Tryz.prog _ _ [14] a W;rw[wpOps_cons];refine zax (.int .i64 (revokeE j.now ac.h ac.b)) rfl rfl (by revert pE;generalize a.eval=ρ;intro pE;simp only[execOp];go_simp) ?_;have hsa:a.tmps.size=44:=hF.size.trans hsz;obtain⟨a2,ha2⟩:∃a2,a2=a.put (some 6) (.int .i64 (revokeE j.now ac.h ac.b)):=⟨_,rfl⟩;have f6:a2.eval (.tmp 6)=.int .i64 (revokeE j.now ac.h ac.b):=by rw[ha2];exact Act.eval_put_same _ _ _ (by rw[hsa];decide)
  have f0:a2.eval (.tmp 0)=.pointer (some ⟨B,0,none⟩):=by rw[ha2,Act.eval_put_ne _ _ _ _ (by decide)];exact(hF.other 0 rfl).trans v0
  have f3:a2.eval (.tmp 3)=.pointer (some ⟨w.heap.size,0,none⟩):=by rw[ha2,Act.eval_put_ne _ _ _ _ (by decide)];exact(hF.other 3 rfl).trans v3
  have f4:a2.eval (.tmp 4)=.pointer (some ⟨w.heap.size+1,0,none⟩):=by rw[ha2,Act.eval_put_ne _ _ _ _ (by decide)];exact(hF.other 4 rfl).trans v4
  have f5:a2.eval (.tmp 5)=.pointer (some ⟨T,0,none⟩):=by rw[ha2,Act.eval_put_ne _ _ _ _ (by decide)];exact pT
  have hlit:a2=⟨#[_,_,_,_,_,_,_,_,_,_,_,_,_,_,_,_,_,_,_,_,_,_,_,_,_,_,_,_,_,_,_,_,_,_,_,_,_,_,_,_,_,_,_,_],[]⟩:=zcj a2 44 (by rw[ha2,Act.size_put];exact hsa) (by rw[ha2,Act.defers_put'];exact hF.defers.trans hdf);dsimp only at hlit;rw[f0,f3,f4,f5,f6] at hlit;show KK (a.put (some 6) (.int .i64 (revokeE j.now ac.h ac.b))) _;rw[←ha2];exact(congrArg (fun x=>KK x _) hlit).mpr (HTAIL.o (fun k=>a2.eval (.tmp k)) _ T ua uc ub ud ue uf hIT hRT hTb hT1 hR.1)
def zur (j:Jn)(d2:Dk)(B:Nat)(e1:Option Addr)(e2:Nat)(e3:Option Addr)(e4:Nat):Nat→Value→World→Prop
 |0,v,_=>v=.pointer (some ⟨B,0,none⟩)
 |1,v,_=>v=.pointer (some ⟨B,0,none⟩)
 |2,v,_=>v=.pointer (some ⟨B,0,none⟩)
 |3,v,_=>v=.pointer (some ⟨B,0,none⟩)
 |4,v,_=>v=.int .i64 j.acts
 |5,v,_=>v=.agg #[.slice e1 d2.safe.length e2,.slice e3 d2.wr.length e4]
 |6,v,_=>v=.pointer (some ⟨B,0,none⟩)
 |7,v,_=>v=.pointer (some ⟨B,0,none⟩)
 |8,v,_=>v=.pointer (some ⟨B,5,none⟩)
 |9,v,_=>v=.int .i64 j.last
 |10,v,_=>v=.agg #[.int .i64 j.acts,.slice e1 d2.safe.length e2,.slice e3 d2.wr.length e4,.int .i64 0,.int .i64 0,.int .i64 j.last,.bool true,.int .i64 0,.int .i64 0,.int .i64 0,.int .i64 0,.int .i64 0,.int .i64 0,.int .i64 0,.int .i64 0,.int .i64 0,.int .i64 0,.int .i64 0,.int .i64 0,.int .i64 0,.int .i64 0,.int .i64 0,.int .i64 0,.int .i64 0,.int .i64 0,.int .i64 0,.int .i64 0,.int .i64 0,.int .i64 0,.int .i64 0,.int .i64 0,.int .i64 0,.slice none 0 0,.slice none 0 0,.slice none 0 0,.bool false,.int .i64 0,.bool false,.int .i64 0,.bool false,.int .i64 0,.int .i64 0,.slice none 0 0,.slice none 0 0,.slice none 0 0,.bool false,.int .i64 0,.bool false,.int .i64 0,.bool false,.int .i64 0,.slice none 0 0,.slice none 0 0,.int .i64 0,.int .i64 0,.int .i64 0,.slice none 0 0]
 |11,v,_=>v=.pointer (some ⟨B,0,none⟩)
 |_,_,_=>True
theorem zid (j:Jn)(d2:Dk)(e1:Option Addr)(e2:Nat)(e3:Option Addr)(e4:Nat):#[.int .i64 j.acts,.slice e1 d2.safe.length e2,.slice e3 d2.wr.length e4,.int .i64 0,.int .i64 0,.int .i64 j.last,.bool true,.int .i64 0,.int .i64 0,.int .i64 0,.int .i64 0,.int .i64 0,.int .i64 0,.int .i64 0,.int .i64 0,.int .i64 0,.int .i64 0,.int .i64 0,.int .i64 0,.int .i64 0,.int .i64 0,.int .i64 0,.int .i64 0,.int .i64 0,.int .i64 0,.int .i64 0,.int .i64 0,.int .i64 0,.int .i64 0,.int .i64 0,.int .i64 0,.int .i64 0,.slice none 0 0,.slice none 0 0,.slice none 0 0,.bool false,.int .i64 0,.bool false,.int .i64 0,.bool false,.int .i64 0,.int .i64 0,.slice none 0 0,.slice none 0 0,.slice none 0 0,.bool false,.int .i64 0,.bool false,.int .i64 0,.bool false,.int .i64 0,.slice none 0 0,.slice none 0 0,.int .i64 0,.int .i64 0,.int .i64 0,.slice none 0 0]=zbq (⟨j.acts,d2,0,0,j.last,true,fun _=>0,fun _=>0,zds 0,zds 0,[],[],0,0,0,[]⟩:Jn) e1 e2 e3 e4 none 0 none 0 none 0 none 0 none 0 none 0 none 0 none 0 none 0:=by kernel_rfl
theorem zw8 (B:Nat)(X:List Nat)(j:Jn)(w:World)(h:JAt w B X j)(hX:∀x∈X,x<w.heap.size)(q:Int)(hq:q≤9223372036854775807):
  Calls Tryz.prog 45 #[.pointer (some ⟨B,0,none⟩),.int .i64 q] w (zdc w B X (zi0 j q)):=by
 have HJ:=zaa h;have hlt:=h.lt;have hBX:=h.1;have HX:=zaa hX;have HJ0:Hid (JAt (w.alloc (.cells #[.int .i64 0,.int .i64 0,.string ⟨#[]⟩] 31)) B (w.heap.size::X) j):=h.more (zab _ _) (Nat.le_refl _);obtain⟨_,da,dc,db,dd,na,nc,nb,nd,ne,nf,sa,sc,sb,sd,se,sf,ca,cc,fa,fc,ta,tc,h1,hr⟩:=h;have c1:w.cell? ⟨B,1,none⟩=some (.slice da j.disk.safe.length dc):=zaj h1 1;have c2:w.cell? ⟨B,2,none⟩=some (.slice db j.disk.wr.length dd):=zaj h1 2;have HD0:=zaa (hr.1.ext (Ext.seenL w X));have HDX:=zaa hr.1;clear h1 hr hX;go_enter Tryz.func45,Tryz.ntmps45;go_wp2_with fail;refine(zvw _ j.disk q _ (HD0.o.below (zab _ _)) hq).mono ?_;rintro e w1 ⟨v1,rfl,hD1,_,hb1,hF1⟩;have KR1:=zaa (z2j hb1);have HJ1:=zaa (HJ0.o.below hb1);have HBW:=zaa (zae (zab w (.cells #[.int .i64 0,.int .i64 0,.string ⟨#[]⟩] 31)) hb1)
 have HDH:Hid (IsDk (zar w1 (w.heap.size::X)) v1 (crashK j.disk q)):=by
  rcases hF1 with e|hF
  ·have hd:=HDX.o.ext (Ext.newL HBW.o (Nat.le_refl _))
   rw[e];rw[e] at hD1;exact hd.asDisk hD1
  ·exact hD1.hideF hF (fun x hx=>by
    rcases List.mem_cons.1 hx with rfl|hx
    ·simp
    ·have:=HX.o x hx;simp;omega)
 have hs1:w.heap.size<w1.heap.size:=by have:=hb1.size;simp at this;omega
 clear c1 c2 HD0 HDX HJ0 hb1 hF1;obtain⟨d2,hd2⟩:∃d2,d2=crashK j.disk q:=⟨_,rfl⟩;rw[←hd2] at HDH hD1;by_cases he:crashE j.disk q=0
 ·have HE:Hid (zi0 j q=((⟨j.acts,d2,0,0,j.last,true,fun _=>0,fun _=>0,zds 0,zds 0,[],[],0,0,0,[]⟩:Jn),zav 0)):=by rw[Hid,zi0,if_pos he,hd2]
  rw[he];clear he hd2;obtain⟨e1,e2,e3,e4,rfl,_,_,_,_⟩:=hD1;go_wp2;rename_i KK hKK;obtain⟨W2,hW2⟩:∃W2,W2=w1.alloc (.cells #[.slice e1 d2.safe.length e2,.slice e3 d2.wr.length e4] 46):=⟨_,rfl⟩;have hb2:Below w1.heap.size w1 W2:=by rw[hW2];exact zab _ _
  have HJ2:=zaa (HJ1.o.below hb2);have HD2:=zaa (HDH.o.ext (Ext.freshL hb2));have KR2:=zaa (zad hb2 hs1 KR1.o);have HB2:=zaa (zae HBW.o hb2);have hs2:w.heap.size<W2.heap.size:=Nat.lt_of_lt_of_le hs1 hb2.size;have KD:W2.heap[w1.heap.size]?=some (.cells #[.slice e1 d2.safe.length e2,.slice e3 d2.wr.length e4] 46 (0,0)):=by rw[hW2];exact heap_alloc_new _ _
  obtain⟨⟨y0,y1⟩,_⟩:=zfl KD;have Y0:=zaa y0;have Y1:=zaa y1;rw[←hW2];clear hW2 hb2 y0 y1 KD HJ1 HDH KR1 HBW;obtain⟨_,da,dc,db,dd,na,nc,nb,nd,ne,nf,sa,sc,sb,sd,se,sf,ca,cc,fa,fc,ta,tc,h1,_⟩:=id HJ2.o;have c0:W2.cell? ⟨B,0,none⟩=some (.int .i64 j.acts):=zaj h1 0;have c5:W2.cell? ⟨B,5,none⟩=some (.int .i64 j.last):=zaj h1 5;have C0:=zaa c0;have C5:=zaa c5;clear c0 c5
  have TAIL:∀(g:Nat→Value) (W3:World),W3=({W2 with drawn:=W2.drawn+1}:World).setRow B #[.int .i64 j.acts,.slice e1 d2.safe.length e2,.slice e3 d2.wr.length e4,.int .i64 0,.int .i64 0,.int .i64 j.last,.bool true,.int .i64 0,.int .i64 0,.int .i64 0,.int .i64 0,.int .i64 0,.int .i64 0,.int .i64 0,.int .i64 0,.int .i64 0,.int .i64 0,.int .i64 0,.int .i64 0,.int .i64 0,.int .i64 0,.int .i64 0,.int .i64 0,.int .i64 0,.int .i64 0,.int .i64 0,.int .i64 0,.int .i64 0,.int .i64 0,.int .i64 0,.int .i64 0,.int .i64 0,.slice none 0 0,.slice none 0 0,.slice none 0 0,.bool false,.int .i64 0,.bool false,.int .i64 0,.bool false,.int .i64 0,.int .i64 0,.slice none 0 0,.slice none 0 0,.slice none 0 0,.bool false,.int .i64 0,.bool false,.int .i64 0,.bool false,.int .i64 0,.slice none 0 0,.slice none 0 0,.int .i64 0,.int .i64 0,.int .i64 0,.slice none 0 0]→KK ⟨#[.pointer (some ⟨B,0,none⟩),g 1,g 2,g 3,.pointer (some ⟨w.heap.size,0,none⟩),g 5,g 6,g 7,g 8,g 9,g 10,g 11,g 12,g 13,g 14,g 15,g 16,g 17,g 18,g 19,g 20,g 21,g 22,g 23,g 24,g 25,g 26,g 27,g 28,g 29,g 30,g 31,g 32],[]⟩ W3:=by
   intro g W3 hW3;apply hKK;clear hKK;have hbd:Below W2.heap.size W2 {W2 with drawn:=W2.drawn+1}:=(Below.refl _ _).drew
   have HJ3:Hid (JAt W3 B (w.heap.size::X) (⟨j.acts,d2,0,0,j.last,true,fun _=>0,fun _=>0,zds 0,zds 0,[],[],0,0,0,[]⟩:Jn)):=by
    rw[hW3,zid];exact JAt.putAll (w:={W2 with drawn:=W2.drawn+1}) (by simp[hBX]) h1 _ _ _ _ _ _ _ _ _ _ _ _ _ _ _ _ _ _ _ _ _ _ ⟨HD2.o.ext (Ext.freshL hbd),zqq _ _,zqq _ _,.inl rfl,.inl rfl,.inl rfl,z17 _,Nat.le_refl _,Nat.le_refl _,Nat.le_refl _⟩
   have HB3:Hid (ButL [B] w.heap.size w W3):=by
    rw[hW3];exact(ButL.of_below (HB2.o.trans (hbd.mono HB2.o.size))).setRow (.inl (by simp)) _
   have KR3:Hid (W3.heap[w.heap.size]?=some (.cells #[.int .i64 0,.int .i64 0,.string ⟨#[]⟩] 31 (0,0))):=by
    rw[hW3,setRow_other _ _ _ _ (by omega)];exact KR2.o
   have hs3:w.heap.size<W3.heap.size:=by rw[hW3];simpa[World.setRow] using hs2
   have HJ1:=HJ3;have HB1:=HB3;have KR:=KR3;have hrl:=hs3;have hrB:w.heap.size≠B:=by omega
   clear hW3 hbd HJ3 HB3 KR3 h1;go_wp2_with fail;refine(zat 0 _).mono ?_;rintro e w2 ⟨rfl,hb2⟩;have KR2:=zaa (zad hb2 hrl KR.o);have HJ2:=zaa (HJ1.o.below hb2);have HB2:=zaa (HB1.o.trans (Y:=[]) (ButL.of_below hb2) HB1.o.size (by simp));clear hb2;obtain⟨⟨y0,y1,y2⟩,yf⟩:=zbj KR2.o;go_wp2;exact zbc HE.o KR2.o HJ2.o HB2.o hrB hBX fun W u0 u1 u2=>by simp[results,Tryz.results45,go_sem,u0,u1,u2]
  have HTAIL:=zaa TAIL;clear TAIL hKK;refine(show∀A0:Act,A0=_→Code.wp Tryz.prog _ _ A0 _ from fun A0 hA0=>?_) _ rfl;have hsz:A0.tmps.size=33:=by rw[hA0];rfl
  have hdf:A0.defers=[]:=by rw[hA0]
  have v0:A0.eval (.tmp 0)=.pointer (some ⟨B,0,none⟩):=by rw[hA0];rfl
  have v4:A0.eval (.tmp 4)=.pointer (some ⟨w.heap.size,0,none⟩):=by rw[hA0];rfl
  have v5:A0.eval (.tmp 5)=.pointer (some ⟨w1.heap.size,0,none⟩):=by rw[hA0];rfl
  clear hA0;refine zbe 12 (fun w'=>w'={W2 with drawn:=W2.drawn+1}) [20,21,22,23,24,25,26,27,28,29,30,31] (zur j d2 B e1 e2 e3 e4) (by kernel_rfl) (by kernel_rfl) (by kernel_rfl) (by kernel_rfl) (by decide) (rfl) ⟨?_,?_,?_,?_,?_,?_,?_,?_,?_,?_,?_,?_,trivial⟩ ?_
  ·intro a w' hF hR hp
   have z0:=(hF.other 0 rfl).trans v0;exact zak _ rfl rfl (by revert z0;generalize a.eval=ρ;intro z0;simp only[execOp];go_simp) hF hsz hR rfl
  ·intro a w' hF hR hp
   have z0:=(hF.other 0 rfl).trans v0;exact zak _ rfl rfl (by revert z0;generalize a.eval=ρ;intro z0;simp only[execOp];go_simp) hF hsz hR rfl
  ·intro a w' hF hR hp
   have p21:a.eval (.tmp 21)=.pointer (some ⟨B,0,none⟩):=hp ⟨1,.data⟩ (by simp) rfl;exact zak _ rfl rfl (by revert p21;generalize a.eval=ρ;intro p21;simp only[execOp];go_simp) hF hsz hR rfl
  ·intro a w' hF hR hp
   have p22:a.eval (.tmp 22)=.pointer (some ⟨B,0,none⟩):=hp ⟨2,.data⟩ (by simp) rfl;exact zak _ rfl rfl (by revert p22;generalize a.eval=ρ;intro p22;simp only[execOp];go_simp) hF hsz hR rfl
  ·intro a w' hF hR hp
   have p23:a.eval (.tmp 23)=.pointer (some ⟨B,0,none⟩):=hp ⟨3,.data⟩ (by simp) rfl;have c0:W2.cell? ⟨B,0,none⟩=some (.int .i64 j.acts):=C0.o;exact zak _ rfl rfl (by revert p23;generalize a.eval=ρ;intro p23;simp only[execOp];go_simp) hF hsz hR rfl
  ·intro a w' hF hR hp
   have z5:=(hF.other 5 rfl).trans v5;have c0:W2.cell? ⟨w1.heap.size,0,none⟩=some (.slice e1 d2.safe.length e2):=Y0.o;have c1:W2.cell? ⟨w1.heap.size,1,none⟩=some (.slice e3 d2.wr.length e4):=Y1.o;exact zak _ rfl rfl (by revert z5;generalize a.eval=ρ;intro z5;simp only[execOp];go_simp) hF hsz hR rfl
  ·intro a w' hF hR hp
   have z0:=(hF.other 0 rfl).trans v0;exact zak _ rfl rfl (by revert z0;generalize a.eval=ρ;intro z0;simp only[execOp];go_simp) hF hsz hR rfl
  ·intro a w' hF hR hp
   have p26:a.eval (.tmp 26)=.pointer (some ⟨B,0,none⟩):=hp ⟨6,.data⟩ (by simp) rfl;exact zak _ rfl rfl (by revert p26;generalize a.eval=ρ;intro p26;simp only[execOp];go_simp) hF hsz hR rfl
  ·intro a w' hF hR hp
   have p27:a.eval (.tmp 27)=.pointer (some ⟨B,0,none⟩):=hp ⟨7,.data⟩ (by simp) rfl;exact zak _ rfl rfl (by revert p27;generalize a.eval=ρ;intro p27;simp only[execOp];go_simp) hF hsz hR rfl
  ·intro a w' hF hR hp
   have p28:a.eval (.tmp 28)=.pointer (some ⟨B,5,none⟩):=hp ⟨8,.data⟩ (by simp) rfl;have c0:W2.cell? ⟨B,5,none⟩=some (.int .i64 j.last):=C5.o;exact zak _ rfl rfl (by revert p28;generalize a.eval=ρ;intro p28;simp only[execOp];go_simp) hF hsz hR rfl
  ·intro a w' hF hR hp
   have p24:a.eval (.tmp 24)=.int .i64 j.acts:=hp ⟨4,.data⟩ (by simp) rfl;have p25:a.eval (.tmp 25)=.agg #[.slice e1 d2.safe.length e2,.slice e3 d2.wr.length e4]:=hp ⟨5,.data⟩ (by simp) rfl;have p29:a.eval (.tmp 29)=.int .i64 j.last:=hp ⟨9,.data⟩ (by simp) rfl;refine z16 93 _ [(0,.int .i64 j.acts),(1,.agg #[.slice e1 d2.safe.length e2,.slice e3 d2.wr.length e4]),(3,.int .i64 j.last),(4,.bool true)] #[.int .i64 j.acts,.slice e1 d2.safe.length e2,.slice e3 d2.wr.length e4,.int .i64 0,.int .i64 0,.int .i64 j.last,.bool true,.int .i64 0,.int .i64 0,.int .i64 0,.int .i64 0,.int .i64 0,.int .i64 0,.int .i64 0,.int .i64 0,.int .i64 0,.int .i64 0,.int .i64 0,.int .i64 0,.int .i64 0,.int .i64 0,.int .i64 0,.int .i64 0,.int .i64 0,.int .i64 0,.int .i64 0,.int .i64 0,.int .i64 0,.int .i64 0,.int .i64 0,.int .i64 0,.int .i64 0,.slice none 0 0,.slice none 0 0,.slice none 0 0,.bool false,.int .i64 0,.bool false,.int .i64 0,.bool false,.int .i64 0,.int .i64 0,.slice none 0 0,.slice none 0 0,.slice none 0 0,.bool false,.int .i64 0,.bool false,.int .i64 0,.bool false,.int .i64 0,.slice none 0 0,.slice none 0 0,.int .i64 0,.int .i64 0,.int .i64 0,.slice none 0 0] rfl rfl rfl ?_ (by kernel_rfl) ⟨_,rfl,hR,?_,fun _ _ _ h=>h⟩
   ·simp[p24,p25,p29,Act.eval_const]
   ·show zur _ _ _ _ _ _ _ _ ((a.put (some 30) _).eval (.tmp 30)) w'
    rw[zap hF hsz (by decide)];exact rfl
  ·intro a w' hF hR hp
   have p20:a.eval (.tmp 20)=.pointer (some ⟨B,0,none⟩):=hp ⟨0,.data⟩ (by simp) rfl;exact zak _ rfl rfl (by revert p20;generalize a.eval=ρ;intro p20;simp only[execOp];go_simp) hF hsz hR rfl
  ·intro a W hF hR hp
   have p30:a.eval (.tmp 30)=.agg #[.int .i64 j.acts,.slice e1 d2.safe.length e2,.slice e3 d2.wr.length e4,.int .i64 0,.int .i64 0,.int .i64 j.last,.bool true,.int .i64 0,.int .i64 0,.int .i64 0,.int .i64 0,.int .i64 0,.int .i64 0,.int .i64 0,.int .i64 0,.int .i64 0,.int .i64 0,.int .i64 0,.int .i64 0,.int .i64 0,.int .i64 0,.int .i64 0,.int .i64 0,.int .i64 0,.int .i64 0,.int .i64 0,.int .i64 0,.int .i64 0,.int .i64 0,.int .i64 0,.int .i64 0,.int .i64 0,.slice none 0 0,.slice none 0 0,.slice none 0 0,.bool false,.int .i64 0,.bool false,.int .i64 0,.bool false,.int .i64 0,.int .i64 0,.slice none 0 0,.slice none 0 0,.slice none 0 0,.bool false,.int .i64 0,.bool false,.int .i64 0,.bool false,.int .i64 0,.slice none 0 0,.slice none 0 0,.int .i64 0,.int .i64 0,.int .i64 0,.slice none 0 0]:=hp 10 (by decide);have p31:a.eval (.tmp 31)=.pointer (some ⟨B,0,none⟩):=hp 11 (by decide);show wpOps Tryz.prog _ _ [12] a W;rw[wpOps_cons];refine zj7 93 (.tmp 31) (.tmp 30) B #[.int .i64 j.acts,.slice e1 d2.safe.length e2,.slice e3 d2.wr.length e4,.int .i64 0,.int .i64 0,.int .i64 j.last,.bool true,.int .i64 0,.int .i64 0,.int .i64 0,.int .i64 0,.int .i64 0,.int .i64 0,.int .i64 0,.int .i64 0,.int .i64 0,.int .i64 0,.int .i64 0,.int .i64 0,.int .i64 0,.int .i64 0,.int .i64 0,.int .i64 0,.int .i64 0,.int .i64 0,.int .i64 0,.int .i64 0,.int .i64 0,.int .i64 0,.int .i64 0,.int .i64 0,.int .i64 0,.slice none 0 0,.slice none 0 0,.slice none 0 0,.bool false,.int .i64 0,.bool false,.int .i64 0,.bool false,.int .i64 0,.int .i64 0,.slice none 0 0,.slice none 0 0,.slice none 0 0,.bool false,.int .i64 0,.bool false,.int .i64 0,.bool false,.int .i64 0,.slice none 0 0,.slice none 0 0,.int .i64 0,.int .i64 0,.int .i64 0,.slice none 0 0] rfl rfl rfl p31 p30 93 (zbq j da dc db dd na nc nb nd ne nf sa sc sb sd se sf ca cc fa fc ta tc) (by rw[hR];exact h1) (by rw[zid];exact z18 _ _ _ _ _ _ _ _ _ _ _ _ _ _ _ _ _ _ _ _ _ _ _) (by kernel_rfl) (by rw[zid];exact zhn _ _ _ _ _ _ _ _ _ _ _ _ _ _ _ _ _ _ _ _ _ _ _) ?_
   have f0:=(hF.other 0 rfl).trans v0;have f4:=(hF.other 4 rfl).trans v4;have hlit:a=⟨#[_,_,_,_,_,_,_,_,_,_,_,_,_,_,_,_,_,_,_,_,_,_,_,_,_,_,_,_,_,_,_,_,_],[]⟩:=zcj a 33 (hF.size.trans hsz) (hF.defers.trans hdf);dsimp only at hlit;rw[f0,f4] at hlit;exact(congrArg (fun x=>KK x (W.setRow B #[.int .i64 j.acts,.slice e1 d2.safe.length e2,.slice e3 d2.wr.length e4,.int .i64 0,.int .i64 0,.int .i64 j.last,.bool true,.int .i64 0,.int .i64 0,.int .i64 0,.int .i64 0,.int .i64 0,.int .i64 0,.int .i64 0,.int .i64 0,.int .i64 0,.int .i64 0,.int .i64 0,.int .i64 0,.int .i64 0,.int .i64 0,.int .i64 0,.int .i64 0,.int .i64 0,.int .i64 0,.int .i64 0,.int .i64 0,.int .i64 0,.int .i64 0,.int .i64 0,.int .i64 0,.int .i64 0,.slice none 0 0,.slice none 0 0,.slice none 0 0,.bool false,.int .i64 0,.bool false,.int .i64 0,.bool false,.int .i64 0,.int .i64 0,.slice none 0 0,.slice none 0 0,.slice none 0 0,.bool false,.int .i64 0,.bool false,.int .i64 0,.bool false,.int .i64 0,.slice none 0 0,.slice none 0 0,.int .i64 0,.int .i64 0,.int .i64 0,.slice none 0 0])) hlit).mpr (HTAIL.o (fun k=>a.eval (.tmp k)) _ (by rw[hR]))
 ·have HE:Hid (zi0 j q=(j,zav (crashE j.disk q))):=by rw[Hid,zi0,if_neg he]
  have he':(crashE j.disk q !=0)=true:=by simpa using he
  clear he hd2;generalize crashE j.disk q=E at *;obtain⟨e1,e2,e3,e4,rfl,_,_,_,_⟩:=hD1;go_wp2_with fail;obtain⟨W2,hW2⟩:∃W2,W2=w1.alloc (.cells #[.slice e1 d2.safe.length e2,.slice e3 d2.wr.length e4] 46):=⟨_,rfl⟩;have hb2:Below w1.heap.size w1 W2:=by rw[hW2];exact zab _ _
  have KR:=zaa (zad hb2 hs1 KR1.o);have HB1:Hid (ButL [B] w.heap.size w W2):=ButL.of_below (zae HBW.o hb2);have hrl:w.heap.size<W2.heap.size:=Nat.lt_of_lt_of_le hs1 hb2.size;have hrB:w.heap.size≠B:=by omega
  replace HJ1:=zaa (HJ1.o.below hb2)
  rw[←hW2];clear hW2 hb2 KR1;refine(zat E _).mono ?_;rintro e w2 ⟨rfl,hb2⟩;have KR2:=zaa (zad hb2 hrl KR.o);have HJ2:=zaa (HJ1.o.below hb2);have HB2:=zaa (HB1.o.trans (Y:=[]) (ButL.of_below hb2) HB1.o.size (by simp));clear hb2;obtain⟨⟨y0,y1,y2⟩,yf⟩:=zbj KR2.o;go_wp2;exact zbc HE.o KR2.o HJ2.o HB2.o hrB hBX fun W u0 u1 u2=>by simp[results,Tryz.results45,go_sem,u0,u1,u2]
end Go.Proofs.YtjnpndfpajjihacGreat

