/-
  
-/
import Derived.Test.YtjnpndfpajjihacGreatGrTopWhole32
import Derived.Test.YtjnpndfpajjihacGreatRInv
import Derived.Test.YtjnpndfpajjihacGreatXNewest
set_option maxRecDepth 100000
set_option maxHeartbeats 40000000
namespace Go.Proofs.YtjnpndfpajjihacGreat
open Go.RowKit
theorem zq8 (W:World)(q:Int):IsTx W (.agg #[.int .i64 q,.slice none 0 0,.slice none 0 0,.slice none 0 0,.bool false,.int .i64 0,.bool false,.int .i64 0,.bool false,.int .i64 0]) (zcu q):=
 ⟨none,0,none,0,none,0,rfl,.inl rfl,.inl rfl,.inl rfl,Nat.zero_le _,Nat.zero_le _,Nat.zero_le _⟩
theorem z3b (q:Int):RoomTx (.agg #[.int .i64 q,.slice none 0 0,.slice none 0 0,.slice none 0 0,.bool false,.int .i64 0,.bool false,.int .i64 0,.bool false,.int .i64 0]):=
 ⟨_,_,_,_,_,_,_,_,_,_,_,_,_,_,_,_,rfl,Nat.le_refl _,Nat.le_refl _,Nat.le_refl _⟩
theorem ButL.setRow {X:List Nat}{base:Nat}{w w1:World}(h:ButL X base w w1){b:Nat}(hb:b∈X∨base≤b)(cs:Array Value):ButL X base w (w1.setRow b cs):=
 ⟨h.os,h.tape,h.output,by simpa[World.setRow] using h.size,fun j hj hn=>(setRow_other _ _ _ _ (by intro e;subst e;rcases hb with h1|h1;exact hn h1;omega)).trans (h.block j hj hn)⟩
theorem JAt.putAll {w:World}{B:Nat}{X:List Nat}{j:Jn}{old:Array Value}(hB:B∈X)(hg:w.heap[B]?=some (.cells old 93 (0,0)))(da:Option Addr)(dc:Nat)(db:Option Addr)(dd:Nat)(na:Option Addr)(nc:Nat)(nb:Option Addr)(nd:Nat)(ne:Option Addr)(nf:Nat)(sa:Option Addr)(sc:Nat)(sb:Option Addr)(sd:Nat)(se:Option Addr)(sf:Nat)(ca:Option Addr)(cc:Nat)(fa:Option Addr)(fc:Nat)(ta:Option Addr)(tc:Nat)(hr:RowsJ w X j da dc db dd na nc nb nd ne nf sa sc sb sd se sf ca cc fa fc ta tc):JAt (w.setRow B (zbs j da dc db dd na nc nb nd ne nf sa sc sb sd se sf ca cc fa fc ta tc)) B X j:=
 ⟨hB,da,dc,db,dd,na,nc,nb,nd,ne,nf,sa,sc,sb,sd,se,sf,ca,cc,fa,fc,ta,tc,setRow_heap w B old _ _ _ hg,hr.ext (Ext.butL ((ButL.refl X _ w).setRow (.inl hB) _))⟩
theorem zhv (j:Jn)(da:Option Addr)(dc:Nat)(db:Option Addr)(dd:Nat)(na:Option Addr)(nc:Nat)(nb:Option Addr)(nd:Nat)(ne:Option Addr)(nf:Nat)(sa:Option Addr)(sc:Nat)(sb:Option Addr)(sd:Nat)(se:Option Addr)(sf:Nat)(ca:Option Addr)(cc:Nat)(fa:Option Addr)(fc:Nat)(ta:Option Addr)(tc:Nat):(zbs j da dc db dd na nc nb nd ne nf sa sc sb sd se sf ca cc fa fc ta tc).all (·.oneCell')=true:=by kernel_rfl
theorem z3c (j:Jn)(da:Option Addr)(dc:Nat)(db:Option Addr)(dd:Nat)(na:Option Addr)(nc:Nat)(nb:Option Addr)(nd:Nat)(ne:Option Addr)(nf:Nat)(sa:Option Addr)(sc:Nat)(sb:Option Addr)(sd:Nat)(se:Option Addr)(sf:Nat)(ca:Option Addr)(cc:Nat)(fa:Option Addr)(fc:Nat)(ta:Option Addr)(tc:Nat):(Tryz.prog.info? 93).map (·.size)=some (zbs j da dc db dd na nc nb nd ne nf sa sc sb sd se sf ca cc fa fc ta tc).size:=by kernel_rfl
theorem zpc {X:List Nat}{B:Nat}(hB:B∈X)(w:World)(v0 v1 v2 v3 v4 v5 v6 v7 v8 v9:Value):Ext (zar w X) (zar ((((((((((w.setCell ⟨B,0,none⟩ (v0)).setCell ⟨B,1,none⟩ (v1)).setCell ⟨B,2,none⟩ (v2)).setCell ⟨B,3,none⟩ (v3)).setCell ⟨B,4,none⟩ (v4)).setCell ⟨B,5,none⟩ (v5)).setCell ⟨B,6,none⟩ (v6)).setCell ⟨B,7,none⟩ (v7)).setCell ⟨B,8,none⟩ (v8)).setCell ⟨B,9,none⟩ (v9)) X):=
 Ext.butL (((((((((((ButL.refl X _ w).set (.inl hB) 0 v0).set (.inl hB) 1 v1).set (.inl hB) 2 v2).set (.inl hB) 3 v3).set (.inl hB) 4 v4).set (.inl hB) 5 v5).set (.inl hB) 6 v6).set (.inl hB) 7 v7).set (.inl hB) 8 v8).set (.inl hB) 9 v9)
theorem zij {t:Tx}{h b:Int}(e:reachE t h b=0):0≤b∧b≤11:=by
 unfold reachE at e;split at e
 ·cases e
 ·split at e
  ·cases e
  ·rename_i hx;omega
theorem zrk {t:Tx}{h b:Int}{s:ByteArray}(e:changeE t h b s=0):0≤b∧b≤11:=by
 unfold changeE at e;split at e
 ·rename_i A;exact absurd e A
 ·rename_i A;exact zij (by simpa using A)
theorem zxg {t:Tx}{h b:Int}{s:ByteArray}(e:fillE t h b s=0):0≤b∧b≤11:=by
 unfold fillE at e;split at e
 ·rename_i A;exact absurd e A
 ·rename_i A;exact zij (by simpa using A)
theorem zrl {t:Tx}{h b:Int}(e:revokeE t h b=0):0≤b∧b≤11:=by
 unfold revokeE at e;split at e
 ·rename_i A;exact absurd e A
 ·rename_i A;exact zij (by simpa using A)
section
variable {w:World} {X:List Nat} {n:Nat}
theorem IsTx.hideF {v:Value}{t:Tx}(h:IsTx w v t)(hF:zo9 n v t)(hX:∀x∈X,x<n):IsTx (zar w X) v t:=by
 obtain⟨a,c,C,F,r,d,rfl,I,A,J,E⟩:=h;obtain⟨b0,b1,b2,b3,b4,b5,e,f1,B,D⟩:=hF;simp only[Value.agg.injEq] at e
 injection e with e
 simp only[List.cons.injEq,Value.slice.injEq,true_and,and_true] at e;obtain⟨⟨rfl,rfl⟩,⟨rfl,rfl⟩,rfl,rfl⟩:=e;exact⟨a,c,C,F,r,d,rfl,I.hideF f1 hX,A.hideF B hX,J.hideF D hX,E⟩
theorem SegW.as {a:Option Addr}{l l2:List (Int×ByteArray)}(h:SegW (zar w X) a l)(h2:SegW w a l2)(e:l.length=l2.length):SegW (zar w X) a l2:=by
 rcases h2 with t|⟨x,off,rfl,hlt,hc⟩
 ·exact .inl t
 ·rcases h with s|⟨y,off',he,hlt',hc'⟩
  ·exact .inl (List.eq_nil_of_length_eq_zero (by rw[←e,s];rfl))
  ·cases he;by_cases h0:l2.length=0
   ·exact .inl (List.eq_nil_of_length_eq_zero h0)
   ·have A:=(zbv (hc' 0 (by omega)).1).1;exact .inr ⟨x,off,rfl,by rw[zbh];exact hlt,fun i hi=>⟨zbz A (hc i hi).1,zbz A (hc i hi).2⟩⟩
theorem SegI.as {a:Option Addr}{l l2:List Int}(h:SegI (zar w X) a l)(h2:SegI w a l2)(e:l.length=l2.length):SegI (zar w X) a l2:=by
 rcases h2 with t|⟨x,off,rfl,hlt,hc⟩
 ·exact .inl t
 ·rcases h with s|⟨y,off',he,hlt',hc'⟩
  ·exact .inl (List.eq_nil_of_length_eq_zero (by rw[←e,s];rfl))
  ·cases he;by_cases h0:l2.length=0
   ·exact .inl (List.eq_nil_of_length_eq_zero h0)
   ·have A:=(zbv (hc' 0 (by omega))).1;exact .inr ⟨x,off,rfl,by rw[zbh];exact hlt,fun i hi=>zbz A (hc i hi)⟩
theorem IsTx.asTx {v:Value}{t t2:Tx}(h:IsTx (zar w X) v t)(h2:IsTx w v t2):IsTx (zar w X) v t2:=by
 obtain⟨a,c,C,N,r,d,rfl,J,D,M,_⟩:=h;obtain⟨b0,b1,b2,b3,b4,b5,e,K,A,F,O⟩:=h2;have B:=e;simp only[Value.agg.injEq] at e
 injection e with e
 simp only[List.cons.injEq,Value.slice.injEq,and_true] at e;obtain⟨_,⟨rfl,L,rfl⟩,⟨rfl,E,rfl⟩,⟨rfl,I,rfl⟩,_⟩:=e;exact⟨a,c,C,N,r,d,B,J.as K L,D.as A E,M.as F I,O⟩
end
def zmb (W:World)(u:Value)(w:World):Prop:=Below W.heap.size W w∧(u=undef∨∃T,u=.pointer (some ⟨T,0,none⟩)∧W.heap.size≤T∧T<w.heap.size∧∃c0 c1 c2 c3 c4 c5 c6 c7 c8 c9,w.heap[T]?=some (.cells #[c0,c1,c2,c3,c4,c5,c6,c7,c8,c9] 40 (0,0)))
theorem zfw {W:World}{u:Value}{w w':World}(h:zmb W u w)(hb:Below w.heap.size w w'):zmb W u w':=
 ⟨zae h.1 hb,h.2.imp id fun⟨T,h1,h2,h3,c0,c1,c2,c3,c4,c5,c6,c7,c8,c9,h4⟩=>⟨T,h1,h2,Nat.lt_of_lt_of_le h3 hb.size,c0,c1,c2,c3,c4,c5,c6,c7,c8,c9,zad hb h3 h4⟩⟩
def okTx (X:List Nat)(t:Tx)(v2 u:Value)(w:World):Prop:=IsTx (zar w X) v2 t∧RoomTx v2∧∀T,u=.pointer (some ⟨T,0,none⟩)→IsTx (zar w (T::X)) v2 t
theorem okTx.below {X:List Nat}{t:Tx}{v2 u:Value}{w w':World}(h:okTx X t v2 u w)(hb:Below w.heap.size w w'):okTx X t v2 u w':=
 ⟨h.1.ext (Ext.freshL hb),h.2.1,fun T e=>(h.2.2 T e).ext (Ext.freshL hb)⟩
theorem okTx.alloc {X:List Nat}{t:Tx}{v2 u:Value}{w:World}(h:okTx X t v2 u w)(o:Obj):okTx X t v2 (.pointer (some ⟨w.heap.size,0,none⟩)) (w.alloc o):=
 ⟨h.1.ext (Ext.freshL (zaa _ _)),h.2.1,fun T e=>by cases e;exact h.1.ext (Ext.newL (zaa _ _) (Nat.le_refl _))⟩
theorem okTx.store {X:List Nat}{t:Tx}{x:Value}{T:Nat}{w:World}(h:okTx X t x (.pointer (some ⟨T,0,none⟩)) w)(v0 v1 v2 v3 v4 v5 v6 v7 v8 v9:Value):okTx X t x (.pointer (some ⟨T,0,none⟩)) ((((((((((w.setCell ⟨T,0,none⟩ (v0)).setCell ⟨T,1,none⟩ (v1)).setCell ⟨T,2,none⟩ (v2)).setCell ⟨T,3,none⟩ (v3)).setCell ⟨T,4,none⟩ (v4)).setCell ⟨T,5,none⟩ (v5)).setCell ⟨T,6,none⟩ (v6)).setCell ⟨T,7,none⟩ (v7)).setCell ⟨T,8,none⟩ (v8)).setCell ⟨T,9,none⟩ (v9)):=by
 have k:=(h.2.2 T rfl).ext (zpc (X:=T::X) (B:=T) (by simp) w v0 v1 v2 v3 v4 v5 v6 v7 v8 v9);exact⟨k.ext (Ext.lessL T),h.2.1,fun T' e=>by cases e;exact k⟩
theorem okTx.made {X:List Nat}{t t2:Tx}{v v2 u:Value}{W w w2:World}(hX:∀x∈X,x<W.heap.size)(hT:IsTx (zar W X) v t)(hR:RoomTx v)(hB:zmb W u w)(h2:IsTx w2 v2 t2)(hb:Below w.heap.size w w2)(hv:v2=v∨za0 w.heap.size v2 t2):okTx X t2 v2 u w2:=by
 have B:=zae hB.1 hb
 have A:∀T,u=.pointer (some ⟨T,0,none⟩)→W.heap.size≤T∧T<w.heap.size:=by
  intro T e;rcases hB.2 with h0|⟨T',e',h3,h4,_⟩
  ·rw[h0] at e;cases e
  ·rw[e'] at e;cases e;exact⟨h3,h4⟩
 rcases hv with rfl|hv
 ·exact⟨(hT.ext (Ext.freshL B)).asTx h2,hR,fun T e=>(hT.ext (Ext.newL B (A T e).1)).asTx h2⟩
 ·have hs:=hB.1.size
  exact⟨h2.hideF hv.1 (fun x hx=>by have:=hX x hx;omega),hv.2,fun T e=>h2.hideF hv.1 (fun x hx=>by
   rcases List.mem_cons.1 hx with rfl|hx
   ·exact(A _ e).2
   ·have:=hX x hx;omega)⟩
theorem JAt.role {w:World}{B:Nat}{X:List Nat}{j:Jn}(h:JAt w B X j)(b:Nat)(hb:b<12):w.cell? ⟨B,7+b*2,none⟩=some (.int .i64 (j.role b))∧w.cell? ⟨B,7+b*2+1,none⟩=some (.int .i64 (j.freed b))∧w.frozen? ⟨B,7+b*2,none⟩=false∧w.frozen? ⟨B,7+b*2+1,none⟩=false:=by
 obtain⟨_,da,dc,db,dd,na,nc,nb,nd,ne,nf,sa,sc,sb,sd,se,sf,ca,cc,fa,fc,ta,tc,A,_⟩:=h;have C:=zak A (7+b*2);have D:=zak A (7+b*2+1);refine⟨C.trans ?_,D.trans ?_,frozen_of_row w _ _ _ _ A,frozen_of_row w _ _ _ _ A⟩
 ·match b,hb with
  |0,_=>rfl
  |1,_=>rfl
  |2,_=>rfl
  |3,_=>rfl
  |4,_=>rfl
  |5,_=>rfl
  |6,_=>rfl
  |7,_=>rfl
  |8,_=>rfl
  |9,_=>rfl
  |10,_=>rfl
  |11,_=>rfl
  |n+12,hb=>omega
 ·match b,hb with
  |0,_=>rfl
  |1,_=>rfl
  |2,_=>rfl
  |3,_=>rfl
  |4,_=>rfl
  |5,_=>rfl
  |6,_=>rfl
  |7,_=>rfl
  |8,_=>rfl
  |9,_=>rfl
  |10,_=>rfl
  |11,_=>rfl
  |n+12,hb=>omega
end Go.Proofs.YtjnpndfpajjihacGreat


namespace Go.Proofs.YtjnpndfpajjihacGreat
open Tryz
open Go.RowKit
def zh4 (b:Int):List (Option Addr×Nat×List (Int×ByteArray))→Option ByteArray
 |[]=>none
 |x::r=>match zai b x.2.2 with
  |some s=>some s
  |none=>zh4 b r
theorem zto {b:Int}{L:List (Option Addr×Nat×List (Int×ByteArray))}{k:Nat}{x:Option Addr×Nat×List (Int×ByteArray)}(h:L[k]?=some x):zh4 b (L.drop k)=match zai b x.2.2 with|some s=>some s|none=>zh4 b (L.drop (k+1)):=by
 have A:=(List.getElem?_eq_some_iff.1 h).1;rw[List.drop_eq_getElem_cons A,(List.getElem?_eq_some_iff.1 h).2,zh4]
theorem ztp (j:Jn)(b:Int)(na nb sa sb ya:Option Addr)(nc nd sc sd yc:Nat):textJ j b=match zh4 b [(na,nc,j.now.info),(nb,nd,j.now.data),(sa,sc,j.sealed.info),(sb,sd,j.sealed.data),(ya,yc,newestL j.done)] with|some s=>(s,0)|none=>(zam j.disk (25+b),readE j.disk (25+b)):=by
 simp only[textJ,zh4]
 cases zai b j.now.info with
 |some s=>rfl
 |none=>
  cases zai b j.now.data with
  |some s=>rfl
  |none=>
   cases zai b j.sealed.info with
   |some s=>rfl
   |none=>
    cases zai b j.sealed.data with
    |some s=>rfl
    |none=>cases zai b (newestL j.done)<;>rfl
def zrm (B:Nat)(j:Jn)(na:Option Addr)(nc:Nat)(nb:Option Addr)(nd:Nat)(sa:Option Addr)(sc:Nat)(sb:Option Addr)(sd:Nat)(ca:Option Addr)(cc:Nat):Nat→Value→World→Prop
 |0,v,_=>v=.pointer (some ⟨B,0,none⟩)
 |1,v,_=>v=.pointer (some ⟨B,0,none⟩)
 |2,v,_=>v=.pointer (some ⟨B,31,none⟩)
 |3,v,_=>v=.pointer (some ⟨B,32,none⟩)
 |4,v,_=>v=.slice na j.now.info.length nc
 |5,v,_=>v=.pointer (some ⟨B,0,none⟩)
 |6,v,_=>v=.pointer (some ⟨B,0,none⟩)
 |7,v,_=>v=.pointer (some ⟨B,31,none⟩)
 |8,v,_=>v=.pointer (some ⟨B,33,none⟩)
 |9,v,_=>v=.slice nb j.now.data.length nd
 |10,v,_=>v=.pointer (some ⟨B,0,none⟩)
 |11,v,_=>v=.pointer (some ⟨B,0,none⟩)
 |12,v,_=>v=.pointer (some ⟨B,41,none⟩)
 |13,v,_=>v=.pointer (some ⟨B,42,none⟩)
 |14,v,_=>v=.slice sa j.sealed.info.length sc
 |15,v,_=>v=.pointer (some ⟨B,0,none⟩)
 |16,v,_=>v=.pointer (some ⟨B,0,none⟩)
 |17,v,_=>v=.pointer (some ⟨B,41,none⟩)
 |18,v,_=>v=.pointer (some ⟨B,43,none⟩)
 |19,v,_=>v=.slice sb j.sealed.data.length sd
 |20,v,_=>v=.pointer (some ⟨B,0,none⟩)
 |21,v,_=>v=.pointer (some ⟨B,0,none⟩)
 |22,v,_=>v=.pointer (some ⟨B,51,none⟩)
 |23,v,_=>v=.slice ca j.done.length cc
 |24,v,w=>∃(ya:Option Addr) (yc:Nat),v=.slice ya (newestL j.done).length yc∧SegW w ya (newestL j.done)
 |25,v,w=>∃(Bx:Nat) (ya:Option Addr) (yc:Nat),v=.slice (some ⟨Bx,0,none⟩) 5 5∧w.heap[Bx]?=some (.cells #[.slice na j.now.info.length nc,.slice nb j.now.data.length nd,.slice sa j.sealed.info.length sc,.slice sb j.sealed.data.length sd,.slice ya (newestL j.done).length yc] 34 (0,0))∧SegW w ya (newestL j.done)
 |26,v,_=>v=.int .i64 5
 |27,v,_=>v=.int .i64 0
 |_,_,_=>True
theorem zkg {B:Nat}{j:Jn}{na:Option Addr}{nc:Nat}{nb:Option Addr}{nd:Nat}{sa:Option Addr}{sc:Nat}{sb:Option Addr}{sd:Nat}{ca:Option Addr}{cc:Nat}{w w':World}(hb:Below w.heap.size w w'){i:Nat}:∀kk uu,kk≠i→zrm B j na nc nb nd sa sc sb sd ca cc kk uu w→zrm B j na nc nb nd sa sc sb sd ca cc kk uu w':=by
 intro kk uu _ h
 match kk,h with
 |0,h|1,h|2,h|3,h|4,h|5,h|6,h|7,h|8,h|9,h|10,h|11,h|12,h|13,h|14,h|15,h|16,h|17,h|18,h|19,h|20,h|21,h|22,h|23,h=>exact h
 |24,⟨ya,yc,h1,h2⟩=>exact⟨ya,yc,h1,h2.below hb⟩
 |25,⟨Bx,ya,yc,h1,h2,h3⟩=>exact⟨Bx,ya,yc,h1,zad hb (Array.getElem?_eq_some_iff.1 h2).1 h2,h3.below hb⟩
 |26,h|27,h=>exact h
 |_+28,_=>exact trivial
theorem z0c (B:Nat)(X:List Nat)(j:Jn)(w:World)(b:Int)(h:JAt w B X j)(hn:j.done.length≤maxLen)(hb0:0≤b)(hb1:b≤11):
  Calls prog 127 #[.pointer (some ⟨B,0,none⟩),.int .i64 b] w fun e w'=>e=.returned (.tuple #[.string (textJ j b).1,.int .i64 (textJ j b).2])∧Below w.heap.size w w':=by
 have HJ:=zab h;have M:=h.lt;have HN:=zab hn;obtain⟨_,da,dc,db,dd,N,Q,Z,R,ne,nf,U,Y,S,O,se,sf,ca,cc,fa,fc,ta,tc,m,hr⟩:=id h;have c1:w.cell? ⟨B,1,none⟩=some (.slice da j.disk.safe.length dc):=zak m 1;have c2:w.cell? ⟨B,2,none⟩=some (.slice db j.disk.wr.length dd):=zak m 2;have B3:w.cell? ⟨B,32,none⟩=some (.slice N j.now.info.length Q):=zak m 32;have B4:w.cell? ⟨B,33,none⟩=some (.slice Z j.now.data.length R):=zak m 33;have B6:w.cell? ⟨B,42,none⟩=some (.slice U j.sealed.info.length Y):=zak m 42;have B5:w.cell? ⟨B,43,none⟩=some (.slice S j.sealed.data.length O):=zak m 43;have C4:w.cell? ⟨B,51,none⟩=some (.slice ca j.done.length cc):=zak m 51;have C6:=zab B3;have D1:=zab B4;have C9:=zab B6;have C7:=zab B5;have D8:=zab C4;have C8:=zab (hr.2.2.2.1.ext (Ext.seenL w X));have A7:=zab (hr.2.1.ext (Ext.seenL w X)).rows;have A4:=zab (hr.2.2.1.ext (Ext.seenL w X)).rows;have D6:=zab (hr.1.ext (Ext.seenL w X));clear h hn m hr B3 B4 B6 B5 C4;go_enter func127,ntmps127;go_wp2;rename_i KK B1
 have A9:∀(g:Nat→Value) (I:World) (Bx:Nat) (D:Option Addr) (E:Nat),I.heap[Bx]?=some (.cells #[.slice N j.now.info.length Q,.slice Z j.now.data.length R,.slice U j.sealed.info.length Y,.slice S j.sealed.data.length O,.slice D (newestL j.done).length E] 34 (0,0))→SegW I D (newestL j.done)→Below w.heap.size w I→KK ⟨#[.pointer (some ⟨B,0,none⟩),.int .i64 b,g 2,g 3,.string ⟨#[]⟩,.int .i64 0,g 6,g 7,g 8,g 9,g 10,g 11,g 12,g 13,g 14,g 15,g 16,g 17,g 18,g 19,g 20,g 21,g 22,g 23,g 24,g 25,g 26,g 27,g 28,g 29,g 30,g 31,g 32,g 33,g 34,.slice (some ⟨Bx,0,none⟩) 5 5,.int .i64 5,.int .i64 0,g 38,g 39,g 40,g 41,g 42,g 43,g 44,g 45,g 46,g 47,g 48,g 49,g 50,g 51,g 52,g 53,g 54,g 55,g 56,g 57,g 58],[]⟩ I:=by
  intro g I Bx D E J A1 d;apply B1;clear B1;have A8:=zab (ztp j b N Z U S D Q R Y O E);obtain⟨l,A5⟩:∃l,l=[(N,Q,j.now.info),(Z,R,j.now.data),(U,Y,j.sealed.info),(S,O,j.sealed.data),(D,E,newestL j.done)]:=⟨_,rfl⟩;rw[←A5] at A8
  have B0:Hid (∀k x,l[k]?=some x→I.cell? ⟨Bx,k,none⟩=some (.slice x.1 x.2.2.length x.2.1)∧SegW I x.1 x.2.2∧x.2.2.length≤maxLen):=by
   intro k x F;rw[A5] at F
   match k,F with
   |0,F=>cases F;exact⟨(cell_of_row I _ 0 _ _ _ J).trans rfl,A7.o.1.below d,A7.o.2.2.2.1⟩
   |1,F=>cases F;exact⟨(cell_of_row I _ 1 _ _ _ J).trans rfl,A7.o.2.1.below d,A7.o.2.2.2.2.1⟩
   |2,F=>cases F;exact⟨(cell_of_row I _ 2 _ _ _ J).trans rfl,A4.o.1.below d,A4.o.2.2.2.1⟩
   |3,F=>cases F;exact⟨(cell_of_row I _ 3 _ _ _ J).trans rfl,A4.o.2.1.below d,A4.o.2.2.2.2.1⟩
   |4,F=>cases F;exact⟨(cell_of_row I _ 4 _ _ _ J).trans rfl,A1,by have E1:(newestL j.done).length≤12:=zej _ _;unfold maxLen;show(newestL j.done).length≤_;omega⟩
   |k+5,F=>simp at F
  have B8:Hid (l.length=5):=by rw[Hid,A5];rfl
  have D2:Bx<I.heap.size:=(Array.getElem?_eq_some_iff.1 J).1;have B9:=zab d;clear A5 J A1 d;go_wp2
  go_loopw [37] (fun i wr=>∃k:Nat,k≤5∧i=.int .i64 k∧Hid (zh4 b l=zh4 b (l.drop k))∧Hid (Below I.heap.size I wr)) (fun i _=>5 - (intOf i).toNat)
  case atStart=>exact⟨0,by omega,rfl,rfl,Below.refl _ _⟩
  case round=>
   obtain⟨k,hk,rfl,A2,u⟩:=hrel;by_cases hk5:k<5
   ·have E2:(k:Int)<5:=by omega
    obtain⟨x,F⟩:∃x,l[k]?=some x:=⟨_,List.getElem?_eq_getElem (by have:=B8.o;omega)⟩;obtain⟨r1,r2,r3⟩:=B0.o k x F;have c:=zac u.o D2 r1;have HS:=zab (r2.below u.o);have HM:=zab r3;have r:=zab (zto (b:=b) F);obtain⟨xa,xc,xl⟩:=x;dsimp only at c HS HM r;clear r1 r2 r3 F;go_wp2_with fail;refine(zk3 xa xc xl b _ HS.o HM.o).mono ?_;rintro e wq ⟨rfl,n⟩;have A6:=zab (zae u.o n);clear n c HS u
    cases ht:zai b xl with
    |some s=>
     have HT:Hid (textJ j b=(s,0)):=by
      have h2:=r.o;rw[ht] at h2;rw[Hid,A8.o,A2.o,h2]
     have C5:((some s:Option ByteArray).getD ⟨#[]⟩)=s:=rfl;have q:(some s:Option ByteArray).isSome=true:=rfl;rw[C5,q];clear ht C5 q r;go_wp2;refine bodyPost_ret (results_tmp2 rfl _ _ _) rfl ⟨by rw[HT.o];rfl,zae B9.o A6.o⟩
    |none=>
     have D7:Hid (zh4 b l=zh4 b (l.drop (k+1))):=by
      have h2:=r.o;rw[ht] at h2;rw[Hid,A2.o,h2]
     have q:(none:Option ByteArray).isSome=false:=rfl;rw[q];clear ht q r;go_wp2
     go_roundw
     case rel=>exact⟨k+1,by omega,by go_num,D7,A6⟩
     case measure=>first|(simp[intOf];omega)|simp[intOf]
   ·have e:k=5:=by omega
    subst e
    have HT:Hid (textJ j b=(zam j.disk (25+b),readE j.disk (25+b))):=by
     rw[Hid,A8.o,A2.o,List.drop_of_length_le (by have:=B8.o;omega)];rfl
    have A3:=zab (zae B9.o u.o);have d1:=zac A3.o M c1;have d2:=zac A3.o M c2;have HD:=zab (D6.o.below A3.o);have E0:IntKind.i64.wrap (25+b)=25+b:=by rw[IntKind.wrap_i64];omega
    clear A2 A8 B0;go_wp2_with fail;refine(zkt _ j.disk (25+b) _ HD.o).mono ?_;rintro e wq ⟨rfl,n⟩;have A6:=zab (zae A3.o n);clear n d1 d2;go_wp2;refine bodyPost_ret (results_tmp2 rfl _ _ _) rfl ⟨by rw[HT.o];rfl,A6.o⟩
 have B2:=zab A9;clear A9 B1;refine(show∀A0:Act,A0=_→Code.wp prog _ _ A0 _ from fun A0 hA0=>?_) _ rfl;have A:A0.tmps.size=59:=by rw[hA0];rfl
 have D9:A0.defers=[]:=by rw[hA0]
 have v0:A0.eval (.tmp 0)=.pointer (some ⟨B,0,none⟩):=by rw[hA0];rfl
 have v1:A0.eval (.tmp 1)=.int .i64 b:=by rw[hA0];rfl
 have v4:A0.eval (.tmp 4)=.string ⟨#[]⟩:=by rw[hA0];rfl
 have v5:A0.eval (.tmp 5)=.int .i64 0:=by rw[hA0];rfl
 clear hA0;refine zez (fun w'=>Below w.heap.size w w') [10,11,12,13,14,15,16,17,18,19,20,21,22,23,24,25,26,27,28,29,30,31,32,33,34,35,36,37] (zrm B j N Q Z R U Y S O ca cc) (by kernel_rfl) (by kernel_rfl) (by kernel_rfl) ((Below.refl _ _).drew) ⟨?_,?_,?_,?_,?_,?_,?_,?_,?_,?_,?_,?_,?_,?_,?_,?_,?_,?_,?_,?_,?_,?_,?_,?_,?_,?_,?_,?_,trivial⟩ ?_
 ·exact zbc v0 A (fun _=>rfl) fun ρ w' C z=>by simp only[execOp];go_simp
 ·exact zal 0 10 A (fun _ _ h=>h) (fun _=>rfl) fun ρ w' C p=>by simp only[execOp];go_simp
 ·exact zal 1 11 A (fun _ _ h=>h) (fun _=>rfl) fun ρ w' C p=>by simp only[execOp];go_simp
 ·exact zal 2 12 A (fun _ _ h=>h) (fun _=>rfl) fun ρ w' C p=>by simp only[execOp];go_simp
 ·exact zal 3 13 A (fun _ _ h=>h) (fun _=>rfl) fun ρ w' C p=>by have c0:w'.cell? ⟨B,32,none⟩=some (.slice N j.now.info.length Q):=zac C M C6.o;simp only[execOp];go_simp
 ·exact zbc v0 A (fun _=>rfl) fun ρ w' C z=>by simp only[execOp];go_simp
 ·exact zal 5 15 A (fun _ _ h=>h) (fun _=>rfl) fun ρ w' C p=>by simp only[execOp];go_simp
 ·exact zal 6 16 A (fun _ _ h=>h) (fun _=>rfl) fun ρ w' C p=>by simp only[execOp];go_simp
 ·exact zal 7 17 A (fun _ _ h=>h) (fun _=>rfl) fun ρ w' C p=>by simp only[execOp];go_simp
 ·exact zal 8 18 A (fun _ _ h=>h) (fun _=>rfl) fun ρ w' C p=>by have c0:w'.cell? ⟨B,33,none⟩=some (.slice Z j.now.data.length R):=zac C M D1.o;simp only[execOp];go_simp
 ·exact zbc v0 A (fun _=>rfl) fun ρ w' C z=>by simp only[execOp];go_simp
 ·exact zal 10 20 A (fun _ _ h=>h) (fun _=>rfl) fun ρ w' C p=>by simp only[execOp];go_simp
 ·exact zal 11 21 A (fun _ _ h=>h) (fun _=>rfl) fun ρ w' C p=>by simp only[execOp];go_simp
 ·exact zal 12 22 A (fun _ _ h=>h) (fun _=>rfl) fun ρ w' C p=>by simp only[execOp];go_simp
 ·exact zal 13 23 A (fun _ _ h=>h) (fun _=>rfl) fun ρ w' C p=>by have c0:w'.cell? ⟨B,42,none⟩=some (.slice U j.sealed.info.length Y):=zac C M C9.o;simp only[execOp];go_simp
 ·exact zbc v0 A (fun _=>rfl) fun ρ w' C z=>by simp only[execOp];go_simp
 ·exact zal 15 25 A (fun _ _ h=>h) (fun _=>rfl) fun ρ w' C p=>by simp only[execOp];go_simp
 ·exact zal 16 26 A (fun _ _ h=>h) (fun _=>rfl) fun ρ w' C p=>by simp only[execOp];go_simp
 ·exact zal 17 27 A (fun _ _ h=>h) (fun _=>rfl) fun ρ w' C p=>by simp only[execOp];go_simp
 ·exact zal 18 28 A (fun _ _ h=>h) (fun _=>rfl) fun ρ w' C p=>by have c0:w'.cell? ⟨B,43,none⟩=some (.slice S j.sealed.data.length O):=zac C M C7.o;simp only[execOp];go_simp
 ·exact zbc v0 A (fun _=>rfl) fun ρ w' C z=>by simp only[execOp];go_simp
 ·exact zal 20 30 A (fun _ _ h=>h) (fun _=>rfl) fun ρ w' C p=>by simp only[execOp];go_simp
 ·exact zal 21 31 A (fun _ _ h=>h) (fun _=>rfl) fun ρ w' C p=>by simp only[execOp];go_simp
 ·exact zal 22 32 A (fun _ _ h=>h) (fun _=>rfl) fun ρ w' C p=>by have c0:w'.cell? ⟨B,51,none⟩=some (.slice ca j.done.length cc):=zac C M D8.o;simp only[execOp];go_simp
 ·intro a w' L C K;have p33:a.eval (.tmp 33)=.slice ca j.done.length cc:=K ⟨23,.data⟩ (by simp) rfl;refine zbp 126 #[.slice ca j.done.length cc] rfl rfl (by have pf:=Act.eval_func a 126;revert p33 pf;generalize a.eval=ρ;intro p33 pf;simp only[execOp];go_simp) _ (zmc ca cc j.done _ (C8.o.below C) HN.o) ?_;rintro e w2 ⟨v7,rfl,D3,C0⟩;obtain⟨D,E,rfl,D4,_⟩:=SegC.of_owns D3;refine⟨_,rfl,_,rfl,zae C C0,?_,zkg C0⟩;show zrm _ _ _ _ _ _ _ _ _ _ _ _ _ ((a.put (some 34) _).eval (.tmp 34)) w2;rw[zav L A (by decide)];exact⟨D,E,rfl,D4⟩
 ·intro a w' L C K;have B7:a.eval (.tmp 14)=.slice N j.now.info.length Q:=K ⟨4,.data⟩ (by simp) rfl;have C3:a.eval (.tmp 19)=.slice Z j.now.data.length R:=K ⟨9,.data⟩ (by simp) rfl;have C2:a.eval (.tmp 24)=.slice U j.sealed.info.length Y:=K ⟨14,.data⟩ (by simp) rfl;have p29:a.eval (.tmp 29)=.slice S j.sealed.data.length O:=K ⟨19,.data⟩ (by simp) rfl;obtain⟨D,E,p34,hS⟩:∃(D:Option Addr) (E:Nat),a.eval (.tmp 34)=.slice D (newestL j.done).length E∧SegW w' D (newestL j.done):=K ⟨24,.data⟩ (by simp) rfl;refine zfj (.slice (some ⟨w'.heap.size,0,none⟩) 5 5) rfl rfl (w':=w'.alloc (.cells #[.slice N j.now.info.length Q,.slice Z j.now.data.length R,.slice U j.sealed.info.length Y,.slice S j.sealed.data.length O,.slice D (newestL j.done).length E] 34)) (by revert B7 C3 C2 p29 p34;generalize a.eval=ρ;intro B7 C3 C2 p29 p34;simp only[execOp];go_simp) ⟨_,rfl,C.alloc C.size _,?_,zkg (zaa _ _)⟩;show zrm _ _ _ _ _ _ _ _ _ _ _ _ _ ((a.put (some 35) _).eval (.tmp 35)) _;rw[zav L A (by decide)];exact⟨_,D,E,rfl,heap_alloc_new _ _,hS.below (zaa _ _)⟩
 ·intro a w' L C K;obtain⟨Bx,D,E,p35,_⟩:∃(Bx:Nat) (D:Option Addr) (E:Nat),a.eval (.tmp 35)=.slice (some ⟨Bx,0,none⟩) 5 5∧w'.heap[Bx]?=some (.cells #[.slice N j.now.info.length Q,.slice Z j.now.data.length R,.slice U j.sealed.info.length Y,.slice S j.sealed.data.length O,.slice D (newestL j.done).length E] 34 (0,0))∧SegW w' D (newestL j.done):=K ⟨25,.data⟩ (by simp) rfl;exact zgi _ rfl rfl (by revert p35;generalize a.eval=ρ;intro p35;simp only[execOp];go_simp) L A C rfl
 ·intro a w' L C K;exact zgi _ rfl rfl (by have C1:=Act.eval_const a (.int .i64 0);revert C1;generalize a.eval=ρ;intro C1;simp only[execOp];go_simp) L A C rfl
 ·intro a W L C K;obtain⟨Bx,D,E,p35,J,A1⟩:∃(Bx:Nat) (D:Option Addr) (E:Nat),a.eval (.tmp 35)=.slice (some ⟨Bx,0,none⟩) 5 5∧W.heap[Bx]?=some (.cells #[.slice N j.now.info.length Q,.slice Z j.now.data.length R,.slice U j.sealed.info.length Y,.slice S j.sealed.data.length O,.slice D (newestL j.done).length E] 34 (0,0))∧SegW W D (newestL j.done):=K 25 (by decide);have p36:a.eval (.tmp 36)=.int .i64 5:=K 26 (by decide);have p37:a.eval (.tmp 37)=.int .i64 0:=K 27 (by decide);have D5:a.tmps.size=59:=L.size.trans A;have f0:a.eval (.tmp 0)=.pointer (some ⟨B,0,none⟩):=(L.other 0 rfl).trans v0;have f1:a.eval (.tmp 1)=.int .i64 b:=(L.other 1 rfl).trans v1;have f4:a.eval (.tmp 4)=.string ⟨#[]⟩:=(L.other 4 rfl).trans v4;have f5:a.eval (.tmp 5)=.int .i64 0:=(L.other 5 rfl).trans v5;have y:a=⟨#[_,_,_,_,_,_,_,_,_,_,_,_,_,_,_,_,_,_,_,_,_,_,_,_,_,_,_,_,_,_,_,_,_,_,_,_,_,_,_,_,_,_,_,_,_,_,_,_,_,_,_,_,_,_,_,_,_,_,_],[]⟩:=zcd a 59 D5 (L.defers.trans D9);dsimp only at y;rw[f0,f1,f4,f5,p35,p36,p37] at y;show KK a _;exact(congrArg (fun x=>KK x _) y).mpr (B2.o (fun k=>a.eval (.tmp k)) _ Bx D E J A1 C)
theorem z0d (B:Nat)(X:List Nat)(j:Jn)(w:World)(b:Int)(h:JAt w B X j)(hn:j.done.length≤maxLen):
  Calls prog 87 #[.pointer (some ⟨B,0,none⟩),.int .i64 b] w (zdf w B X (j,zjr j b)):=by
 have x:=zab h;have A1:=h.lt;have N:=h.1;have y:=zab hn;clear h hn;have A3:¬w.heap.size=B:=by omega
 have Q:w.heap.size≠B:=by omega
 obtain⟨M,J⟩:∃M,M=w.alloc (.cells #[.int .i64 0,.int .i64 0,.string ⟨#[]⟩] 31):=⟨_,rfl⟩;have K:Hid (JAt M B (w.heap.size::X) j):=by rw[J];exact x.o.more (zaa _ _) (Nat.le_refl _)
 have D:Hid (ButL [B] w.heap.size w M):=by rw[J];exact ButL.of_below (zaa _ _)
 have Z:Hid (M.heap[w.heap.size]?=some (.cells #[.int .i64 0,.int .i64 0,.string ⟨#[]⟩] 31 (0,0))):=by rw[J];exact heap_alloc_new _ _
 have L:w.heap.size<M.heap.size:=by rw[J];simp
 have R:=zab J;clear J;by_cases h0:b<0
 ·have c:Hid ((j,zjr j b)=(j,zas 4)):=by rw[Hid,zjr,if_pos (.inl h0)]
  go_enter func87,ntmps87;go_wp2_with fail;rw[←R.o];clear h0;refine(zat 4 _).mono ?_;rintro e S ⟨rfl,A⟩;have C:=zab (zad A L Z.o);have I:=zab (K.o.below A);have F:=zab (D.o.trans (Y:=[]) (ButL.of_below A) D.o.size (by simp));clear A;obtain⟨⟨n,p,q⟩,r⟩:=zbl C.o;go_wp2;exact zbf c.o C.o I.o F.o Q N fun W u0 u1 u2=>by simp[results,results87,go_sem,u0,u1,u2]
 ·by_cases h12:11<b
  ·have c:Hid ((j,zjr j b)=(j,zas 4)):=by rw[Hid,zjr,if_pos (.inr h12)]
   have U:b≥12:=by omega
   go_enter func87,ntmps87;go_wp2_with fail;rw[←R.o];clear h0 h12 U;refine(zat 4 _).mono ?_;rintro e S ⟨rfl,A⟩;have C:=zab (zad A L Z.o);have I:=zab (K.o.below A);have F:=zab (D.o.trans (Y:=[]) (ButL.of_below A) D.o.size (by simp));clear A;obtain⟨⟨n,p,q⟩,r⟩:=zbl C.o;go_wp2;exact zbf c.o C.o I.o F.o Q N fun W u0 u1 u2=>by simp[results,results87,go_sem,u0,u1,u2]
  ·have O:Hid (zjr j b=if(textJ j b).2=0 then⟨0,j.role b.toNat,(textJ j b).1⟩ else zas (textJ j b).2):=by rw[Hid,zjr,if_neg (by omega)]
   have s:0≤b:=by omega
   have u:b≤11:=by omega
   have U:¬(b≥12):=by omega
   have A0:b<12:=by omega
   go_enter func87,ntmps87;go_wp2_with fail;rw[←R.o];refine(z0c B (w.heap.size::X) j M b K.o y.o s u).mono ?_;rintro e S ⟨rfl,A⟩;have a:=zab (K.o.below A);have l:Hid (ButL [B] w.heap.size w S):=D.o.trans (Y:=[]) (ButL.of_below A) D.o.size (by simp);have i:=zab (zad A L Z.o);have A2:M.heap.size≤S.heap.size:=A.size;have m:w.heap.size<S.heap.size:=by omega
   clear A;by_cases he:(textJ j b).2=0
   ·have d:Hid ((j,zjr j b)=(j,⟨0,j.role b.toNat,(textJ j b).1⟩)):=by rw[Hid,O.o,if_pos he]
    rw[he];clear he O;generalize (textJ j b).1=TT at *;obtain⟨k,rfl⟩:∃k:Nat,b=(k:Int):=⟨b.toNat,by omega⟩;obtain⟨e1,_,_,_⟩:=a.o.role k (by omega);rw[Int.toNat_natCast] at d;have C:=i;have I:=a;have F:=l;obtain⟨⟨n,p,q⟩,r⟩:=zbl C.o;go_wp2;exact zbf d.o C.o I.o F.o Q N fun W u0 u1 u2=>by simp[results,results87,go_sem,u0,u1,u2]
   ·have c:Hid ((j,zjr j b)=(j,zas (textJ j b).2)):=by rw[Hid,O.o,if_neg he]
    have A4:((textJ j b).2 !=0)=true:=by simpa using he
    clear he O;generalize (textJ j b).2=E at *;have K:=a;have D:=l;have Z:=i;have L:=m;go_wp2_with fail;refine(zat E _).mono ?_;rintro e w3 ⟨rfl,A⟩;have C:=zab (zad A L Z.o);have I:=zab (K.o.below A);have F:=zab (D.o.trans (Y:=[]) (ButL.of_below A) D.o.size (by simp));clear A;obtain⟨⟨n,p,q⟩,r⟩:=zbl C.o;go_wp2;exact zbf c.o C.o I.o F.o Q N fun W u0 u1 u2=>by simp[results,results87,go_sem,u0,u1,u2]
open Go.RowKit
theorem zts (t:Tx)(ua:Option Addr)(uc:Nat)(ub:Option Addr)(ud:Nat)(ue:Option Addr)(uf:Nat)(w:World):
  Calls prog 124 #[.agg #[.int .i64 t.seq,.slice ua t.info.length uc,.slice ub t.data.length ud,.slice ue t.rev.length uf,.bool t.h0.on,.int .i64 t.h0.left,.bool t.h1.on,.int .i64 t.h1.left,.bool t.h2.on,.int .i64 t.h2.left]] w fun e w'=>e=.returned (.bool (zfa t))∧Below w.heap.size w w':=by
 by_cases h1:t.info.length=0
 ·by_cases h2:t.data.length=0
  ·by_cases h3:t.rev.length=0
   ·have A:Hid (zfa t=true):=by simp[Hid,zfa,h1,h2,h3]
    rw[h1,h2,h3];clear h1 h2 h3;go_enter func124,ntmps124;go_wp2;go_ret;exact⟨by rw[A.o];rfl,zaa _ _⟩
   ·have A:Hid (zfa t=false):=by simp[Hid,zfa,h1,h2,h3]
    have A0:(t.rev.length==0)=false:=by simpa using h3
    have A5:((t.rev.length:Int)==0)=false:=by simpa using h3
    rw[h1,h2];clear h1 h2 h3;go_enter func124,ntmps124;go_wp2;go_ret;exact⟨by rw[A.o];rfl,zaa _ _⟩
  ·have A:Hid (zfa t=false):=by simp[Hid,zfa,h1,h2]
   have A1:(t.data.length==0)=false:=by simpa using h2
   have A4:((t.data.length:Int)==0)=false:=by simpa using h2
   rw[h1];clear h1 h2;go_enter func124,ntmps124;go_wp2;go_ret;exact⟨by rw[A.o];rfl,zaa _ _⟩
 ·have A:Hid (zfa t=false):=by simp[Hid,zfa,h1]
  have A2:(t.info.length==0)=false:=by simpa using h1
  have A3:((t.info.length:Int)==0)=false:=by simpa using h1
  clear h1;go_enter func124,ntmps124;go_wp2;go_ret;exact⟨by rw[A.o];rfl,zaa _ _⟩
open Go.RowKit
theorem zg9 {w:World}{X:List Nat}{base:Nat}{e:TypeId}{size:Nat}{v:Value}{n:Nat}{xs:List Value}(h:w.ownsRow base e size v n xs)(hX:∀x∈X,x<base):(zar w X).ownsRow base e size v n xs:=by
 refine⟨h.1,?_⟩;rcases h.2 with h0|⟨g,cap,cur,hv,hg,hh,r⟩
 ·exact .inl h0
 ·exact .inr ⟨g,cap,cur,hv,hg,(zle (zpt hX hg)).trans hh,r⟩
theorem ScPost.foundH {w w':World}{d:Dk}{e:Ending}(h:ScPost w w' d e){X:List Nat}(hX:∀x∈X,x<w.heap.size):∃va vc,e=.returned (.tuple #[.agg #[.slice va (fndL d).length vc,.int .i64 (fndN d),.int .i64 (fndP d)],.int .i64 (scanE d)])∧SegTx (zar w' X) va (fndL d)∧Below w.heap.size w w':=by
 obtain⟨v,rfl,hb,N,J⟩:=h;by_cases hE:scanE d=0
 ·obtain⟨q,va,vc,rfl,F,O,D⟩:=J hE;have E:=zg9 O hX
  have I:∀x∈q,OwnR (zar w' X) w.heap.size x:=fun x hx=>by
   obtain⟨Q,L,M⟩:=D x hx;exact⟨zg9 Q hX,zg9 L hX,zg9 M hX⟩
  obtain⟨a,c,C,K,_⟩:=SegTx.of_owns E I;simp only[Value.slice.injEq] at C;obtain⟨rfl,_,rfl⟩:=C;have B:fndL d=q.map (·.t):=by rw[fndL,if_pos hE,F]
  have A:q.length=(zbw d).1.length:=by rw[←F,List.length_map]
  refine⟨va,vc,?_,by rw[B];exact K,hb⟩;rw[B,fndN,fndP,if_pos hE,if_pos hE,List.length_map,A]
 ·rw[N hE];refine⟨none,0,?_,.inl (by rw[fndL,if_neg hE]),hb⟩;rw[fndL,fndN,fndP,if_neg hE,if_neg hE,if_neg hE];rfl
def zpf (B:Nat)(D:Nat)(va:Option Addr)(vc:Nat)(d:Dk)(cs:List (Int×ByteArray)):Nat→Value→World→Prop
 |0,v,_=>v=.pointer (some ⟨B,0,none⟩)
 |1,v,_=>v=.pointer (some ⟨D,0,none⟩)
 |2,v,_=>v=.slice va (fndL d).length vc
 |3,v,w=>∃a c,v=.slice a cs.length c∧SegW w a cs
 |4,v,_=>v=.pointer (some ⟨D,2,none⟩)
 |5,v,_=>v=.int .i64 (fndP d)
 |6,v,_=>v=.pointer (some ⟨D,1,none⟩)
 |7,v,_=>v=.int .i64 (fndN d)
 |_,_,_=>True
theorem zpg {B:Nat}{D:Nat}{va:Option Addr}{vc:Nat}{d:Dk}{cs:List (Int×ByteArray)}{w w':World}(hb:Below w.heap.size w w'){i:Nat}:∀kk uu,kk≠i→zpf B D va vc d cs kk uu w→zpf B D va vc d cs kk uu w':=by
 intro kk uu _ h
 match kk,h with
 |0,h|1,h|2,h=>exact h
 |3,⟨a,c,h1,h2⟩=>exact⟨a,c,h1,h2.below hb⟩
 |4,h|5,h|6,h|7,h=>exact h
 |_+8,_=>exact trivial
theorem z0g (B:Nat)(X:List Nat)(j:Jn)(w:World)(h:JAt w B X j)(hX:∀x∈X,x<w.heap.size)(hFew0:j.down=true→j.steps=[]→∀t∈fndL j.disk,Few t):
  Calls prog 46 #[.pointer (some ⟨B,0,none⟩)] w (zdf w B X (zb9 j)):=by
 have HJ:=zab h;have F3:=h.lt;have u:=h.1;have HX:=zab hX;obtain⟨_,da,dc,db,dd,na,nc,nb,nd,ne,nf,sa,sc,sb,sd,se,sf,ca,cc,fa,fc,ta,tc,M,hr⟩:=h;have c1:w.cell? ⟨B,1,none⟩=some (.slice da j.disk.safe.length dc):=zak M 1;have c2:w.cell? ⟨B,2,none⟩=some (.slice db j.disk.wr.length dd):=zak M 2;have c6:w.cell? ⟨B,6,none⟩=some (.bool j.down):=zak M 6;have E3:=zab (hr.1.ext (Ext.seenL w X));clear M hr hX;have F1:¬w.heap.size=B:=by omega
 cases hd:j.down with
 |false=>
  have HE:Hid (zb9 j=(j,zas 9)):=by rw[Hid,zb9,if_pos (.inl hd)]
  rw[hd] at c6;clear hd;go_enter func46,ntmps46;go_wp2_with fail;obtain⟨b,F⟩:∃b,b=w.alloc (.cells #[.int .i64 0,.int .i64 0,.string ⟨#[]⟩] 31):=⟨_,rfl⟩;have I:Hid (JAt b B (w.heap.size::X) j):=by rw[F];exact HJ.o.more (zaa _ _) (Nat.le_refl _)
  have C:Hid (ButL [B] w.heap.size w b):=by rw[F];exact ButL.of_below (zaa _ _)
  have q:Hid (b.heap[w.heap.size]?=some (.cells #[.int .i64 0,.int .i64 0,.string ⟨#[]⟩] 31 (0,0))):=by rw[F];exact heap_alloc_new _ _
  have J:w.heap.size<b.heap.size:=by rw[F];simp
  have Q:w.heap.size≠B:=by omega
  rw[←F];clear F;refine(zat 9 _).mono ?_;rintro e w2 ⟨rfl,A⟩;have D:=zab (zad A J q.o);have c:=zab (I.o.below A);have S:=zab (C.o.trans (Y:=[]) (ButL.of_below A) C.o.size (by simp));clear A;obtain⟨⟨y0,y1,y2⟩,yf⟩:=zbl D.o;go_wp2;exact zbf HE.o D.o c.o S.o Q u fun W u0 u1 u2=>by simp[results,results46,go_sem,u0,u1,u2]
 |true=>
  rw[hd] at c6;go_enter func46,ntmps46;go_wp2_with fail;obtain⟨b,F⟩:∃b,b=w.alloc (.cells #[.int .i64 0,.int .i64 0,.string ⟨#[]⟩] 31):=⟨_,rfl⟩;have I:Hid (JAt b B (w.heap.size::X) j):=by rw[F];exact HJ.o.more (zaa _ _) (Nat.le_refl _)
  have C:Hid (ButL [B] w.heap.size w b):=by rw[F];exact ButL.of_below (zaa _ _)
  have q:Hid (b.heap[w.heap.size]?=some (.cells #[.int .i64 0,.int .i64 0,.string ⟨#[]⟩] 31 (0,0))):=by rw[F];exact heap_alloc_new _ _
  have J:w.heap.size<b.heap.size:=by rw[F];simp
  have Q:w.heap.size≠B:=by omega
  rw[←F];clear F;refine(zfk B (w.heap.size::X) j b I.o).mono ?_;rintro e N ⟨rfl,rfl⟩;by_cases hs:0<j.steps.length
  ·have HE:Hid (zb9 j=(j,zas 9)):=by rw[Hid,zb9,if_pos (.inr (by intro e;rw[e] at hs;simp at hs))]
   have A1:decide (0<j.steps.length)=true:=by simpa using hs
   rw[A1];clear hs A1 hd;go_wp2_with fail;refine(zat 9 _).mono ?_;rintro e w2 ⟨rfl,A⟩;have D:=zab (zad A J q.o);have c:=zab (I.o.below A);have S:=zab (C.o.trans (Y:=[]) (ButL.of_below A) C.o.size (by simp));clear A;obtain⟨⟨y0,y1,y2⟩,yf⟩:=zbl D.o;go_wp2;exact zbf HE.o D.o c.o S.o Q u fun W u0 u1 u2=>by simp[results,results46,go_sem,u0,u1,u2]
  ·have A1:decide (0<j.steps.length)=false:=by simpa using hs
   have B9:j.steps=[]:=List.eq_nil_of_length_eq_zero (by omega);have D2:¬(j.down=false∨j.steps≠[]):=by simp[hd,B9]
   have C1:=hFew0 hd B9;clear hFew0;have C9:=zab D2;rw[A1];clear hs A1 hd B9 D2 c1 c2 c6;obtain⟨_,ka,kc,kb,kd,na,nc,nb,nd,ne,nf,sa,sc,sb,sd,se,sf,ca,cc,fa,fc,ta,tc,M,hr⟩:=id I.o;have c1:N.cell? ⟨B,1,none⟩=some (.slice ka j.disk.safe.length kc):=zak M 1;have c2:N.cell? ⟨B,2,none⟩=some (.slice kb j.disk.wr.length kd):=zak M 2;have D5:=zab (hr.1.ext (Ext.seenL N _));clear M hr E3;go_wp2_with fail;refine(z2b _ _ _ _ j.disk _ D5.o).mono ?_;intro e K hP
   obtain⟨va,vc,rfl,C4,A3⟩:=hP.foundH (X:=w.heap.size::X) (fun x hx=>by
    rcases List.mem_cons.1 hx with rfl|hx
    ·exact J
    ·have:=HX.o x hx;omega)
   have A6:=zab C4;have A2:=zab (I.o.below A3);have B1:=zab (zad A3 J q.o);have r:=zab (C.o.trans (Y:=[]) (ButL.of_below A3) C.o.size (by simp));have A8:w.heap.size<K.heap.size:=Nat.lt_of_lt_of_le J A3.size;clear hP C4 A3 I q C c1 c2 D5 J HJ;obtain⟨d,hd⟩:∃d,d=j.disk:=⟨_,rfl⟩;rw[←hd] at A6 C1⊢;have C8:=zab hd;clear hd
   have E1:Hid (∀x∈w.heap.size::X,x<K.heap.size):=fun x hx=>by
    rcases List.mem_cons.1 hx with rfl|hx
    ·exact A8
    ·have:=HX.o x hx;omega
   by_cases hE:scanE d=0
   ·have B0:Hid (zb9 j=if checkE (newestL (fndL d)) (fndP d) (fndN d)=0 then({j with work:=11,steps:=zbr (newestL (fndL d)) (fndP d) (fndN d),fL:=fndL d,fN:=fndN d,fP:=fndP d},zas 0) else(j,zas (checkE (newestL (fndL d)) (fndP d) (fndN d)))):=by
     rw[Hid,zb9,if_neg C9.o,←C8.o,if_pos hE]
    rw[hE];clear hE;go_wp2;rename_i KK B4;obtain⟨O,Z⟩:∃O,O=K.alloc (.cells #[.slice va (fndL d).length vc,.int .i64 (fndN d),.int .i64 (fndP d)] 90):=⟨_,rfl⟩;have A:Below K.heap.size K O:=by rw[Z];exact zaa _ _
    have B2:=zab (A6.o.ext (Ext.freshL A));have D3:=zab (A2.o.below A);have C3:=zab (zad A A8 B1.o);have B7:=zab (r.o.trans (Y:=[]) (ButL.of_below A) r.o.size (by simp));have KF:Hid (O.heap[K.heap.size]?=some (.cells #[.slice va (fndL d).length vc,.int .i64 (fndN d),.int .i64 (fndP d)] 90 (0,0))):=by rw[Z];exact heap_alloc_new _ _
    have A9:K.heap.size<O.heap.size:=by rw[Z];simp
    obtain⟨⟨y0,y1,y2⟩,_⟩:=zbl KF.o;have Y0:=zab y0;have Y1:=zab y1;have Y2:=zab y2;have F0:B<K.heap.size:=A2.o.lt;rw[←Z];clear Z A y0 y1 y2 A6 A2 B1 r
    have B5:∀(g:Nat→Value) (R:World),JAt R B (w.heap.size::X) (zdx j 11 (newestL (fndL d)) (fndP d) (fndN d)).1→ButL [B] O.heap.size O R→KK ⟨#[.pointer (some ⟨B,0,none⟩),g 1,.pointer (some ⟨w.heap.size,0,none⟩),.pointer (some ⟨K.heap.size,0,none⟩),.int .i64 (zdx j 11 (newestL (fndL d)) (fndP d) (fndN d)).2,g 5,g 6,g 7,g 8,g 9,g 10,g 11,g 12,g 13,g 14,g 15,g 16,g 17,g 18,g 19,g 20,g 21,g 22,g 23,g 24,g 25,g 26,g 27,g 28,g 29,g 30,g 31,g 32,g 33,g 34,g 35,g 36,g 37,g 38,g 39,g 40,g 41,g 42,g 43],[]⟩ R:=by
     intro g R hJ y;apply B4;clear B4;have B8:=zab ((y.block _ (show w.heap.size<O.heap.size by omega) (by simp;omega)).trans C3.o);have C6:=zab ((y.block _ A9 (by simp;omega)).trans KF.o);have D4:=zab (B2.o.ext (Ext.butL (y.wider (Y:=w.heap.size::X) (by simp[u]))));have B6:=zab (B7.o.trans (Y:=[B]) y B7.o.size (by simp));have A5:w.heap.size<R.heap.size:=by have:=y.size;omega
     have Q:w.heap.size≠B:=by omega
     have i:=zab hJ;clear hJ y Y0 Y1 Y2 B2 D3 C3 B7 KF;by_cases hc:checkE (newestL (fndL d)) (fndP d) (fndN d)=0
     ·have A4:zdx j 11 (newestL (fndL d)) (fndP d) (fndN d)=({j with work:=11,steps:=zbr (newestL (fndL d)) (fndP d) (fndN d)},0):=by rw[zdx,if_pos hc]
      have HE:Hid (zb9 j=({j with work:=11,steps:=zbr (newestL (fndL d)) (fndP d) (fndN d),fL:=fndL d,fN:=fndN d,fP:=fndP d},zas 0)):=by rw[Hid,B0.o,if_pos hc]
      rw[A4] at i⊢;clear A4 hc B0;dsimp only at i⊢;obtain⟨_,da,dc,db,dd,na,nc,nb,nd,ne,nf,sa,sc,sb,sd,se,sf,ca,cc,fa,fc,ta,tc,M,_⟩:=id i.o;have E5:R.cell? ⟨B,52,none⟩=some (.slice fa j.fL.length fc):=zak M 52;have E6:R.cell? ⟨B,53,none⟩=some (.int .i64 j.fN):=zak M 53;have E2:R.cell? ⟨B,54,none⟩=some (.int .i64 j.fP):=zak M 54;have D8:R.frozen? ⟨B,52,none⟩=false:=frozen_of_row R _ _ _ _ M;have E0:R.frozen? ⟨B,53,none⟩=false:=frozen_of_row R _ _ _ _ M;have D7:R.frozen? ⟨B,54,none⟩=false:=frozen_of_row R _ _ _ _ M;clear M;obtain⟨⟨y0,y1,y2⟩,yf⟩:=zbl C6.o;go_wp2_with fail;obtain⟨W4,s⟩:∃W4,W4=((R.setCell ⟨B,52,none⟩ (.slice va (fndL d).length vc)).setCell ⟨B,53,none⟩ (.int .i64 (fndN d))).setCell ⟨B,54,none⟩ (.int .i64 (fndP d)):=⟨_,rfl⟩;have I:Hid (JAt W4 B (w.heap.size::X) {j with work:=11,steps:=zbr (newestL (fndL d)) (fndP d) (fndN d),fL:=fndL d,fN:=fndN d,fP:=fndP d}):=by rw[s];exact i.o.putFound (fndN d) (fndP d) D4.o
      have C:Hid (ButL [B] w.heap.size w W4):=by rw[s];exact((B6.o.set (.inl (by simp)) 52 _).set (.inl (by simp)) 53 _).set (.inl (by simp)) 54 _
      have q:Hid (W4.heap[w.heap.size]?=some (.cells #[.int .i64 0,.int .i64 0,.string ⟨#[]⟩] 31 (0,0))):=by rw[s];exact(Below.heap_setCell _ _ _ _ Q).trans ((Below.heap_setCell _ _ _ _ Q).trans ((Below.heap_setCell _ _ _ _ Q).trans B8.o))
      have J:w.heap.size<W4.heap.size:=by rw[s];simpa[World.setCell] using A5
      rw[←s];clear s y0 y1 y2 yf E5 E6 E2 D8 E0 D7 B8 C6 D4 B6 i A5;refine(zat 0 _).mono ?_;rintro e w2 ⟨rfl,A⟩;have D:=zab (zad A J q.o);have c:=zab (I.o.below A);have S:=zab (C.o.trans (Y:=[]) (ButL.of_below A) C.o.size (by simp));clear A;obtain⟨⟨y0,y1,y2⟩,yf⟩:=zbl D.o;go_wp2;exact zbf HE.o D.o c.o S.o Q u fun W u0 u1 u2=>by simp[results,results46,go_sem,u0,u1,u2]
     ·have A4:zdx j 11 (newestL (fndL d)) (fndP d) (fndN d)=(j,checkE (newestL (fndL d)) (fndP d) (fndN d)):=by rw[zdx,if_neg hc]
      have HE:Hid (zb9 j=(j,zas (checkE (newestL (fndL d)) (fndP d) (fndN d)))):=by rw[Hid,B0.o,if_neg hc]
      rw[A4] at i⊢;dsimp only at i⊢;have F4:(checkE (newestL (fndL d)) (fndP d) (fndN d)==0)=false:=by simpa using hc
      clear A4 hc B0;generalize checkE (newestL (fndL d)) (fndP d) (fndN d)=E at *;go_wp2_with fail;have I:=i;have C:=B6;have q:=B8;have J:=A5;refine(zat E _).mono ?_;rintro e w2 ⟨rfl,A⟩;have D:=zab (zad A J q.o);have c:=zab (I.o.below A);have S:=zab (C.o.trans (Y:=[]) (ButL.of_below A) C.o.size (by simp));clear A;obtain⟨⟨y0,y1,y2⟩,yf⟩:=zbl D.o;go_wp2;exact zbf HE.o D.o c.o S.o Q u fun W u0 u1 u2=>by simp[results,results46,go_sem,u0,u1,u2]
    have C2:=zab B5;clear B5 B4;refine(show∀A0:Act,A0=_→Code.wp prog _ _ A0 _ from fun A0 hA0=>?_) _ rfl;have U:A0.tmps.size=44:=by rw[hA0];rfl
    have E9:A0.defers=[]:=by rw[hA0]
    have v0:A0.eval (.tmp 0)=.pointer (some ⟨B,0,none⟩):=by rw[hA0];rfl
    have v2:A0.eval (.tmp 2)=.pointer (some ⟨w.heap.size,0,none⟩):=by rw[hA0];rfl
    have v3:A0.eval (.tmp 3)=.pointer (some ⟨K.heap.size,0,none⟩):=by rw[hA0];rfl
    clear hA0;refine zba 8 (fun N=>Below O.heap.size O N) [27,28,29,30,31,32,33,34] (zpf B K.heap.size va vc d (newestL (fndL d))) (by kernel_rfl) (by kernel_rfl) (by kernel_rfl) (by kernel_rfl) (by decide) ((Below.refl _ _).drew) ⟨?_,?_,?_,?_,?_,?_,?_,?_,trivial⟩ ?_
    ·exact zbc v0 U (fun _=>rfl) fun ρ N L z=>by simp only[execOp];go_simp
    ·exact zbc v3 U (fun _=>rfl) fun ρ N L z=>by simp only[execOp];go_simp
    ·exact zal 1 28 U (fun _ _ h=>h) (fun _=>rfl) fun ρ N L p=>by have c0:N.cell? ⟨K.heap.size,0,none⟩=some (.slice va (fndL d).length vc):=zac L A9 Y0.o;simp only[execOp];go_simp
    ·intro a N hF L hp;have p29:a.eval (.tmp 29)=.slice va (fndL d).length vc:=hp ⟨2,.data⟩ (by simp) rfl;refine zbp 78 #[.slice va (fndL d).length vc] rfl rfl (by have pf:=Act.eval_func a 78;revert p29 pf;generalize a.eval=ρ;intro p29 pf;simp only[execOp];go_simp) _ (zxp va vc (fndL d) _ ((B2.o.ext (Ext.seenL O (w.heap.size::X))).below L) (by have:=zom d;omega) C1) ?_;rintro e w2 ⟨v7,rfl,E4,C7⟩;obtain⟨ya,yc,rfl,B3,_⟩:=SegC.of_owns E4;refine⟨_,rfl,_,rfl,zae L C7,?_,zpg C7⟩;show zpf _ _ _ _ _ _ _ ((a.put (some 30) _).eval (.tmp 30)) w2;rw[zav hF U (by decide)];exact⟨ya,yc,rfl,B3⟩
    ·exact zbc v3 U (fun _=>rfl) fun ρ N L z=>by simp only[execOp];go_simp
    ·exact zal 4 31 U (fun _ _ h=>h) (fun _=>rfl) fun ρ N L p=>by have c0:N.cell? ⟨K.heap.size,2,none⟩=some (.int .i64 (fndP d)):=zac L A9 Y2.o;simp only[execOp];go_simp
    ·exact zbc v3 U (fun _=>rfl) fun ρ N L z=>by simp only[execOp];go_simp
    ·exact zal 6 33 U (fun _ _ h=>h) (fun _=>rfl) fun ρ N L p=>by have c0:N.cell? ⟨K.heap.size,1,none⟩=some (.int .i64 (fndN d)):=zac L A9 Y1.o;simp only[execOp];go_simp
    ·intro a W hF L hp;have p0:a.eval (.tmp 27)=.pointer (some ⟨B,0,none⟩):=hp 0 (by decide);obtain⟨ya,yc,p3,B3⟩:∃ya yc,a.eval (.tmp 30)=.slice ya (newestL (fndL d)).length yc∧SegW W ya (newestL (fndL d)):=hp 3 (by decide);have p5:a.eval (.tmp 32)=.int .i64 (fndP d):=hp 5 (by decide);have p7:a.eval (.tmp 34)=.int .i64 (fndN d):=hp 7 (by decide);show wpOps prog _ _ [8,9] a W;rw[wpOps_cons];refine zbp 77 #[.pointer (some ⟨B,0,none⟩),.int .i64 11,.slice ya (newestL (fndL d)).length yc,.int .i64 (fndP d),.int .i64 (fndN d)] rfl rfl (by have pf:=Act.eval_func a 77;have D6:=Act.eval_const a (.int .i64 11);revert p0 p3 p5 p7 pf D6;generalize a.eval=ρ;intro p0 p3 p5 p7 pf D6;simp only[execOp];go_simp) _ (zq7 B (w.heap.size::X) j W (D3.o.below L) (fun x hx=>Nat.lt_of_lt_of_le (E1.o x hx) (by have:=L.size;omega)) 11 ya yc (newestL (fndL d)) B3 (by have:=zej (newestF (fndL d)) 12;unfold newestL;omega) (fndP d) (fndN d)) ?_;rintro e w5 ⟨rfl,E8,E7⟩;refine⟨_,rfl,?_⟩;rw[wpOps_cons];have C5:a.tmps.size=44:=hF.size.trans U;obtain⟨m,l⟩:∃m,m=a.put (some 35) (.int .i64 (zdx j 11 (newestL (fndL d)) (fndP d) (fndN d)).2):=⟨_,rfl⟩;have D1:m.eval (.tmp 35)=.int .i64 (zdx j 11 (newestL (fndL d)) (fndP d) (fndN d)).2:=by rw[l];exact Act.eval_put_same _ _ _ (by rw[C5];decide)
     have C0:m.tmps.size=44:=by rw[l,Act.size_put];exact C5
     have D9:m.defers=[]:=by rw[l,Act.defers_put'];exact hF.defers.trans E9
     have o0:m.eval (.tmp 0)=.pointer (some ⟨B,0,none⟩):=by rw[l,Act.eval_put_ne _ _ _ _ (by decide)];exact(hF.other 0 rfl).trans v0
     have o2:m.eval (.tmp 2)=.pointer (some ⟨w.heap.size,0,none⟩):=by rw[l,Act.eval_put_ne _ _ _ _ (by decide)];exact(hF.other 2 rfl).trans v2
     have o3:m.eval (.tmp 3)=.pointer (some ⟨K.heap.size,0,none⟩):=by rw[l,Act.eval_put_ne _ _ _ _ (by decide)];exact(hF.other 3 rfl).trans v3
     show wpOp prog _ _ _ _ (a.put (some 35) (.int .i64 (zdx j 11 (newestL (fndL d)) (fndP d) (fndN d)).2)) w5;rw[←l];clear l;refine zbb (.int .i64 (zdx j 11 (newestL (fndL d)) (fndP d) (fndN d)).2) rfl rfl (by revert D1;generalize m.eval=ρ;intro D1;simp only[execOp];go_simp) ?_;obtain⟨a2,n⟩:∃a2,a2=m.put (some 4) (.int .i64 (zdx j 11 (newestL (fndL d)) (fndP d) (fndN d)).2):=⟨_,rfl⟩;have f4:a2.eval (.tmp 4)=.int .i64 (zdx j 11 (newestL (fndL d)) (fndP d) (fndN d)).2:=by rw[n];exact Act.eval_put_same _ _ _ (by rw[C0];decide)
     have f0:a2.eval (.tmp 0)=.pointer (some ⟨B,0,none⟩):=by rw[n,Act.eval_put_ne _ _ _ _ (by decide)];exact o0
     have f2:a2.eval (.tmp 2)=.pointer (some ⟨w.heap.size,0,none⟩):=by rw[n,Act.eval_put_ne _ _ _ _ (by decide)];exact o2
     have f3:a2.eval (.tmp 3)=.pointer (some ⟨K.heap.size,0,none⟩):=by rw[n,Act.eval_put_ne _ _ _ _ (by decide)];exact o3
     have A7:a2=⟨#[_,_,_,_,_,_,_,_,_,_,_,_,_,_,_,_,_,_,_,_,_,_,_,_,_,_,_,_,_,_,_,_,_,_,_,_,_,_,_,_,_,_,_,_],[]⟩:=zcd a2 44 (by rw[n,Act.size_put];exact C0) (by rw[n,Act.defers_put'];exact D9);dsimp only at A7;rw[f0,f2,f3,f4] at A7;show KK (m.put (some 4) (.int .i64 (zdx j 11 (newestL (fndL d)) (fndP d) (fndN d)).2)) w5;rw[←n];exact(congrArg (fun x=>KK x w5) A7).mpr (C2.o (fun k=>a2.eval (.tmp k)) w5 E8 ((ButL.of_below L).trans (Y:=[B]) E7 L.size (by simp)))
   ·have HE:Hid (zb9 j=(j,zas (scanE d))):=by rw[Hid,zb9,if_neg C9.o,←C8.o,if_neg hE]
    have F2:(scanE d !=0)=true:=by simpa using hE
    clear hE;generalize scanE d=E at *;go_wp2_with fail;obtain⟨O,Z⟩:∃O,O=K.alloc (.cells #[.slice va (fndL d).length vc,.int .i64 (fndN d),.int .i64 (fndP d)] 90):=⟨_,rfl⟩;have A:Below K.heap.size K O:=by rw[Z];exact zaa _ _
    have I:=zab (A2.o.below A);have q:=zab (zad A A8 B1.o);have C:=zab (r.o.trans (Y:=[]) (ButL.of_below A) r.o.size (by simp));have J:w.heap.size<O.heap.size:=Nat.lt_of_lt_of_le A8 A.size;rw[←Z];clear Z A A2 B1 r;refine(zat E _).mono ?_;rintro e w2 ⟨rfl,A⟩;have D:=zab (zad A J q.o);have c:=zab (I.o.below A);have S:=zab (C.o.trans (Y:=[]) (ButL.of_below A) C.o.size (by simp));clear A;obtain⟨⟨y0,y1,y2⟩,yf⟩:=zbl D.o;go_wp2;exact zbf HE.o D.o c.o S.o Q u fun W u0 u1 u2=>by simp[results,results46,go_sem,u0,u1,u2]
open Go.RowKit
def zu9 (B:Nat)(ca:Option Addr)(cc:Nat)(j:Jn):Nat→Value→World→Prop
 |0,v,_=>v=.pointer (some ⟨B,0,none⟩)
 |1,v,_=>v=.pointer (some ⟨B,0,none⟩)
 |2,v,_=>v=.pointer (some ⟨B,0,none⟩)
 |3,v,_=>v=.pointer (some ⟨B,51,none⟩)
 |4,v,_=>v=.slice ca j.done.length cc
 |5,v,w=>∃a c,v=.slice a (newestL j.done).length c∧SegW w a (newestL j.done)
 |6,v,_=>v=.pointer (some ⟨B,0,none⟩)
 |7,v,_=>v=.pointer (some ⟨B,0,none⟩)
 |8,v,_=>v=.pointer (some ⟨B,3,none⟩)
 |9,v,_=>v=.pointer (some ⟨B,3,none⟩)
 |10,v,_=>v=.int .i64 j.rh
 |11,v,_=>v=.pointer (some ⟨B,0,none⟩)
 |12,v,_=>v=.pointer (some ⟨B,0,none⟩)
 |13,v,_=>v=.pointer (some ⟨B,5,none⟩)
 |14,v,_=>v=.int .i64 j.last
 |15,v,_=>v=.int .i64 (j.last+1)
 |_,_,_=>True
theorem zr0 {B:Nat}{ca:Option Addr}{cc:Nat}{j:Jn}{w w':World}(hb:Below w.heap.size w w'){i:Nat}:∀kk uu,kk≠i→zu9 B ca cc j kk uu w→zu9 B ca cc j kk uu w':=by
 intro kk uu _ h
 match kk,h with
 |0,h|1,h|2,h|3,h|4,h=>exact h
 |5,⟨a,c,h1,h2⟩=>exact⟨a,c,h1,h2.below hb⟩
 |6,h|7,h|8,h|9,h|10,h|11,h|12,h|13,h|14,h|15,h=>exact h
 |_+16,_=>exact trivial
theorem zxv (B:Nat)(X:List Nat)(j:Jn)(w:World)(h:JAt w B X j)(hX:∀x∈X,x<w.heap.size)(hN:j.done.length≤maxLen)(hwp:IntKind.i64.wrap (j.last+1)=j.last+1):
  Calls prog 86 #[.pointer (some ⟨B,0,none⟩)] w (zdf w B X (zg2 j)):=by
 have HJ:=zab h;have D8:=h.lt;have A5:=h.1;have HX:=zab hX;have C8:=zab hwp;clear h hX hwp;have D7:¬w.heap.size=B:=by omega
 go_enter func86,ntmps86;go_wp2_with fail;obtain⟨m,N⟩:∃m,m=w.alloc (.cells #[.int .i64 0,.int .i64 0,.string ⟨#[]⟩] 31):=⟨_,rfl⟩;have S:Hid (JAt m B (w.heap.size::X) j):=by rw[N];exact HJ.o.more (zaa _ _) (Nat.le_refl _)
 have O:Hid (ButL [B] w.heap.size w m):=by rw[N];exact ButL.of_below (zaa _ _)
 have KR:Hid (m.heap[w.heap.size]?=some (.cells #[.int .i64 0,.int .i64 0,.string ⟨#[]⟩] 31 (0,0))):=by rw[N];exact heap_alloc_new _ _
 have u:w.heap.size<m.heap.size:=by rw[N];simp
 have y:w.heap.size≠B:=by omega
 rw[←N];clear N;refine(zfk B (w.heap.size::X) j m S.o).mono ?_;rintro e w' ⟨rfl,rfl⟩;by_cases hs:0<j.steps.length
 ·have HE:Hid (zg2 j=(j,zas 9)):=by rw[Hid,zg2,if_pos (by intro e;rw[e] at hs;simp at hs)]
  have U:decide (0<j.steps.length)=true:=by simpa using hs
  rw[U];clear hs U;go_wp2_with fail;refine(zat 9 _).mono ?_;rintro e w2 ⟨rfl,D⟩;have Z:=zab (zad D u KR.o);have K:=zab (S.o.below D);have R:=zab (O.o.trans (Y:=[]) (ButL.of_below D) O.o.size (by simp));clear D;obtain⟨⟨y0,y1,y2⟩,yf⟩:=zbl Z.o;go_wp2;exact zbf HE.o Z.o K.o R.o y A5 fun W u0 u1 u2=>by simp[results,results86,go_sem,u0,u1,u2]
 ·have U:decide (0<j.steps.length)=false:=by simpa using hs
  have s:j.steps=[]:=List.eq_nil_of_length_eq_zero (by omega);rw[U];clear hs U;obtain⟨_,da,dc,db,dd,na,nc,nb,nd,ne,nf,sa,sc,sb,sd,se,sf,n,q,fa,fc,ta,tc,h1,hr⟩:=id S.o;have D6:w'.cell? ⟨B,51,none⟩=some (.slice n j.done.length q):=zak h1 51;have C3:Hid (w'.cell? ⟨B,3,none⟩=some (.int .i64 j.rh)):=zak h1 3;have C5:Hid (w'.cell? ⟨B,5,none⟩=some (.int .i64 j.last)):=zak h1 5;have D4:Hid (w'.cell? ⟨B,51,none⟩=some (.slice n j.done.length q)):=zak h1 51;have C7:=zab hr.2.2.2.1;clear h1 hr;by_cases hd:j.done=[]
  ·have HE:Hid (zg2 j=(j,zas 4)):=by rw[Hid,zg2,if_neg (by simp[s]),if_pos hd]
   have hl:j.done.length=0:=by rw[hd];rfl
   clear hd s;go_wp2_with fail;refine(zat 4 _).mono ?_;rintro e w2 ⟨rfl,D⟩;have Z:=zab (zad D u KR.o);have K:=zab (S.o.below D);have R:=zab (O.o.trans (Y:=[]) (ButL.of_below D) O.o.size (by simp));clear D;obtain⟨⟨y0,y1,y2⟩,yf⟩:=zbl Z.o;go_wp2;exact zbf HE.o Z.o K.o R.o y A5 fun W u0 u1 u2=>by simp[results,results86,go_sem,u0,u1,u2]
  ·have HE:Hid (zg2 j=((zdx j 7 (newestL j.done) j.rh (j.last+1)).1,zas (zdx j 7 (newestL j.done) j.rh (j.last+1)).2)):=by rw[Hid,zg2,if_neg (by simp[s]),if_neg hd]
   have hl:((j.done.length:Int)==0)=false:=by
    have:=mt List.eq_nil_of_length_eq_zero hd;simp only[beq_eq_false_iff_ne];omega
   clear hd s;go_wp2;rename_i KK A6;clear D6 hl;obtain⟨I,B0⟩:∃I,I=w':=⟨_,rfl⟩;rw[←B0];subst B0
   have A1:∀(g:Nat→Value) (W3:World) (E:Int),E=(zdx j 7 (newestL j.done) j.rh (j.last+1)).2→JAt W3 B (w.heap.size::X) (zdx j 7 (newestL j.done) j.rh (j.last+1)).1→ButL [B] I.heap.size I W3→W3.heap[w.heap.size]?=some (.cells #[.int .i64 0,.int .i64 0,.string ⟨#[]⟩] 31 (0,0))→KK ⟨#[.pointer (some ⟨B,0,none⟩),g 1,.pointer (some ⟨w.heap.size,0,none⟩),g 3,g 4,g 5,g 6,g 7,g 8,g 9,g 10,g 11,g 12,g 13,g 14,g 15,g 16,g 17,g 18,g 19,g 20,g 21,g 22,g 23,g 24,g 25,g 26,g 27,g 28,g 29,g 30,g 31,g 32],[]⟩ (((W3.setCell ⟨w.heap.size,0,none⟩ (.int .i64 E)).setCell ⟨w.heap.size,1,none⟩ (.int .i64 0)).setCell ⟨w.heap.size,2,none⟩ (.string ⟨#[]⟩)):=by
    intro g W3 E hE hJ B8 hK;apply A6;clear A6;have K:=zab hJ;have R:=zab (O.o.trans (Y:=[B]) B8 O.o.size (by simp));obtain⟨W,hW⟩:∃W,W=(((W3.setCell ⟨w.heap.size,0,none⟩ (.int .i64 E)).setCell ⟨w.heap.size,1,none⟩ (.int .i64 0)).setCell ⟨w.heap.size,2,none⟩ (.string ⟨#[]⟩)):=⟨_,rfl⟩;have hX:=zf9 hK (.int .i64 E) (.int .i64 0) (.string ⟨#[]⟩);rw[←hW] at hX⊢;have B7:=zab hW;have D1:=zab hE;clear hW hE hK hJ B8;go_wp2;obtain⟨⟨u0,u1,u2⟩,_⟩:=zbl hX;refine bodyPost_ret (v:=.agg #[.int .i64 E,.int .i64 0,.string ⟨#[]⟩]) (by simp[results,results86,go_sem,u0,u1,u2]) rfl ⟨by rw[HE.o,D1.o];rfl,?_,?_⟩
    ·rw[HE.o,B7.o];exact zw0 K.o y A5 _ _ _
    ·rw[B7.o];exact((R.o.set (.inr (by omega)) 0 _).set (.inr (by omega)) 1 _).set (.inr (by omega)) 2 _
   have A9:=zab A1;clear A1 A6;have K:=S;have A7:B<I.heap.size:=by omega
   have hwp:=C8.o
   have C6:Hid (∀x∈w.heap.size::X,x<I.heap.size):=fun x hx=>by
    rcases List.mem_cons.1 hx with rfl|hx
    ·exact u
    ·have:=HX.o x hx;omega
   refine(show∀A0:Act,A0=_→Code.wp prog _ _ A0 _ from fun A0 hA0=>?_) _ rfl;have A:A0.tmps.size=33:=by rw[hA0];rfl
   have D5:A0.defers=[]:=by rw[hA0]
   have v0:A0.eval (.tmp 0)=.pointer (some ⟨B,0,none⟩):=by rw[hA0];rfl
   have v2:A0.eval (.tmp 2)=.pointer (some ⟨w.heap.size,0,none⟩):=by rw[hA0];rfl
   clear hA0;refine zba 16 (fun w'=>Below I.heap.size I w') [15,16,17,18,19,20,21,22,23,24,25,26,27,28,29,30] (zu9 B n q j) (by kernel_rfl) (by kernel_rfl) (by kernel_rfl) (by kernel_rfl) (by decide) ((Below.refl _ _).drew) ⟨?_,?_,?_,?_,?_,?_,?_,?_,?_,?_,?_,?_,?_,?_,?_,?_,trivial⟩ ?_
   ·exact zbc v0 A (fun _=>rfl) fun ρ w' C z=>by simp only[execOp];go_simp
   ·exact zbc v0 A (fun _=>rfl) fun ρ w' C z=>by simp only[execOp];go_simp
   ·exact zal 1 16 A (fun _ _ h=>h) (fun _=>rfl) fun ρ w' C p=>by simp only[execOp];go_simp
   ·exact zal 2 17 A (fun _ _ h=>h) (fun _=>rfl) fun ρ w' C p=>by simp only[execOp];go_simp
   ·exact zal 3 18 A (fun _ _ h=>h) (fun _=>rfl) fun ρ w' C p=>by have c0:w'.cell? ⟨B,51,none⟩=some (.slice n j.done.length q):=zac C A7 D4.o;simp only[execOp];go_simp
   ·intro a w' i C c;have C0:a.eval (.tmp 19)=.slice n j.done.length q:=c ⟨4,.data⟩ (by simp) rfl;refine zbp 126 #[.slice n j.done.length q] rfl rfl (by have b:=Act.eval_func a 126;revert C0 b;generalize a.eval=ρ;intro C0 b;simp only[execOp];go_simp) _ (zmc n q j.done _ ((C7.o.ext (Ext.seenL I (w.heap.size::X))).below C) hN) ?_;rintro e w2 ⟨v7,rfl,C9,B6⟩;obtain⟨l,yc,rfl,A3,_⟩:=SegC.of_owns C9;refine⟨_,rfl,_,rfl,zae C B6,?_,zr0 B6⟩;show zu9 _ _ _ _ _ ((a.put (some 20) _).eval (.tmp 20)) w2;rw[zav i A (by decide)];exact⟨l,yc,rfl,A3⟩
   ·exact zbc v0 A (fun _=>rfl) fun ρ w' C z=>by simp only[execOp];go_simp
   ·exact zal 6 21 A (fun _ _ h=>h) (fun _=>rfl) fun ρ w' C p=>by simp only[execOp];go_simp
   ·exact zal 7 22 A (fun _ _ h=>h) (fun _=>rfl) fun ρ w' C p=>by simp only[execOp];go_simp
   ·exact zal 8 23 A (fun _ _ h=>h) (fun _=>rfl) fun ρ w' C p=>by simp only[execOp];go_simp
   ·exact zal 9 24 A (fun _ _ h=>h) (fun _=>rfl) fun ρ w' C p=>by have c0:w'.cell? ⟨B,3,none⟩=some (.int .i64 j.rh):=zac C A7 C3.o;simp only[execOp];go_simp
   ·exact zbc v0 A (fun _=>rfl) fun ρ w' C z=>by simp only[execOp];go_simp
   ·exact zal 11 26 A (fun _ _ h=>h) (fun _=>rfl) fun ρ w' C p=>by simp only[execOp];go_simp
   ·exact zal 12 27 A (fun _ _ h=>h) (fun _=>rfl) fun ρ w' C p=>by simp only[execOp];go_simp
   ·exact zal 13 28 A (fun _ _ h=>h) (fun _=>rfl) fun ρ w' C p=>by have c0:w'.cell? ⟨B,5,none⟩=some (.int .i64 j.last):=zac C A7 C5.o;simp only[execOp];go_simp
   ·intro a w' i C c;have p29:a.eval (.tmp 29)=.int .i64 j.last:=c ⟨14,.data⟩ (by simp) rfl;exact zgi _ rfl rfl (by have d:=Act.eval_const a (.int .i64 1);revert p29 d;generalize a.eval=ρ;intro p29 d;simp only[execOp];go_simp) i A C rfl
   ·intro a W i C c;have B1:a.eval (.tmp 15)=.pointer (some ⟨B,0,none⟩):=c 0 (by decide);obtain⟨l,yc,B3,A3⟩:∃l yc,a.eval (.tmp 20)=.slice l (newestL j.done).length yc∧SegW W l (newestL j.done):=c 5 (by decide);have p25:a.eval (.tmp 25)=.int .i64 j.rh:=c 10 (by decide);have p30:a.eval (.tmp 30)=.int .i64 (j.last+1):=c 15 (by decide);show wpOps prog _ _ [16,17,18] a W;rw[wpOps_cons];refine zbp 77 #[.pointer (some ⟨B,0,none⟩),.int .i64 7,.slice l (newestL j.done).length yc,.int .i64 j.rh,.int .i64 (j.last+1)] rfl rfl (by have b:=Act.eval_func a 77;have d:=Act.eval_const a (.int .i64 7);revert B1 B3 p25 p30 b d;generalize a.eval=ρ;intro B1 B3 p25 p30 b d;simp only[execOp];go_simp) _ (zq7 B (w.heap.size::X) j W (K.o.below C) (fun x hx=>Nat.lt_of_lt_of_le (C6.o x hx) (by have:=C.size;omega)) 7 l yc (newestL j.done) A3 (by have:=zej (newestF j.done) 12;unfold newestL;omega) j.rh (j.last+1)) ?_;rintro e w5 ⟨rfl,D3,D2⟩;refine⟨_,rfl,?_⟩;rw[wpOps_cons];have B5:a.tmps.size=33:=i.size.trans A;obtain⟨E,B9⟩:∃E,E=(zdx j 7 (newestL j.done) j.rh (j.last+1)).2:=⟨_,rfl⟩;obtain⟨L,M⟩:∃L,L=a.put (some 31) (.int .i64 E):=⟨_,rfl⟩;have B2:L.eval (.tmp 31)=.int .i64 E:=by rw[M];exact Act.eval_put_same _ _ _ (by rw[B5];decide)
    have A4:L.tmps.size=33:=by rw[M,Act.size_put];exact B5
    have C1:L.defers=[]:=by rw[M,Act.defers_put'];exact i.defers.trans D5
    have o0:L.eval (.tmp 0)=.pointer (some ⟨B,0,none⟩):=by rw[M,Act.eval_put_ne _ _ _ _ (by decide)];exact(i.other 0 rfl).trans v0
    have o2:L.eval (.tmp 2)=.pointer (some ⟨w.heap.size,0,none⟩):=by rw[M,Act.eval_put_ne _ _ _ _ (by decide)];exact(i.other 2 rfl).trans v2
    rw[←B9];show wpOp prog _ _ _ _ (a.put (some 31) (.int .i64 E)) w5;rw[←M];clear M;refine zbp 43 #[.int .i64 E] rfl rfl (by have b:=Act.eval_func L 43;revert B2 b;generalize L.eval=ρ;intro B2 b;simp only[execOp];go_simp) _ (zat E w5) ?_;rintro e w6 ⟨rfl,A8⟩;refine⟨_,rfl,?_⟩;rw[wpOps_cons];obtain⟨F,J⟩:∃F,F=L.put (some 32) (.agg #[.int .i64 E,.int .i64 0,.string ⟨#[]⟩]):=⟨_,rfl⟩;have B4:F.eval (.tmp 32)=.agg #[.int .i64 E,.int .i64 0,.string ⟨#[]⟩]:=by rw[J];exact Act.eval_put_same _ _ _ (by rw[A4];decide)
    have f0:F.eval (.tmp 0)=.pointer (some ⟨B,0,none⟩):=by rw[J,Act.eval_put_ne _ _ _ _ (by decide)];exact o0
    have f2:F.eval (.tmp 2)=.pointer (some ⟨w.heap.size,0,none⟩):=by rw[J,Act.eval_put_ne _ _ _ _ (by decide)];exact o2
    have C2:F.tmps.size=33:=by rw[J,Act.size_put];exact A4
    have C4:F.defers=[]:=by rw[J,Act.defers_put'];exact C1
    show wpOp prog _ _ _ _ (L.put (some 32) (.agg #[.int .i64 E,.int .i64 0,.string ⟨#[]⟩])) w6;rw[←J];clear J;have Q:ButL [B] I.heap.size I w5:=(ButL.of_below C).trans (Y:=[B]) D2 C.size (by simp);have D9:I.heap.size≤w5.heap.size:=Q.size;have A2:=zad A8 (show w.heap.size<w5.heap.size by omega) ((Q.block _ u (by simpa using y)).trans KR.o);obtain⟨⟨y0,y1,y2⟩,yf⟩:=zbl A2;refine zcf rfl rfl (w':=(((w6.setCell ⟨w.heap.size,0,none⟩ (.int .i64 E)).setCell ⟨w.heap.size,1,none⟩ (.int .i64 0)).setCell ⟨w.heap.size,2,none⟩ (.string ⟨#[]⟩))) (by revert B4 f2;generalize F.eval=ρ;intro B4 f2;simp only[execOp];go_simp) ?_;have r:F=⟨#[_,_,_,_,_,_,_,_,_,_,_,_,_,_,_,_,_,_,_,_,_,_,_,_,_,_,_,_,_,_,_,_,_],[]⟩:=zcd F 33 C2 C4;dsimp only at r;rw[f0,f2] at r;show KK F _;refine(congrArg (fun x=>KK x _) r).mpr (A9.o (fun k=>F.eval (.tmp k)) w6 E B9 (D3.below A8) (Q.trans (Y:=[]) (ButL.of_below A8) Q.size (by simp)) A2)
open Go.RowKit
def zge (B:Nat)(D:Nat)(j:Jn)(ac:Ac)(X:List Nat)(na:Option Addr)(nc:Nat)(nb:Option Addr)(nd:Nat)(ne:Option Addr)(nf:Nat):Nat→Value→Value→World→Prop
 |0,v,_,_=>v=.pointer (some ⟨B,0,none⟩)
 |1,v,_,_=>v=.pointer (some ⟨B,0,none⟩)
 |2,v,_,_=>v=.pointer (some ⟨B,31,none⟩)
 |3,v,_,_=>v=.agg #[.int .i64 j.now.seq,.slice na j.now.info.length nc,.slice nb j.now.data.length nd,.slice ne j.now.rev.length nf,.bool j.now.h0.on,.int .i64 j.now.h0.left,.bool j.now.h1.on,.int .i64 j.now.h1.left,.bool j.now.h2.on,.int .i64 j.now.h2.left]
 |4,v,_,_=>v=.pointer (some ⟨D,1,none⟩)
 |5,v,_,_=>v=.int .i64 ac.h
 |6,v,_,_=>v=.pointer (some ⟨D,2,none⟩)
 |7,v,_,_=>v=.int .i64 ac.b
 |8,v,_,_=>v=.pointer (some ⟨D,4,none⟩)
 |9,v,_,_=>v=.string ac.text
 |10,v,_,_=>v=.string (fitT ac.text)
 |11,v,u,w=>∃v2,v=.tuple #[v2,.int .i64 (changeE j.now ac.h ac.b (fitT ac.text))]∧okTx X (zaf j.now ac.h ac.b (fitT ac.text)) v2 u w
 |12,v,u,w=>∃v2,v=.tuple #[v2,.int .i64 (changeE j.now ac.h ac.b (fitT ac.text))]∧okTx X (zaf j.now ac.h ac.b (fitT ac.text)) v2 u w
 |13,v,u,w=>okTx X (zaf j.now ac.h ac.b (fitT ac.text)) v u w
 |14,v,_,_=>v=.int .i64 (changeE j.now ac.h ac.b (fitT ac.text))
 |15,v,_,_=>∃T,v=.pointer (some ⟨T,0,none⟩)
 |16,v,_,w=>∃T ua uc ub ud ue uf,v=.pointer (some ⟨T,0,none⟩)∧w.heap[T]?=some (.cells #[.int .i64 (zaf j.now ac.h ac.b (fitT ac.text)).seq,.slice ua (zaf j.now ac.h ac.b (fitT ac.text)).info.length uc,.slice ub (zaf j.now ac.h ac.b (fitT ac.text)).data.length ud,.slice ue (zaf j.now ac.h ac.b (fitT ac.text)).rev.length uf,.bool (zaf j.now ac.h ac.b (fitT ac.text)).h0.on,.int .i64 (zaf j.now ac.h ac.b (fitT ac.text)).h0.left,.bool (zaf j.now ac.h ac.b (fitT ac.text)).h1.on,.int .i64 (zaf j.now ac.h ac.b (fitT ac.text)).h1.left,.bool (zaf j.now ac.h ac.b (fitT ac.text)).h2.on,.int .i64 (zaf j.now ac.h ac.b (fitT ac.text)).h2.left] 40 (0,0))∧IsTx (zar w (T::X)) (.agg #[.int .i64 (zaf j.now ac.h ac.b (fitT ac.text)).seq,.slice ua (zaf j.now ac.h ac.b (fitT ac.text)).info.length uc,.slice ub (zaf j.now ac.h ac.b (fitT ac.text)).data.length ud,.slice ue (zaf j.now ac.h ac.b (fitT ac.text)).rev.length uf,.bool (zaf j.now ac.h ac.b (fitT ac.text)).h0.on,.int .i64 (zaf j.now ac.h ac.b (fitT ac.text)).h0.left,.bool (zaf j.now ac.h ac.b (fitT ac.text)).h1.on,.int .i64 (zaf j.now ac.h ac.b (fitT ac.text)).h1.left,.bool (zaf j.now ac.h ac.b (fitT ac.text)).h2.on,.int .i64 (zaf j.now ac.h ac.b (fitT ac.text)).h2.left]) (zaf j.now ac.h ac.b (fitT ac.text))∧RoomTx (.agg #[.int .i64 (zaf j.now ac.h ac.b (fitT ac.text)).seq,.slice ua (zaf j.now ac.h ac.b (fitT ac.text)).info.length uc,.slice ub (zaf j.now ac.h ac.b (fitT ac.text)).data.length ud,.slice ue (zaf j.now ac.h ac.b (fitT ac.text)).rev.length uf,.bool (zaf j.now ac.h ac.b (fitT ac.text)).h0.on,.int .i64 (zaf j.now ac.h ac.b (fitT ac.text)).h0.left,.bool (zaf j.now ac.h ac.b (fitT ac.text)).h1.on,.int .i64 (zaf j.now ac.h ac.b (fitT ac.text)).h1.left,.bool (zaf j.now ac.h ac.b (fitT ac.text)).h2.on,.int .i64 (zaf j.now ac.h ac.b (fitT ac.text)).h2.left])
 |_,_,_,_=>True
theorem zmf {B:Nat}{D:Nat}{j:Jn}{ac:Ac}{X:List Nat}{na:Option Addr}{nc:Nat}{nb:Option Addr}{nd:Nat}{ne:Option Addr}{nf:Nat}{u:Value}{w w':World}(hb:Below w.heap.size w w'):∀kk x,zge B D j ac X na nc nb nd ne nf kk x u w→zge B D j ac X na nc nb nd ne nf kk x u w':=by
 intro kk x h
 match kk,h with
 |0,h|1,h|2,h|3,h|4,h|5,h|6,h|7,h|8,h|9,h|10,h=>exact h
 |11,⟨v2,h1,h2⟩=>exact⟨v2,h1,h2.below hb⟩
 |12,⟨v2,h1,h2⟩=>exact⟨v2,h1,h2.below hb⟩
 |13,h=>exact h.below hb
 |14,h|15,h=>exact h
 |16,⟨T,ua,uc,ub,ud,ue,uf,h1,h2,h3,h4⟩=>exact⟨T,ua,uc,ub,ud,ue,uf,h1,zad hb (Array.getElem?_eq_some_iff.1 h2).1 h2,h3.ext (Ext.freshL hb),h4⟩
 |_+17,_=>exact trivial
theorem zt3 {B:Nat}{D:Nat}{j:Jn}{ac:Ac}{X:List Nat}{na:Option Addr}{nc:Nat}{nb:Option Addr}{nd:Nat}{ne:Option Addr}{nf:Nat}{u:Value}{w:World}(o:Obj):∀kk x,zge B D j ac X na nc nb nd ne nf kk x u w→zge B D j ac X na nc nb nd ne nf kk x (.pointer (some ⟨w.heap.size,0,none⟩)) (w.alloc o):=by
 intro kk x h
 match kk,h with
 |0,h|1,h|2,h|3,h|4,h|5,h|6,h|7,h|8,h|9,h|10,h=>exact h
 |11,⟨v2,h1,h2⟩=>exact⟨v2,h1,h2.alloc o⟩
 |12,⟨v2,h1,h2⟩=>exact⟨v2,h1,h2.alloc o⟩
 |13,h=>exact h.alloc o
 |14,h|15,h=>exact h
 |16,⟨T,ua,uc,ub,ud,ue,uf,h1,h2,h3,h4⟩=>exact⟨T,ua,uc,ub,ud,ue,uf,h1,zad (zaa _ _) (Array.getElem?_eq_some_iff.1 h2).1 h2,h3.ext (Ext.freshL (zaa _ _)),h4⟩
 |_+17,_=>exact trivial
theorem zt4 {B:Nat}{D:Nat}{j:Jn}{ac:Ac}{X:List Nat}{na:Option Addr}{nc:Nat}{nb:Option Addr}{nd:Nat}{ne:Option Addr}{nf:Nat}{u:Value}{w w':World}(hs:∀t x,okTx X t x u w→okTx X t x u w'):∀kk x,kk≠16→zge B D j ac X na nc nb nd ne nf kk x u w→zge B D j ac X na nc nb nd ne nf kk x u w':=by
 intro kk x A h
 match kk,h with
 |0,h|1,h|2,h|3,h|4,h|5,h|6,h|7,h|8,h|9,h|10,h=>exact h
 |11,⟨y,h1,h2⟩=>exact⟨y,h1,hs _ _ h2⟩
 |12,⟨y,h1,h2⟩=>exact⟨y,h1,hs _ _ h2⟩
 |13,h=>exact hs _ _ h
 |14,h|15,h=>exact h
 |16,_=>exact absurd rfl A
 |_+17,_=>exact trivial
theorem zxw (B:Nat)(X:List Nat)(j:Jn)(w:World)(h:JAt w B X j)(hX:∀x∈X,x<w.heap.size)(ac:Ac)(hsz2:ac.text.size≤maxLen)(r1:j.now.info.length*24≤140737488355328)(r2:j.now.data.length*24≤140737488355328):
  Calls prog 82 #[.pointer (some ⟨B,0,none⟩),.agg #[.int .i64 ac.kind,.int .i64 ac.h,.int .i64 ac.b,.int .i64 ac.n,.string ac.text]] w (zdf w B X (zg1 j ac)):=by
 have HJ:=zab h;have J2:=h.lt;have B3:=h.1;have HX:=zab hX;clear h hX;go_enter func82,ntmps82;go_wp2;rename_i KK C4;obtain⟨F,A5⟩:∃F,F=(w.alloc (.cells #[.int .i64 ac.kind,.int .i64 ac.h,.int .i64 ac.b,.int .i64 ac.n,.string ac.text] 23)).alloc (.cells #[.int .i64 0,.int .i64 0,.string ⟨#[]⟩] 31):=⟨_,rfl⟩;have E1:(w.alloc (.cells #[.int .i64 ac.kind,.int .i64 ac.h,.int .i64 ac.b,.int .i64 ac.n,.string ac.text] 23)).heap.size=w.heap.size+1:=by simp
 have m:Hid (JAt F B ((w.heap.size+1)::X) j):=by rw[A5];exact(HJ.o.below (zaa _ _)).more (zaa _ _) (by omega)
 have p:Hid (Below w.heap.size w F):=by rw[A5];exact zae (zaa _ _) (zaa _ _)
 have K:Hid (F.heap[w.heap.size+1]?=some (.cells #[.int .i64 0,.int .i64 0,.string ⟨#[]⟩] 31 (0,0))):=by rw[A5,←E1];exact heap_alloc_new _ _
 have C1:Hid (F.heap[w.heap.size]?=some (.cells #[.int .i64 ac.kind,.int .i64 ac.h,.int .i64 ac.b,.int .i64 ac.n,.string ac.text] 23 (0,0))):=by rw[A5];exact zad (zaa _ _) (by omega) (heap_alloc_new _ _)
 have J3:F.heap.size=w.heap.size+2:=by rw[A5];simp
 have G6:Hid (∀x∈((w.heap.size+1)::X),x<F.heap.size):=fun x hx=>by
  rcases List.mem_cons.1 hx with rfl|hx
  ·omega
  ·have:=HX.o x hx;omega
 rw[←A5];clear A5 E1;have N:B<F.heap.size:=by omega
 have B4:w.heap.size<F.heap.size:=by omega
 have C5:∀(g:Nat→Value) (i:World) (T:Nat) (Z:Option Addr) (R:Nat) (d:Option Addr) (O:Nat) (Q:Option Addr) (U:Nat),IsTx (zar i (T::((w.heap.size+1)::X))) (.agg #[.int .i64 (zaf j.now ac.h ac.b (fitT ac.text)).seq,.slice Z (zaf j.now ac.h ac.b (fitT ac.text)).info.length R,.slice d (zaf j.now ac.h ac.b (fitT ac.text)).data.length O,.slice Q (zaf j.now ac.h ac.b (fitT ac.text)).rev.length U,.bool (zaf j.now ac.h ac.b (fitT ac.text)).h0.on,.int .i64 (zaf j.now ac.h ac.b (fitT ac.text)).h0.left,.bool (zaf j.now ac.h ac.b (fitT ac.text)).h1.on,.int .i64 (zaf j.now ac.h ac.b (fitT ac.text)).h1.left,.bool (zaf j.now ac.h ac.b (fitT ac.text)).h2.on,.int .i64 (zaf j.now ac.h ac.b (fitT ac.text)).h2.left]) (zaf j.now ac.h ac.b (fitT ac.text))→RoomTx (.agg #[.int .i64 (zaf j.now ac.h ac.b (fitT ac.text)).seq,.slice Z (zaf j.now ac.h ac.b (fitT ac.text)).info.length R,.slice d (zaf j.now ac.h ac.b (fitT ac.text)).data.length O,.slice Q (zaf j.now ac.h ac.b (fitT ac.text)).rev.length U,.bool (zaf j.now ac.h ac.b (fitT ac.text)).h0.on,.int .i64 (zaf j.now ac.h ac.b (fitT ac.text)).h0.left,.bool (zaf j.now ac.h ac.b (fitT ac.text)).h1.on,.int .i64 (zaf j.now ac.h ac.b (fitT ac.text)).h1.left,.bool (zaf j.now ac.h ac.b (fitT ac.text)).h2.on,.int .i64 (zaf j.now ac.h ac.b (fitT ac.text)).h2.left])→i.heap[T]?=some (.cells #[.int .i64 (zaf j.now ac.h ac.b (fitT ac.text)).seq,.slice Z (zaf j.now ac.h ac.b (fitT ac.text)).info.length R,.slice d (zaf j.now ac.h ac.b (fitT ac.text)).data.length O,.slice Q (zaf j.now ac.h ac.b (fitT ac.text)).rev.length U,.bool (zaf j.now ac.h ac.b (fitT ac.text)).h0.on,.int .i64 (zaf j.now ac.h ac.b (fitT ac.text)).h0.left,.bool (zaf j.now ac.h ac.b (fitT ac.text)).h1.on,.int .i64 (zaf j.now ac.h ac.b (fitT ac.text)).h1.left,.bool (zaf j.now ac.h ac.b (fitT ac.text)).h2.on,.int .i64 (zaf j.now ac.h ac.b (fitT ac.text)).h2.left] 40 (0,0))→F.heap.size≤T→Below F.heap.size F i→KK ⟨#[.pointer (some ⟨B,0,none⟩),g 1,g 2,.pointer (some ⟨w.heap.size,0,none⟩),.pointer (some ⟨w.heap.size+1,0,none⟩),.pointer (some ⟨T,0,none⟩),.int .i64 (changeE j.now ac.h ac.b (fitT ac.text)),g 7,g 8,g 9,g 10,g 11,g 12,g 13,g 14,g 15,g 16,g 17,g 18,g 19,g 20,g 21,g 22,g 23,g 24,g 25,g 26,g 27,g 28,g 29,g 30,g 31,g 32,g 33,g 34,g 35,g 36,g 37,g 38,g 39,g 40,g 41,g 42,g 43,g 44],[]⟩ i:=by
  intro g i T Z R d O Q U q u l A9 A7;apply C4;clear C4;have C7:=zab (q.ext (Ext.lessL T));have E2:=zab u;have KT:=zab l;have C0:=zab (m.o.below A7);have B7:=zab (zae p.o A7);have D4:=zab (zad A7 (show w.heap.size+1<F.heap.size by omega) K.o);have D3:=zab (zad A7 B4 C1.o);have J1:F.heap.size≤i.heap.size:=A7.size;have I0:T<i.heap.size:=(Array.getElem?_eq_some_iff.1 l).1;clear q u l A7 m p K C1;obtain⟨t,ht⟩:∃t,t=zaf j.now ac.h ac.b (fitT ac.text):=⟨_,rfl⟩;rw[←ht] at C7 E2 KT;have B0:w.heap.size+1≠B:=by omega
  by_cases he:changeE j.now ac.h ac.b (fitT ac.text)=0
  ·obtain⟨I1,H8⟩:=zrk he;obtain⟨c,C8⟩:∃c:Nat,ac.b=(c:Int):=⟨ac.b.toNat,by omega⟩;have B6:c<12:=by omega
   have HW:Hid (zg1 j ac=if j.role c=2 then(j,zas 8) else({j with role:=upd j.role c 1,now:=t},zas 0)):=by
    rw[Hid,zg1,if_pos he,←ht,C8,Int.toNat_natCast]
   rw[he];rw[C8] at D3;clear he ht C8 I1 H8;obtain⟨⟨y0,y1,y2,y3,y4⟩,yf⟩:=zhy D3.o;have I5:(0:Int)≤(c:Int):=by omega
   have I6:(c:Int)<12:=by omega
   go_wp2
   go_quiet (fail)
   obtain⟨W5,B8⟩:∃W5,W5=i.drewN nq:=⟨_,rfl⟩;have s:Below i.heap.size i W5:=by rw[B8];exact below_drewN (Below.refl _ _) _
   have B2:=zab (C0.o.below s);have C6:Hid (ButL [B] w.heap.size w W5):=ButL.of_below (zae B7.o s);have D1:=zab (zad s (show w.heap.size+1<i.heap.size by omega) D4.o);have G1:=zab (zad s I0 KT.o);have B9:=zab (C7.o.ext (Ext.freshL s));have J4:i.heap.size≤W5.heap.size:=s.size;rw[←B8];clear B8 s y0 y1 y2 y3 y4 yf C0 B7 D4 KT C7 D3;obtain⟨G5,_,H1,_⟩:=B2.o.role c B6;by_cases hro:j.role c=2
   ·have HE:Hid (zg1 j ac=(j,zas 8)):=by rw[Hid,HW.o,if_pos hro]
    rw[hro] at G5;clear hro HW;go_wp2_with fail;have B5:=B2;have A8:=C6;have KR:=D1;have D5:w.heap.size+1<W5.heap.size:=by omega
    refine(zat 8 _).mono ?_;rintro e y ⟨rfl,J⟩;have K:=zab (zad J D5 KR.o);have m:=zab (B5.o.below J);have p:=zab (A8.o.trans (Y:=[]) (ButL.of_below J) A8.o.size (by simp));clear J;obtain⟨⟨y0,y1,y2⟩,yf⟩:=zbl K.o;go_wp2;exact zbf HE.o K.o m.o p.o B0 B3 fun W u0 u1 u2=>by simp[results,results82,go_sem,u0,u1,u2]
   ·have HE:Hid (zg1 j ac=({j with role:=upd j.role c 1,now:=t},zas 0)):=by rw[Hid,HW.o,if_neg hro]
    have I4:(j.role c==2)=false:=by simpa using hro
    clear hro HW;obtain⟨⟨t0,t1,t2,t3,t4,t5,t6,t7,t8,t9⟩,tf⟩:=zaj G1.o;have I8:¬T=B:=by omega
    have I9:¬B=T:=by omega
    go_wp2_with fail;obtain⟨W6,A6⟩:∃W6,W6=W5.setCell ⟨B,7+c*2,none⟩ (.int .i64 1):=⟨_,rfl⟩;have E5:Hid (JAt W6 B ((w.heap.size+1)::X) {j with role:=upd j.role c 1}):=by rw[A6];exact B2.o.putRole c B6 1
    have C2:Hid (IsTx (zar W6 ((w.heap.size+1)::X)) (.agg #[.int .i64 t.seq,.slice Z t.info.length R,.slice d t.data.length O,.slice Q t.rev.length U,.bool t.h0.on,.int .i64 t.h0.left,.bool t.h1.on,.int .i64 t.h1.left,.bool t.h2.on,.int .i64 t.h2.left]) t):=by rw[A6];exact B9.o.ext (Ext.setL (by simp[B3]) _ _)
    have D2:Hid (ButL [B] w.heap.size w W6):=by rw[A6];exact C6.o.set (.inl (by simp)) _ _
    have G4:Hid (W6.heap[w.heap.size+1]?=some (.cells #[.int .i64 0,.int .i64 0,.string ⟨#[]⟩] 31 (0,0))):=by rw[A6];exact(Below.heap_setCell _ _ _ _ B0).trans D1.o
    have I7:W6.heap.size=W5.heap.size:=by rw[A6];simp[World.setCell]
    rw[←A6];clear A6 G5 H1 t0 t1 t2 t3 t4 t5 t6 t7 t8 t9 tf B2 B9 C6 D1 G1;refine(zje B ((w.heap.size+1)::X) _ W6 E5.o t Z R d O Q U C2.o E2.o 0).mono ?_;rintro e y ⟨rfl,D9,C9⟩;have m:Hid (JAt y B ((w.heap.size+1)::X) {j with role:=upd j.role c 1,now:=t}):=D9;have p:=zab (D2.o.trans (Y:=[B]) C9 D2.o.size (by simp));have K:=zab ((C9.block _ (show w.heap.size+1<W6.heap.size by omega) (by simpa using B0)).trans G4.o);clear D9 C9 E5 D2 G4 C2;dsimp only[zmt,vRp,zas];obtain⟨⟨y0,y1,y2⟩,yf⟩:=zbl K.o;go_wp2;exact zbf HE.o K.o m.o p.o B0 B3 fun W u0 u1 u2=>by simp[results,results82,go_sem,u0,u1,u2]
  ·have HE:Hid (zg1 j ac=(j,zas (changeE j.now ac.h ac.b (fitT ac.text)))):=by rw[Hid,zg1,if_neg he]
   have J0:(changeE j.now ac.h ac.b (fitT ac.text) !=0)=true:=by simpa using he
   clear he ht;generalize changeE j.now ac.h ac.b (fitT ac.text)=E at *;go_wp2_with fail;have B5:=C0;have A8:Hid (ButL [B] w.heap.size w i):=ButL.of_below B7.o;have KR:=D4;have D5:w.heap.size+1<i.heap.size:=by omega
   refine(zat E _).mono ?_;rintro e y ⟨rfl,J⟩;have K:=zab (zad J D5 KR.o);have m:=zab (B5.o.below J);have p:=zab (A8.o.trans (Y:=[]) (ButL.of_below J) A8.o.size (by simp));clear J;obtain⟨⟨y0,y1,y2⟩,yf⟩:=zbl K.o;go_wp2;exact zbf HE.o K.o m.o p.o B0 B3 fun W u0 u1 u2=>by simp[results,results82,go_sem,u0,u1,u2]
 have D6:=zab C5;clear C5 C4;obtain⟨_,da,dc,db,dd,na,nc,nb,nd,ne,nf,sa,sc,sb,sd,se,sf,ca,cc,fa,fc,ta,tc,z,hr⟩:=id m.o;have F5:F.cell? ⟨B,31,none⟩=some (.int .i64 j.now.seq):=zak z 31;have F2:F.cell? ⟨B,32,none⟩=some (.slice na j.now.info.length nc):=zak z 32;have E0:F.cell? ⟨B,33,none⟩=some (.slice nb j.now.data.length nd):=zak z 33;have D8:F.cell? ⟨B,34,none⟩=some (.slice ne j.now.rev.length nf):=zak z 34;have F7:F.cell? ⟨B,35,none⟩=some (.bool j.now.h0.on):=zak z 35;have E7:F.cell? ⟨B,36,none⟩=some (.int .i64 j.now.h0.left):=zak z 36;have G2:F.cell? ⟨B,37,none⟩=some (.bool j.now.h1.on):=zak z 37;have E9:F.cell? ⟨B,38,none⟩=some (.int .i64 j.now.h1.left):=zak z 38;have G3:F.cell? ⟨B,39,none⟩=some (.bool j.now.h2.on):=zak z 39;have E8:F.cell? ⟨B,40,none⟩=some (.int .i64 j.now.h2.left):=zak z 40;have G8:=zab F5;have G7:=zab F2;have G9:=zab E0;have H6:=zab D8;have H4:=zab F7;have H0:=zab E7;have H9:=zab G2;have H3:=zab E9;have H5:=zab G3;have I2:=zab E8;have F0:=zab hr.2.1;have H2:=zab hr.2.2.2.2.2.2.1;clear z hr F5 F2 E0 D8 F7 E7 G2 E9 G3 E8;obtain⟨⟨y0,y1,y2,y3,y4⟩,_⟩:=zhy C1.o;have A0:=zab y0;have A1:=zab y1;have A2:=zab y2;have A3:=zab y3;have A4:=zab y4;clear y0 y1 y2 y3 y4;refine(show∀A0:Act,A0=_→Code.wp prog _ _ A0 _ from fun A0 hA0=>?_) _ rfl;have I:A0.tmps.size=45:=by rw[hA0];rfl
 have I3:A0.defers=[]:=by rw[hA0]
 have v0:A0.eval (.tmp 0)=.pointer (some ⟨B,0,none⟩):=by rw[hA0];rfl
 have v3:A0.eval (.tmp 3)=.pointer (some ⟨w.heap.size,0,none⟩):=by rw[hA0];rfl
 have v4:A0.eval (.tmp 4)=.pointer (some ⟨w.heap.size+1,0,none⟩):=by rw[hA0];rfl
 have v5:A0.eval (.tmp 5)=undef:=by rw[hA0];rfl
 clear hA0;refine zda 17 5 (zmb F) [9,10,11,12,13,14,15,16,17,18,19,20,8,21,22,5,5] (zge B w.heap.size j ac ((w.heap.size+1)::X) na nc nb nd ne nf) (by kernel_rfl) (by kernel_rfl) (by kernel_rfl) (by kernel_rfl) (by decide) (⟨(Below.refl _ _).drew,.inl v5⟩) ⟨?_,?_,?_,?_,?_,?_,?_,?_,?_,?_,?_,?_,?_,?_,?_,?_,?_,trivial⟩ ?_
 ·intro a w' C A D;have z0:=(C.other 0 rfl).trans v0;exact zby _ rfl rfl (by revert z0;generalize a.eval=ρ;intro z0;simp only[execOp];go_simp) C I A rfl
 ·intro a w' C A D;have p9:a.eval (.tmp 9)=.pointer (some ⟨B,0,none⟩):=D ⟨0,.data⟩ (by simp) rfl;exact zby _ rfl rfl (by revert p9;generalize a.eval=ρ;intro p9;simp only[execOp];go_simp) C I A rfl
 ·intro a w' C A D;have E4:a.eval (.tmp 10)=.pointer (some ⟨B,0,none⟩):=D ⟨1,.data⟩ (by simp) rfl;exact zby _ rfl rfl (by revert E4;generalize a.eval=ρ;intro E4;simp only[execOp];go_simp) C I A rfl
 ·intro a w' C A D;have F9:a.eval (.tmp 11)=.pointer (some ⟨B,31,none⟩):=D ⟨2,.data⟩ (by simp) rfl;have c0:w'.cell? ⟨B,31,none⟩=some (.int .i64 j.now.seq):=zac A.1 N G8.o;have c1:w'.cell? ⟨B,32,none⟩=some (.slice na j.now.info.length nc):=zac A.1 N G7.o;have c2:w'.cell? ⟨B,33,none⟩=some (.slice nb j.now.data.length nd):=zac A.1 N G9.o;have c3:w'.cell? ⟨B,34,none⟩=some (.slice ne j.now.rev.length nf):=zac A.1 N H6.o;have c4:w'.cell? ⟨B,35,none⟩=some (.bool j.now.h0.on):=zac A.1 N H4.o;have c5:w'.cell? ⟨B,36,none⟩=some (.int .i64 j.now.h0.left):=zac A.1 N H0.o;have c6:w'.cell? ⟨B,37,none⟩=some (.bool j.now.h1.on):=zac A.1 N H9.o;have c7:w'.cell? ⟨B,38,none⟩=some (.int .i64 j.now.h1.left):=zac A.1 N H3.o;have c8:w'.cell? ⟨B,39,none⟩=some (.bool j.now.h2.on):=zac A.1 N H5.o;have c9:w'.cell? ⟨B,40,none⟩=some (.int .i64 j.now.h2.left):=zac A.1 N I2.o;exact zby _ rfl rfl (by revert F9;generalize a.eval=ρ;intro F9;simp only[execOp];go_simp) C I A rfl
 ·intro a w' C A D;have z3:=(C.other 3 rfl).trans v3;exact zby _ rfl rfl (by revert z3;generalize a.eval=ρ;intro z3;simp only[execOp];go_simp) C I A rfl
 ·intro a w' C A D;have F6:a.eval (.tmp 13)=.pointer (some ⟨w.heap.size,1,none⟩):=D ⟨4,.data⟩ (by simp) rfl;have c0:w'.cell? ⟨w.heap.size,1,none⟩=some (.int .i64 ac.h):=zac A.1 B4 A1.o;exact zby _ rfl rfl (by revert F6;generalize a.eval=ρ;intro F6;simp only[execOp];go_simp) C I A rfl
 ·intro a w' C A D;have z3:=(C.other 3 rfl).trans v3;exact zby _ rfl rfl (by revert z3;generalize a.eval=ρ;intro z3;simp only[execOp];go_simp) C I A rfl
 ·intro a w' C A D;have G0:a.eval (.tmp 15)=.pointer (some ⟨w.heap.size,2,none⟩):=D ⟨6,.data⟩ (by simp) rfl;have c0:w'.cell? ⟨w.heap.size,2,none⟩=some (.int .i64 ac.b):=zac A.1 B4 A2.o;exact zby _ rfl rfl (by revert G0;generalize a.eval=ρ;intro G0;simp only[execOp];go_simp) C I A rfl
 ·intro a w' C A D;have z3:=(C.other 3 rfl).trans v3;exact zby _ rfl rfl (by revert z3;generalize a.eval=ρ;intro z3;simp only[execOp];go_simp) C I A rfl
 ·intro a w' C A D;have E3:a.eval (.tmp 17)=.pointer (some ⟨w.heap.size,4,none⟩):=D ⟨8,.data⟩ (by simp) rfl;have c0:w'.cell? ⟨w.heap.size,4,none⟩=some (.string ac.text):=zac A.1 B4 A4.o;exact zby _ rfl rfl (by revert E3;generalize a.eval=ρ;intro E3;simp only[execOp];go_simp) C I A rfl
 ·intro a w' C A D;have F4:a.eval (.tmp 18)=.string ac.text:=D ⟨9,.data⟩ (by simp) rfl;refine zbp 25 #[.string ac.text] rfl rfl (by have pf:=Act.eval_func a 25;revert F4 pf;generalize a.eval=ρ;intro F4 pf;simp only[execOp];go_simp) _ (zf6 ac.text _ hsz2) ?_;rintro e y ⟨rfl,J⟩;refine⟨_,rfl,_,rfl,?_,?_,?_⟩
  ·show zmb F ((a.put (some 19) _).eval (.tmp 5)) y;rw[Act.eval_put_ne _ _ _ _ (by decide)];exact zfw A J
  ·show zge _ _ _ _ _ _ _ _ _ _ _ _ ((a.put (some 19) _).eval (.tmp 19)) ((a.put (some 19) _).eval (.tmp 5)) y;rw[zav C I (by decide),Act.eval_put_ne _ _ _ _ (by decide)];exact rfl
  ·intro S x hk h;show zge _ _ _ _ _ _ _ _ _ _ _ S x ((a.put (some 19) _).eval (.tmp 5)) y;rw[Act.eval_put_ne _ _ _ _ (by decide)];exact zmf J S x h
 ·intro a w' C A D;have F3:a.eval (.tmp 12)=.agg #[.int .i64 j.now.seq,.slice na j.now.info.length nc,.slice nb j.now.data.length nd,.slice ne j.now.rev.length nf,.bool j.now.h0.on,.int .i64 j.now.h0.left,.bool j.now.h1.on,.int .i64 j.now.h1.left,.bool j.now.h2.on,.int .i64 j.now.h2.left]:=D ⟨3,.data⟩ (by simp) rfl;have F8:a.eval (.tmp 14)=.int .i64 ac.h:=D ⟨5,.data⟩ (by simp) rfl;have D7:a.eval (.tmp 16)=.int .i64 ac.b:=D ⟨7,.data⟩ (by simp) rfl;have F1:a.eval (.tmp 19)=.string (fitT ac.text):=D ⟨10,.data⟩ (by simp) rfl;refine zbp 121 #[.agg #[.int .i64 j.now.seq,.slice na j.now.info.length nc,.slice nb j.now.data.length nd,.slice ne j.now.rev.length nf,.bool j.now.h0.on,.int .i64 j.now.h0.left,.bool j.now.h1.on,.int .i64 j.now.h1.left,.bool j.now.h2.on,.int .i64 j.now.h2.left],.int .i64 ac.h,.int .i64 ac.b,.string (fitT ac.text)] rfl rfl (by have pf:=Act.eval_func a 121;revert F3 F8 D7 F1 pf;generalize a.eval=ρ;intro F3 F8 D7 F1 pf;simp only[execOp];go_simp) _ (zri _ j.now ac.h ac.b (fitT ac.text) _ ((F0.o.ext (Ext.seenL F _)).below A.1) r1 r2) ?_;rintro e y ⟨M,rfl,C3,J,H7⟩;refine⟨_,rfl,_,rfl,?_,?_,?_⟩
  ·show zmb F ((a.put (some 20) _).eval (.tmp 5)) y;rw[Act.eval_put_ne _ _ _ _ (by decide)];exact zfw A J
  ·show zge _ _ _ _ _ _ _ _ _ _ _ _ ((a.put (some 20) _).eval (.tmp 20)) ((a.put (some 20) _).eval (.tmp 5)) y;rw[zav C I (by decide),Act.eval_put_ne _ _ _ _ (by decide)];exact⟨M,rfl,okTx.made G6.o F0.o H2.o A C3 J H7⟩
  ·intro S x hk h;show zge _ _ _ _ _ _ _ _ _ _ _ S x ((a.put (some 20) _).eval (.tmp 5)) y;rw[Act.eval_put_ne _ _ _ _ (by decide)];exact zmf J S x h
 ·intro a w' C A D;obtain⟨M,pc,ok⟩:∃M,a.eval (.tmp 20)=.tuple #[M,.int .i64 (changeE j.now ac.h ac.b (fitT ac.text))]∧okTx ((w.heap.size+1)::X) (zaf j.now ac.h ac.b (fitT ac.text)) M (a.eval (.tmp 5)) w':=D ⟨11,.data⟩ (by simp) rfl;refine zbb (.tuple #[M,.int .i64 (changeE j.now ac.h ac.b (fitT ac.text))]) rfl rfl (by revert pc;generalize a.eval=ρ;intro pc;simp only[execOp];go_simp) ⟨_,rfl,?_,?_,?_⟩
  ·show zmb F ((a.put (some 8) _).eval (.tmp 5)) w';rw[Act.eval_put_ne _ _ _ _ (by decide)];exact A
  ·show zge _ _ _ _ _ _ _ _ _ _ _ _ ((a.put (some 8) _).eval (.tmp 8)) ((a.put (some 8) _).eval (.tmp 5)) w';rw[zav C I (by decide),Act.eval_put_ne _ _ _ _ (by decide)];exact⟨M,rfl,ok⟩
  ·intro S x hk h;show zge _ _ _ _ _ _ _ _ _ _ _ S x ((a.put (some 8) _).eval (.tmp 5)) w';rw[Act.eval_put_ne _ _ _ _ (by decide)];exact h
 ·intro a w' C A D;obtain⟨M,pm,ok⟩:∃M,a.eval (.tmp 8)=.tuple #[M,.int .i64 (changeE j.now ac.h ac.b (fitT ac.text))]∧okTx ((w.heap.size+1)::X) (zaf j.now ac.h ac.b (fitT ac.text)) M (a.eval (.tmp 5)) w':=D ⟨12,.data⟩ (by simp) rfl;refine zbb (M) rfl rfl (by revert pm;generalize a.eval=ρ;intro pm;simp only[execOp];go_simp) ⟨_,rfl,?_,?_,?_⟩
  ·show zmb F ((a.put (some 21) _).eval (.tmp 5)) w';rw[Act.eval_put_ne _ _ _ _ (by decide)];exact A
  ·show zge _ _ _ _ _ _ _ _ _ _ _ _ ((a.put (some 21) _).eval (.tmp 21)) ((a.put (some 21) _).eval (.tmp 5)) w';rw[zav C I (by decide),Act.eval_put_ne _ _ _ _ (by decide)];exact ok
  ·intro S x hk h;show zge _ _ _ _ _ _ _ _ _ _ _ S x ((a.put (some 21) _).eval (.tmp 5)) w';rw[Act.eval_put_ne _ _ _ _ (by decide)];exact h
 ·intro a w' C A D;obtain⟨M,pm,ok⟩:∃M,a.eval (.tmp 8)=.tuple #[M,.int .i64 (changeE j.now ac.h ac.b (fitT ac.text))]∧okTx ((w.heap.size+1)::X) (zaf j.now ac.h ac.b (fitT ac.text)) M (a.eval (.tmp 5)) w':=D ⟨12,.data⟩ (by simp) rfl;exact zby _ rfl rfl (by revert pm;generalize a.eval=ρ;intro pm;simp only[execOp];go_simp) C I A rfl
 ·intro a w' C A D;refine zfj (.pointer (some ⟨w'.heap.size,0,none⟩)) rfl rfl (w':=w'.alloc (.cells #[.int .i64 0,.slice none 0 0,.slice none 0 0,.slice none 0 0,.bool false,.int .i64 0,.bool false,.int .i64 0,.bool false,.int .i64 0] 40)) (by simp only[execOp];go_simp) ⟨_,rfl,?_,?_,?_⟩
  ·show zmb F ((a.put (some 5) _).eval (.tmp 5)) _;rw[zav C I (by decide)];exact⟨A.1.alloc A.1.size _,.inr ⟨_,rfl,A.1.size,by simp,_,_,_,_,_,_,_,_,_,_,heap_alloc_new _ _⟩⟩
  ·show zge _ _ _ _ _ _ _ _ _ _ _ _ ((a.put (some 5) _).eval (.tmp 5)) ((a.put (some 5) _).eval (.tmp 5)) _;rw[zav C I (by decide)];exact⟨_,rfl⟩
  ·intro S x hk h;show zge _ _ _ _ _ _ _ _ _ _ _ S x ((a.put (some 5) _).eval (.tmp 5)) _;rw[zav C I (by decide)];exact zt3 _ S x h
 ·intro a w' C A D;obtain⟨T,L⟩:∃T,a.eval (.tmp 5)=.pointer (some ⟨T,0,none⟩):=D ⟨15,.data⟩ (by simp) rfl;have ok:okTx ((w.heap.size+1)::X) (zaf j.now ac.h ac.b (fitT ac.text)) (a.eval (.tmp 21)) (a.eval (.tmp 5)) w':=D ⟨13,.data⟩ (by simp) rfl
  obtain⟨A9,C3,c0,c1,c2,c3,c4,c5,c6,c7,c8,c9,l⟩:F.heap.size≤T∧T<w'.heap.size∧∃c0 c1 c2 c3 c4 c5 c6 c7 c8 c9,w'.heap[T]?=some (.cells #[c0,c1,c2,c3,c4,c5,c6,c7,c8,c9] 40 (0,0)):=by
   rcases A.2 with h0|⟨T',e,h3,h4,h5⟩
   ·rw[h0] at L;cases L
   ·rw[e] at L;cases L;exact⟨h3,h4,h5⟩
  have q:=ok.2.2 T L;have u:=ok.2.1;obtain⟨Z,R,d,O,Q,U,hv,_⟩:=id q;rw[hv] at q u;obtain⟨⟨t0,t1,t2,t3,t4,t5,t6,t7,t8,t9⟩,tf⟩:=zaj l;refine zcf rfl rfl (w':=((((((((((w'.setCell ⟨T,0,none⟩ (.int .i64 (zaf j.now ac.h ac.b (fitT ac.text)).seq)).setCell ⟨T,1,none⟩ (.slice Z (zaf j.now ac.h ac.b (fitT ac.text)).info.length R)).setCell ⟨T,2,none⟩ (.slice d (zaf j.now ac.h ac.b (fitT ac.text)).data.length O)).setCell ⟨T,3,none⟩ (.slice Q (zaf j.now ac.h ac.b (fitT ac.text)).rev.length U)).setCell ⟨T,4,none⟩ (.bool (zaf j.now ac.h ac.b (fitT ac.text)).h0.on)).setCell ⟨T,5,none⟩ (.int .i64 (zaf j.now ac.h ac.b (fitT ac.text)).h0.left)).setCell ⟨T,6,none⟩ (.bool (zaf j.now ac.h ac.b (fitT ac.text)).h1.on)).setCell ⟨T,7,none⟩ (.int .i64 (zaf j.now ac.h ac.b (fitT ac.text)).h1.left)).setCell ⟨T,8,none⟩ (.bool (zaf j.now ac.h ac.b (fitT ac.text)).h2.on)).setCell ⟨T,9,none⟩ (.int .i64 (zaf j.now ac.h ac.b (fitT ac.text)).h2.left))) (by revert L hv;generalize a.eval=ρ;intro L hv;simp only[execOp];go_simp) ⟨_,rfl,?_,?_,?_⟩
  ·show zmb F (a.eval (.tmp 5)) _;exact⟨Below.set10 A.1 A9 _ _ _ _ _ _ _ _ _ _,.inr ⟨T,L,A9,by simpa[World.setCell] using C3,_,_,_,_,_,_,_,_,_,_,zhw l _ _ _ _ _ _ _ _ _ _⟩⟩
  ·show zge _ _ _ _ _ _ _ _ _ _ _ _ (a.eval (.tmp 5)) (a.eval (.tmp 5)) _;exact⟨T,Z,R,d,O,Q,U,L,zhw l _ _ _ _ _ _ _ _ _ _,q.ext (zpc (by simp) w' _ _ _ _ _ _ _ _ _ _),u⟩
  ·intro S x hk h;show zge _ _ _ _ _ _ _ _ _ _ _ S x (a.eval (.tmp 5)) _;rw[L] at h⊢;exact zt4 (fun t x h=>h.store _ _ _ _ _ _ _ _ _ _) S x hk h
 ·intro a W C A D;obtain⟨T,Z,R,d,O,Q,U,L,l,q,u⟩:∃T Z R d O Q U,a.eval (.tmp 5)=.pointer (some ⟨T,0,none⟩)∧W.heap[T]?=some (.cells #[.int .i64 (zaf j.now ac.h ac.b (fitT ac.text)).seq,.slice Z (zaf j.now ac.h ac.b (fitT ac.text)).info.length R,.slice d (zaf j.now ac.h ac.b (fitT ac.text)).data.length O,.slice Q (zaf j.now ac.h ac.b (fitT ac.text)).rev.length U,.bool (zaf j.now ac.h ac.b (fitT ac.text)).h0.on,.int .i64 (zaf j.now ac.h ac.b (fitT ac.text)).h0.left,.bool (zaf j.now ac.h ac.b (fitT ac.text)).h1.on,.int .i64 (zaf j.now ac.h ac.b (fitT ac.text)).h1.left,.bool (zaf j.now ac.h ac.b (fitT ac.text)).h2.on,.int .i64 (zaf j.now ac.h ac.b (fitT ac.text)).h2.left] 40 (0,0))∧IsTx (zar W (T::(w.heap.size+1)::X)) (.agg #[.int .i64 (zaf j.now ac.h ac.b (fitT ac.text)).seq,.slice Z (zaf j.now ac.h ac.b (fitT ac.text)).info.length R,.slice d (zaf j.now ac.h ac.b (fitT ac.text)).data.length O,.slice Q (zaf j.now ac.h ac.b (fitT ac.text)).rev.length U,.bool (zaf j.now ac.h ac.b (fitT ac.text)).h0.on,.int .i64 (zaf j.now ac.h ac.b (fitT ac.text)).h0.left,.bool (zaf j.now ac.h ac.b (fitT ac.text)).h1.on,.int .i64 (zaf j.now ac.h ac.b (fitT ac.text)).h1.left,.bool (zaf j.now ac.h ac.b (fitT ac.text)).h2.on,.int .i64 (zaf j.now ac.h ac.b (fitT ac.text)).h2.left]) (zaf j.now ac.h ac.b (fitT ac.text))∧RoomTx (.agg #[.int .i64 (zaf j.now ac.h ac.b (fitT ac.text)).seq,.slice Z (zaf j.now ac.h ac.b (fitT ac.text)).info.length R,.slice d (zaf j.now ac.h ac.b (fitT ac.text)).data.length O,.slice Q (zaf j.now ac.h ac.b (fitT ac.text)).rev.length U,.bool (zaf j.now ac.h ac.b (fitT ac.text)).h0.on,.int .i64 (zaf j.now ac.h ac.b (fitT ac.text)).h0.left,.bool (zaf j.now ac.h ac.b (fitT ac.text)).h1.on,.int .i64 (zaf j.now ac.h ac.b (fitT ac.text)).h1.left,.bool (zaf j.now ac.h ac.b (fitT ac.text)).h2.on,.int .i64 (zaf j.now ac.h ac.b (fitT ac.text)).h2.left]):=D 16 (by decide);have pE:a.eval (.tmp 22)=.int .i64 (changeE j.now ac.h ac.b (fitT ac.text)):=D 14 (by decide)
  have A9:F.heap.size≤T:=by
   rcases A.2 with h0|⟨T',e,h3,h4,h5⟩
   ·rw[h0] at L;cases L
   ·rw[e] at L;cases L;exact h3
  show wpOps prog _ _ [17] a W;rw[wpOps_cons];refine zbb (.int .i64 (changeE j.now ac.h ac.b (fitT ac.text))) rfl rfl (by revert pE;generalize a.eval=ρ;intro pE;simp only[execOp];go_simp) ?_;have E6:a.tmps.size=45:=C.size.trans I;obtain⟨a2,r⟩:∃a2,a2=a.put (some 6) (.int .i64 (changeE j.now ac.h ac.b (fitT ac.text))):=⟨_,rfl⟩;have f6:a2.eval (.tmp 6)=.int .i64 (changeE j.now ac.h ac.b (fitT ac.text)):=by rw[r];exact Act.eval_put_same _ _ _ (by rw[E6];decide)
  have f0:a2.eval (.tmp 0)=.pointer (some ⟨B,0,none⟩):=by rw[r,Act.eval_put_ne _ _ _ _ (by decide)];exact(C.other 0 rfl).trans v0
  have f3:a2.eval (.tmp 3)=.pointer (some ⟨w.heap.size,0,none⟩):=by rw[r,Act.eval_put_ne _ _ _ _ (by decide)];exact(C.other 3 rfl).trans v3
  have f4:a2.eval (.tmp 4)=.pointer (some ⟨w.heap.size+1,0,none⟩):=by rw[r,Act.eval_put_ne _ _ _ _ (by decide)];exact(C.other 4 rfl).trans v4
  have f5:a2.eval (.tmp 5)=.pointer (some ⟨T,0,none⟩):=by rw[r,Act.eval_put_ne _ _ _ _ (by decide)];exact L
  have B1:a2=⟨#[_,_,_,_,_,_,_,_,_,_,_,_,_,_,_,_,_,_,_,_,_,_,_,_,_,_,_,_,_,_,_,_,_,_,_,_,_,_,_,_,_,_,_,_,_],[]⟩:=zcd a2 45 (by rw[r,Act.size_put];exact E6) (by rw[r,Act.defers_put'];exact C.defers.trans I3);dsimp only at B1;rw[f0,f3,f4,f5,f6] at B1;show KK (a.put (some 6) (.int .i64 (changeE j.now ac.h ac.b (fitT ac.text)))) _;rw[←r];exact(congrArg (fun x=>KK x _) B1).mpr (D6.o (fun k=>a2.eval (.tmp k)) _ T Z R d O Q U q u l A9 A.1)
open Go.RowKit
theorem JAt.last {w:World}{B:Nat}{X:List Nat}{j:Jn}(h:JAt w B X j):w.cell? ⟨B,5,none⟩=some (.int .i64 j.last)∧w.frozen? ⟨B,5,none⟩=false:=by
 obtain⟨_,da,dc,db,dd,na,nc,nb,nd,ne,nf,sa,sc,sb,sd,se,sf,ca,cc,fa,fc,ta,tc,A,_⟩:=h;exact⟨(zak A 5).trans rfl,frozen_of_row w _ _ _ _ A⟩
def zgf (B:Nat)(D:Nat)(j:Jn)(ac:Ac)(X:List Nat)(na:Option Addr)(nc:Nat)(nb:Option Addr)(nd:Nat)(ne:Option Addr)(nf:Nat):Nat→Value→Value→World→Prop
 |0,v,_,_=>v=.pointer (some ⟨B,0,none⟩)
 |1,v,_,_=>v=.pointer (some ⟨B,0,none⟩)
 |2,v,_,_=>v=.pointer (some ⟨B,31,none⟩)
 |3,v,_,_=>v=.agg #[.int .i64 j.now.seq,.slice na j.now.info.length nc,.slice nb j.now.data.length nd,.slice ne j.now.rev.length nf,.bool j.now.h0.on,.int .i64 j.now.h0.left,.bool j.now.h1.on,.int .i64 j.now.h1.left,.bool j.now.h2.on,.int .i64 j.now.h2.left]
 |4,v,_,_=>v=.pointer (some ⟨D,1,none⟩)
 |5,v,_,_=>v=.int .i64 ac.h
 |6,v,_,_=>v=.pointer (some ⟨D,2,none⟩)
 |7,v,_,_=>v=.int .i64 ac.b
 |8,v,_,_=>v=.pointer (some ⟨D,4,none⟩)
 |9,v,_,_=>v=.string ac.text
 |10,v,_,_=>v=.string (fitT ac.text)
 |11,v,u,w=>∃v2,v=.tuple #[v2,.int .i64 (fillE j.now ac.h ac.b (fitT ac.text))]∧okTx X (zan j.now ac.h ac.b (fitT ac.text)) v2 u w
 |12,v,u,w=>∃v2,v=.tuple #[v2,.int .i64 (fillE j.now ac.h ac.b (fitT ac.text))]∧okTx X (zan j.now ac.h ac.b (fitT ac.text)) v2 u w
 |13,v,u,w=>okTx X (zan j.now ac.h ac.b (fitT ac.text)) v u w
 |14,v,_,_=>v=.int .i64 (fillE j.now ac.h ac.b (fitT ac.text))
 |15,v,_,_=>∃T,v=.pointer (some ⟨T,0,none⟩)
 |16,v,_,w=>∃T ua uc ub ud ue uf,v=.pointer (some ⟨T,0,none⟩)∧w.heap[T]?=some (.cells #[.int .i64 (zan j.now ac.h ac.b (fitT ac.text)).seq,.slice ua (zan j.now ac.h ac.b (fitT ac.text)).info.length uc,.slice ub (zan j.now ac.h ac.b (fitT ac.text)).data.length ud,.slice ue (zan j.now ac.h ac.b (fitT ac.text)).rev.length uf,.bool (zan j.now ac.h ac.b (fitT ac.text)).h0.on,.int .i64 (zan j.now ac.h ac.b (fitT ac.text)).h0.left,.bool (zan j.now ac.h ac.b (fitT ac.text)).h1.on,.int .i64 (zan j.now ac.h ac.b (fitT ac.text)).h1.left,.bool (zan j.now ac.h ac.b (fitT ac.text)).h2.on,.int .i64 (zan j.now ac.h ac.b (fitT ac.text)).h2.left] 40 (0,0))∧IsTx (zar w (T::X)) (.agg #[.int .i64 (zan j.now ac.h ac.b (fitT ac.text)).seq,.slice ua (zan j.now ac.h ac.b (fitT ac.text)).info.length uc,.slice ub (zan j.now ac.h ac.b (fitT ac.text)).data.length ud,.slice ue (zan j.now ac.h ac.b (fitT ac.text)).rev.length uf,.bool (zan j.now ac.h ac.b (fitT ac.text)).h0.on,.int .i64 (zan j.now ac.h ac.b (fitT ac.text)).h0.left,.bool (zan j.now ac.h ac.b (fitT ac.text)).h1.on,.int .i64 (zan j.now ac.h ac.b (fitT ac.text)).h1.left,.bool (zan j.now ac.h ac.b (fitT ac.text)).h2.on,.int .i64 (zan j.now ac.h ac.b (fitT ac.text)).h2.left]) (zan j.now ac.h ac.b (fitT ac.text))∧RoomTx (.agg #[.int .i64 (zan j.now ac.h ac.b (fitT ac.text)).seq,.slice ua (zan j.now ac.h ac.b (fitT ac.text)).info.length uc,.slice ub (zan j.now ac.h ac.b (fitT ac.text)).data.length ud,.slice ue (zan j.now ac.h ac.b (fitT ac.text)).rev.length uf,.bool (zan j.now ac.h ac.b (fitT ac.text)).h0.on,.int .i64 (zan j.now ac.h ac.b (fitT ac.text)).h0.left,.bool (zan j.now ac.h ac.b (fitT ac.text)).h1.on,.int .i64 (zan j.now ac.h ac.b (fitT ac.text)).h1.left,.bool (zan j.now ac.h ac.b (fitT ac.text)).h2.on,.int .i64 (zan j.now ac.h ac.b (fitT ac.text)).h2.left])
 |_,_,_,_=>True
theorem zmg {B:Nat}{D:Nat}{j:Jn}{ac:Ac}{X:List Nat}{na:Option Addr}{nc:Nat}{nb:Option Addr}{nd:Nat}{ne:Option Addr}{nf:Nat}{u:Value}{w w':World}(hb:Below w.heap.size w w'):∀kk x,zgf B D j ac X na nc nb nd ne nf kk x u w→zgf B D j ac X na nc nb nd ne nf kk x u w':=by
 intro kk x h
 match kk,h with
 |0,h|1,h|2,h|3,h|4,h|5,h|6,h|7,h|8,h|9,h|10,h=>exact h
 |11,⟨v2,h1,h2⟩=>exact⟨v2,h1,h2.below hb⟩
 |12,⟨v2,h1,h2⟩=>exact⟨v2,h1,h2.below hb⟩
 |13,h=>exact h.below hb
 |14,h|15,h=>exact h
 |16,⟨T,ua,uc,ub,ud,ue,uf,h1,h2,h3,h4⟩=>exact⟨T,ua,uc,ub,ud,ue,uf,h1,zad hb (Array.getElem?_eq_some_iff.1 h2).1 h2,h3.ext (Ext.freshL hb),h4⟩
 |_+17,_=>exact trivial
theorem zt5 {B:Nat}{D:Nat}{j:Jn}{ac:Ac}{X:List Nat}{na:Option Addr}{nc:Nat}{nb:Option Addr}{nd:Nat}{ne:Option Addr}{nf:Nat}{u:Value}{w:World}(o:Obj):∀kk x,zgf B D j ac X na nc nb nd ne nf kk x u w→zgf B D j ac X na nc nb nd ne nf kk x (.pointer (some ⟨w.heap.size,0,none⟩)) (w.alloc o):=by
 intro kk x h
 match kk,h with
 |0,h|1,h|2,h|3,h|4,h|5,h|6,h|7,h|8,h|9,h|10,h=>exact h
 |11,⟨v2,h1,h2⟩=>exact⟨v2,h1,h2.alloc o⟩
 |12,⟨v2,h1,h2⟩=>exact⟨v2,h1,h2.alloc o⟩
 |13,h=>exact h.alloc o
 |14,h|15,h=>exact h
 |16,⟨T,ua,uc,ub,ud,ue,uf,h1,h2,h3,h4⟩=>exact⟨T,ua,uc,ub,ud,ue,uf,h1,zad (zaa _ _) (Array.getElem?_eq_some_iff.1 h2).1 h2,h3.ext (Ext.freshL (zaa _ _)),h4⟩
 |_+17,_=>exact trivial
theorem zt6 {B:Nat}{D:Nat}{j:Jn}{ac:Ac}{X:List Nat}{na:Option Addr}{nc:Nat}{nb:Option Addr}{nd:Nat}{ne:Option Addr}{nf:Nat}{u:Value}{w w':World}(hs:∀t x,okTx X t x u w→okTx X t x u w'):∀kk x,kk≠16→zgf B D j ac X na nc nb nd ne nf kk x u w→zgf B D j ac X na nc nb nd ne nf kk x u w':=by
 intro kk x A h
 match kk,h with
 |0,h|1,h|2,h|3,h|4,h|5,h|6,h|7,h|8,h|9,h|10,h=>exact h
 |11,⟨y,h1,h2⟩=>exact⟨y,h1,hs _ _ h2⟩
 |12,⟨y,h1,h2⟩=>exact⟨y,h1,hs _ _ h2⟩
 |13,h=>exact hs _ _ h
 |14,h|15,h=>exact h
 |16,_=>exact absurd rfl A
 |_+17,_=>exact trivial
theorem z0q (B:Nat)(X:List Nat)(j:Jn)(w:World)(h:JAt w B X j)(hX:∀x∈X,x<w.heap.size)(ac:Ac)(hsz2:ac.text.size≤maxLen)(r1:j.now.info.length*24≤140737488355328)(r2:j.now.data.length*24≤140737488355328):
  Calls prog 83 #[.pointer (some ⟨B,0,none⟩),.agg #[.int .i64 ac.kind,.int .i64 ac.h,.int .i64 ac.b,.int .i64 ac.n,.string ac.text]] w (zdf w B X (zjq j ac)):=by
 have HJ:=zab h;have K4:=h.lt;have B4:=h.1;have HX:=zab hX;clear h hX;go_enter func83,ntmps83;go_wp2;rename_i KK D2;obtain⟨F,A7⟩:∃F,F=(w.alloc (.cells #[.int .i64 ac.kind,.int .i64 ac.h,.int .i64 ac.b,.int .i64 ac.n,.string ac.text] 23)).alloc (.cells #[.int .i64 0,.int .i64 0,.string ⟨#[]⟩] 31):=⟨_,rfl⟩;have E7:(w.alloc (.cells #[.int .i64 ac.kind,.int .i64 ac.h,.int .i64 ac.b,.int .i64 ac.n,.string ac.text] 23)).heap.size=w.heap.size+1:=by simp
 have O:Hid (JAt F B ((w.heap.size+1)::X) j):=by rw[A7];exact(HJ.o.below (zaa _ _)).more (zaa _ _) (by omega)
 have Z:Hid (Below w.heap.size w F):=by rw[A7];exact zae (zaa _ _) (zaa _ _)
 have L:Hid (F.heap[w.heap.size+1]?=some (.cells #[.int .i64 0,.int .i64 0,.string ⟨#[]⟩] 31 (0,0))):=by rw[A7,←E7];exact heap_alloc_new _ _
 have C7:Hid (F.heap[w.heap.size]?=some (.cells #[.int .i64 ac.kind,.int .i64 ac.h,.int .i64 ac.b,.int .i64 ac.n,.string ac.text] 23 (0,0))):=by rw[A7];exact zad (zaa _ _) (by omega) (heap_alloc_new _ _)
 have K5:F.heap.size=w.heap.size+2:=by rw[A7];simp
 have H4:Hid (∀x∈((w.heap.size+1)::X),x<F.heap.size):=fun x hx=>by
  rcases List.mem_cons.1 hx with rfl|hx
  ·omega
  ·have:=HX.o x hx;omega
 rw[←A7];clear A7 E7;have c:B<F.heap.size:=by omega
 have B9:w.heap.size<F.heap.size:=by omega
 have D4:∀(g:Nat→Value) (s:World) (T:Nat) (q:Option Addr) (l:Nat) (r:Option Addr) (d:Nat) (i:Option Addr) (p:Nat),IsTx (zar s (T::((w.heap.size+1)::X))) (.agg #[.int .i64 (zan j.now ac.h ac.b (fitT ac.text)).seq,.slice q (zan j.now ac.h ac.b (fitT ac.text)).info.length l,.slice r (zan j.now ac.h ac.b (fitT ac.text)).data.length d,.slice i (zan j.now ac.h ac.b (fitT ac.text)).rev.length p,.bool (zan j.now ac.h ac.b (fitT ac.text)).h0.on,.int .i64 (zan j.now ac.h ac.b (fitT ac.text)).h0.left,.bool (zan j.now ac.h ac.b (fitT ac.text)).h1.on,.int .i64 (zan j.now ac.h ac.b (fitT ac.text)).h1.left,.bool (zan j.now ac.h ac.b (fitT ac.text)).h2.on,.int .i64 (zan j.now ac.h ac.b (fitT ac.text)).h2.left]) (zan j.now ac.h ac.b (fitT ac.text))→RoomTx (.agg #[.int .i64 (zan j.now ac.h ac.b (fitT ac.text)).seq,.slice q (zan j.now ac.h ac.b (fitT ac.text)).info.length l,.slice r (zan j.now ac.h ac.b (fitT ac.text)).data.length d,.slice i (zan j.now ac.h ac.b (fitT ac.text)).rev.length p,.bool (zan j.now ac.h ac.b (fitT ac.text)).h0.on,.int .i64 (zan j.now ac.h ac.b (fitT ac.text)).h0.left,.bool (zan j.now ac.h ac.b (fitT ac.text)).h1.on,.int .i64 (zan j.now ac.h ac.b (fitT ac.text)).h1.left,.bool (zan j.now ac.h ac.b (fitT ac.text)).h2.on,.int .i64 (zan j.now ac.h ac.b (fitT ac.text)).h2.left])→s.heap[T]?=some (.cells #[.int .i64 (zan j.now ac.h ac.b (fitT ac.text)).seq,.slice q (zan j.now ac.h ac.b (fitT ac.text)).info.length l,.slice r (zan j.now ac.h ac.b (fitT ac.text)).data.length d,.slice i (zan j.now ac.h ac.b (fitT ac.text)).rev.length p,.bool (zan j.now ac.h ac.b (fitT ac.text)).h0.on,.int .i64 (zan j.now ac.h ac.b (fitT ac.text)).h0.left,.bool (zan j.now ac.h ac.b (fitT ac.text)).h1.on,.int .i64 (zan j.now ac.h ac.b (fitT ac.text)).h1.left,.bool (zan j.now ac.h ac.b (fitT ac.text)).h2.on,.int .i64 (zan j.now ac.h ac.b (fitT ac.text)).h2.left] 40 (0,0))→F.heap.size≤T→Below F.heap.size F s→KK ⟨#[.pointer (some ⟨B,0,none⟩),g 1,g 2,.pointer (some ⟨w.heap.size,0,none⟩),.pointer (some ⟨w.heap.size+1,0,none⟩),.pointer (some ⟨T,0,none⟩),.int .i64 (fillE j.now ac.h ac.b (fitT ac.text)),g 7,g 8,g 9,g 10,g 11,g 12,g 13,g 14,g 15,g 16,g 17,g 18,g 19,g 20,g 21,g 22,g 23,g 24,g 25,g 26,g 27,g 28,g 29,g 30,g 31,g 32,g 33,g 34,g 35,g 36,g 37,g 38,g 39,g 40,g 41,g 42,g 43,g 44,g 45,g 46,g 47,g 48,g 49,g 50,g 51,g 52,g 53,g 54,g 55,g 56],[]⟩ s:=by
  intro g s T q l r d i p z A6 u B3 B0;apply D2;clear D2;have D5:=zab (z.ext (Ext.lessL T));have E8:=zab A6;have KT:=zab u;have C6:=zab (O.o.below B0);have C2:=zab (zae Z.o B0);have E1:=zab (zad B0 (show w.heap.size+1<F.heap.size by omega) L.o);have D9:=zab (zad B0 B9 C7.o);have K3:F.heap.size≤s.heap.size:=B0.size;have J2:T<s.heap.size:=(Array.getElem?_eq_some_iff.1 u).1;clear z A6 u B0 O Z L C7;obtain⟨t,ht⟩:∃t,t=zan j.now ac.h ac.b (fitT ac.text):=⟨_,rfl⟩;rw[←ht] at D5 E8 KT;have B1:w.heap.size+1≠B:=by omega
  by_cases he:fillE j.now ac.h ac.b (fitT ac.text)=0
  ·obtain⟨J3,J0⟩:=zxg he;obtain⟨M,D6⟩:∃M:Nat,ac.b=(M:Int):=⟨ac.b.toNat,by omega⟩;have B6:M<12:=by omega
   have HW:Hid (zjq j ac=if j.role M=1 then(j,zas 8) else if j.last<j.freed M then(j,zas 9) else({j with role:=upd j.role M 2,now:=t},zas 0)):=by
    rw[Hid,zjq,if_pos he,←ht,D6,Int.toNat_natCast]
   rw[he];rw[D6] at D9;clear he ht D6 J3 J0;obtain⟨⟨y0,y1,y2,y3,y4⟩,yf⟩:=zhy D9.o;have J7:(0:Int)≤(M:Int):=by omega
   have J8:(M:Int)<12:=by omega
   go_wp2
   go_quiet (fail)
   obtain⟨N,C3⟩:∃N,N=s.drewN nq:=⟨_,rfl⟩;have I:Below s.heap.size s N:=by rw[C3];exact below_drewN (Below.refl _ _) _
   have A8:=zab (C6.o.below I);have A9:Hid (ButL [B] w.heap.size w N):=ButL.of_below (zae C2.o I);have C0:=zab (zad I (show w.heap.size+1<s.heap.size by omega) E1.o);have H0:=zab (zad I J2 KT.o);have C4:=zab (D5.o.ext (Ext.freshL I));have K6:s.heap.size≤N.heap.size:=I.size;rw[←C3];clear C3 I y0 y1 y2 y3 y4 yf C6 C2 E1 KT D5 D9;obtain⟨C1,I0,C5,I3⟩:=A8.o.role M B6;by_cases hro:j.role M=1
   ·have HE:Hid (zjq j ac=(j,zas 8)):=by rw[Hid,HW.o,if_pos hro]
    rw[hro] at C1;clear hro HW;go_wp2_with fail;have B2:=A8;have y:=A9;have KR:=C0;have B5:w.heap.size+1<N.heap.size:=by omega
    refine(zat 8 _).mono ?_;rintro e w2 ⟨rfl,J⟩;have L:=zab (zad J B5 KR.o);have O:=zab (B2.o.below J);have Z:=zab (y.o.trans (Y:=[]) (ButL.of_below J) y.o.size (by simp));clear J;obtain⟨⟨y0,y1,y2⟩,yf⟩:=zbl L.o;go_wp2;exact zbf HE.o L.o O.o Z.o B1 B4 fun W u0 u1 u2=>by simp[results,results83,go_sem,u0,u1,u2]
   ·have J6:(j.role M==1)=false:=by simpa using hro
    have B8:Hid (zjq j ac=if j.last<j.freed M then(j,zas 9) else({j with role:=upd j.role M 2,now:=t},zas 0)):=by rw[Hid,HW.o,if_neg hro]
    clear hro HW;obtain⟨I6,I1⟩:=A8.o.last;by_cases hfr:j.last<j.freed M
    ·have HE:Hid (zjq j ac=(j,zas 9)):=by rw[Hid,B8.o,if_pos hfr]
     clear B8;go_wp2_with fail
     go_quiet (fail)
     obtain⟨S,Q⟩:∃S,S=N.drewN nq:=⟨_,rfl⟩;have I:Below N.heap.size N S:=by rw[Q];exact below_drewN (Below.refl _ _) _
     have B2:=zab (A8.o.below I);have y:Hid (ButL [B] w.heap.size w S):=A9.o.trans (Y:=[]) (ButL.of_below I) A9.o.size (by simp);have KR:=zab (zad I (show w.heap.size+1<N.heap.size by omega) C0.o);have H6:N.heap.size≤S.heap.size:=I.size;rw[←Q];clear Q I;have B5:w.heap.size+1<S.heap.size:=by omega
     go_wp2_with fail;refine(zat 9 _).mono ?_;rintro e w2 ⟨rfl,J⟩;have L:=zab (zad J B5 KR.o);have O:=zab (B2.o.below J);have Z:=zab (y.o.trans (Y:=[]) (ButL.of_below J) y.o.size (by simp));clear J;obtain⟨⟨y0,y1,y2⟩,yf⟩:=zbl L.o;go_wp2;exact zbf HE.o L.o O.o Z.o B1 B4 fun W u0 u1 u2=>by simp[results,results83,go_sem,u0,u1,u2]
    ·have HE:Hid (zjq j ac=({j with role:=upd j.role M 2,now:=t},zas 0)):=by rw[Hid,B8.o,if_neg hfr]
     clear B8;go_wp2_with fail
     go_quiet (fail)
     obtain⟨W7,D3⟩:∃W7,W7=N.drewN nq:=⟨_,rfl⟩;have I:Below N.heap.size N W7:=by rw[D3];exact below_drewN (Below.refl _ _) _
     have C9:=zab (A8.o.below I);have F6:Hid (ButL [B] w.heap.size w W7):=A9.o.trans (Y:=[]) (ButL.of_below I) A9.o.size (by simp);have F1:=zab (zad I (show w.heap.size+1<N.heap.size by omega) C0.o);have F0:=zab (zad I (show T<N.heap.size by omega) H0.o);have E0:=zab (C4.o.ext (Ext.freshL I));have J9:N.heap.size≤W7.heap.size:=I.size;rw[←D3];clear D3 I C1 I0 C5 I3 I6 I1 A8 A9 C0 H0 C4;obtain⟨C1,_,C5,_⟩:=C9.o.role M B6;obtain⟨⟨t0,t1,t2,t3,t4,t5,t6,t7,t8,t9⟩,tf⟩:=zaj F0.o;have K0:¬T=B:=by omega
     have K1:¬B=T:=by omega
     go_wp2_with fail;obtain⟨S,Q⟩:∃S,S=W7.setCell ⟨B,7+M*2,none⟩ (.int .i64 2):=⟨_,rfl⟩;have F3:Hid (JAt S B ((w.heap.size+1)::X) {j with role:=upd j.role M 2}):=by rw[Q];exact C9.o.putRole M B6 2
     have C8:Hid (IsTx (zar S ((w.heap.size+1)::X)) (.agg #[.int .i64 t.seq,.slice q t.info.length l,.slice r t.data.length d,.slice i t.rev.length p,.bool t.h0.on,.int .i64 t.h0.left,.bool t.h1.on,.int .i64 t.h1.left,.bool t.h2.on,.int .i64 t.h2.left]) t):=by rw[Q];exact E0.o.ext (Ext.setL (by simp[B4]) _ _)
     have D8:Hid (ButL [B] w.heap.size w S):=by rw[Q];exact F6.o.set (.inl (by simp)) _ _
     have H3:Hid (S.heap[w.heap.size+1]?=some (.cells #[.int .i64 0,.int .i64 0,.string ⟨#[]⟩] 31 (0,0))):=by rw[Q];exact(Below.heap_setCell _ _ _ _ B1).trans F1.o
     have H6:S.heap.size=W7.heap.size:=by rw[Q];simp[World.setCell]
     rw[←Q];clear Q C1 C5 t0 t1 t2 t3 t4 t5 t6 t7 t8 t9 tf C9 E0 F6 F1 F0;refine(zje B ((w.heap.size+1)::X) _ S F3.o t q l r d i p C8.o E8.o 0).mono ?_;rintro e w2 ⟨rfl,E5,D7⟩;have O:Hid (JAt w2 B ((w.heap.size+1)::X) {j with role:=upd j.role M 2,now:=t}):=E5;have Z:=zab (D8.o.trans (Y:=[B]) D7 D8.o.size (by simp));have L:=zab ((D7.block _ (show w.heap.size+1<S.heap.size by omega) (by simpa using B1)).trans H3.o);clear E5 D7 F3 D8 H3 C8;dsimp only[zmt,vRp,zas];obtain⟨⟨y0,y1,y2⟩,yf⟩:=zbl L.o;go_wp2;exact zbf HE.o L.o O.o Z.o B1 B4 fun W u0 u1 u2=>by simp[results,results83,go_sem,u0,u1,u2]
  ·have HE:Hid (zjq j ac=(j,zas (fillE j.now ac.h ac.b (fitT ac.text)))):=by rw[Hid,zjq,if_neg he]
   have K2:(fillE j.now ac.h ac.b (fitT ac.text) !=0)=true:=by simpa using he
   clear he ht;generalize fillE j.now ac.h ac.b (fitT ac.text)=E at *;go_wp2_with fail;have B2:=C6;have y:Hid (ButL [B] w.heap.size w s):=ButL.of_below C2.o;have KR:=E1;have B5:w.heap.size+1<s.heap.size:=by omega
   refine(zat E _).mono ?_;rintro e w2 ⟨rfl,J⟩;have L:=zab (zad J B5 KR.o);have O:=zab (B2.o.below J);have Z:=zab (y.o.trans (Y:=[]) (ButL.of_below J) y.o.size (by simp));clear J;obtain⟨⟨y0,y1,y2⟩,yf⟩:=zbl L.o;go_wp2;exact zbf HE.o L.o O.o Z.o B1 B4 fun W u0 u1 u2=>by simp[results,results83,go_sem,u0,u1,u2]
 have E2:=zab D4;clear D4 D2;obtain⟨_,da,dc,db,dd,na,nc,nb,nd,ne,nf,sa,sc,sb,sd,se,sf,ca,cc,fa,fc,ta,tc,h1,hr⟩:=id O.o;have G4:F.cell? ⟨B,31,none⟩=some (.int .i64 j.now.seq):=zak h1 31;have G1:F.cell? ⟨B,32,none⟩=some (.slice na j.now.info.length nc):=zak h1 32;have E6:F.cell? ⟨B,33,none⟩=some (.slice nb j.now.data.length nd):=zak h1 33;have E4:F.cell? ⟨B,34,none⟩=some (.slice ne j.now.rev.length nf):=zak h1 34;have G6:F.cell? ⟨B,35,none⟩=some (.bool j.now.h0.on):=zak h1 35;have F5:F.cell? ⟨B,36,none⟩=some (.int .i64 j.now.h0.left):=zak h1 36;have H1:F.cell? ⟨B,37,none⟩=some (.bool j.now.h1.on):=zak h1 37;have F8:F.cell? ⟨B,38,none⟩=some (.int .i64 j.now.h1.left):=zak h1 38;have H2:F.cell? ⟨B,39,none⟩=some (.bool j.now.h2.on):=zak h1 39;have F7:F.cell? ⟨B,40,none⟩=some (.int .i64 j.now.h2.left):=zak h1 40;have H7:=zab G4;have H5:=zab G1;have H8:=zab E6;have I8:=zab E4;have I5:=zab G6;have H9:=zab F5;have J1:=zab H1;have I4:=zab F8;have I7:=zab H2;have J4:=zab F7;have F9:=zab hr.2.1;have I2:=zab hr.2.2.2.2.2.2.1;clear h1 hr G4 G1 E6 E4 G6 F5 H1 F8 H2 F7;obtain⟨⟨y0,y1,y2,y3,y4⟩,_⟩:=zhy C7.o;have A0:=zab y0;have A1:=zab y1;have A2:=zab y2;have A3:=zab y3;have A4:=zab y4;clear y0 y1 y2 y3 y4;refine(show∀A0:Act,A0=_→Code.wp prog _ _ A0 _ from fun A0 hA0=>?_) _ rfl;have K:A0.tmps.size=57:=by rw[hA0];rfl
 have J5:A0.defers=[]:=by rw[hA0]
 have v0:A0.eval (.tmp 0)=.pointer (some ⟨B,0,none⟩):=by rw[hA0];rfl
 have v3:A0.eval (.tmp 3)=.pointer (some ⟨w.heap.size,0,none⟩):=by rw[hA0];rfl
 have v4:A0.eval (.tmp 4)=.pointer (some ⟨w.heap.size+1,0,none⟩):=by rw[hA0];rfl
 have v5:A0.eval (.tmp 5)=undef:=by rw[hA0];rfl
 clear hA0;refine zda 17 5 (zmb F) [9,10,11,12,13,14,15,16,17,18,19,20,8,21,22,5,5] (zgf B w.heap.size j ac ((w.heap.size+1)::X) na nc nb nd ne nf) (by kernel_rfl) (by kernel_rfl) (by kernel_rfl) (by kernel_rfl) (by decide) (⟨(Below.refl _ _).drew,.inl v5⟩) ⟨?_,?_,?_,?_,?_,?_,?_,?_,?_,?_,?_,?_,?_,?_,?_,?_,?_,trivial⟩ ?_
 ·intro a w' C A D;have z0:=(C.other 0 rfl).trans v0;exact zby _ rfl rfl (by revert z0;generalize a.eval=ρ;intro z0;simp only[execOp];go_simp) C K A rfl
 ·intro a w' C A D;have p9:a.eval (.tmp 9)=.pointer (some ⟨B,0,none⟩):=D ⟨0,.data⟩ (by simp) rfl;exact zby _ rfl rfl (by revert p9;generalize a.eval=ρ;intro p9;simp only[execOp];go_simp) C K A rfl
 ·intro a w' C A D;have F2:a.eval (.tmp 10)=.pointer (some ⟨B,0,none⟩):=D ⟨1,.data⟩ (by simp) rfl;exact zby _ rfl rfl (by revert F2;generalize a.eval=ρ;intro F2;simp only[execOp];go_simp) C K A rfl
 ·intro a w' C A D;have G8:a.eval (.tmp 11)=.pointer (some ⟨B,31,none⟩):=D ⟨2,.data⟩ (by simp) rfl;have c0:w'.cell? ⟨B,31,none⟩=some (.int .i64 j.now.seq):=zac A.1 c H7.o;have c1:w'.cell? ⟨B,32,none⟩=some (.slice na j.now.info.length nc):=zac A.1 c H5.o;have c2:w'.cell? ⟨B,33,none⟩=some (.slice nb j.now.data.length nd):=zac A.1 c H8.o;have c3:w'.cell? ⟨B,34,none⟩=some (.slice ne j.now.rev.length nf):=zac A.1 c I8.o;have c4:w'.cell? ⟨B,35,none⟩=some (.bool j.now.h0.on):=zac A.1 c I5.o;have c5:w'.cell? ⟨B,36,none⟩=some (.int .i64 j.now.h0.left):=zac A.1 c H9.o;have c6:w'.cell? ⟨B,37,none⟩=some (.bool j.now.h1.on):=zac A.1 c J1.o;have c7:w'.cell? ⟨B,38,none⟩=some (.int .i64 j.now.h1.left):=zac A.1 c I4.o;have c8:w'.cell? ⟨B,39,none⟩=some (.bool j.now.h2.on):=zac A.1 c I7.o;have c9:w'.cell? ⟨B,40,none⟩=some (.int .i64 j.now.h2.left):=zac A.1 c J4.o;exact zby _ rfl rfl (by revert G8;generalize a.eval=ρ;intro G8;simp only[execOp];go_simp) C K A rfl
 ·intro a w' C A D;have z3:=(C.other 3 rfl).trans v3;exact zby _ rfl rfl (by revert z3;generalize a.eval=ρ;intro z3;simp only[execOp];go_simp) C K A rfl
 ·intro a w' C A D;have G5:a.eval (.tmp 13)=.pointer (some ⟨w.heap.size,1,none⟩):=D ⟨4,.data⟩ (by simp) rfl;have c0:w'.cell? ⟨w.heap.size,1,none⟩=some (.int .i64 ac.h):=zac A.1 B9 A1.o;exact zby _ rfl rfl (by revert G5;generalize a.eval=ρ;intro G5;simp only[execOp];go_simp) C K A rfl
 ·intro a w' C A D;have z3:=(C.other 3 rfl).trans v3;exact zby _ rfl rfl (by revert z3;generalize a.eval=ρ;intro z3;simp only[execOp];go_simp) C K A rfl
 ·intro a w' C A D;have G9:a.eval (.tmp 15)=.pointer (some ⟨w.heap.size,2,none⟩):=D ⟨6,.data⟩ (by simp) rfl;have c0:w'.cell? ⟨w.heap.size,2,none⟩=some (.int .i64 ac.b):=zac A.1 B9 A2.o;exact zby _ rfl rfl (by revert G9;generalize a.eval=ρ;intro G9;simp only[execOp];go_simp) C K A rfl
 ·intro a w' C A D;have z3:=(C.other 3 rfl).trans v3;exact zby _ rfl rfl (by revert z3;generalize a.eval=ρ;intro z3;simp only[execOp];go_simp) C K A rfl
 ·intro a w' C A D;have E9:a.eval (.tmp 17)=.pointer (some ⟨w.heap.size,4,none⟩):=D ⟨8,.data⟩ (by simp) rfl;have c0:w'.cell? ⟨w.heap.size,4,none⟩=some (.string ac.text):=zac A.1 B9 A4.o;exact zby _ rfl rfl (by revert E9;generalize a.eval=ρ;intro E9;simp only[execOp];go_simp) C K A rfl
 ·intro a w' C A D;have G3:a.eval (.tmp 18)=.string ac.text:=D ⟨9,.data⟩ (by simp) rfl;refine zbp 25 #[.string ac.text] rfl rfl (by have pf:=Act.eval_func a 25;revert G3 pf;generalize a.eval=ρ;intro G3 pf;simp only[execOp];go_simp) _ (zf6 ac.text _ hsz2) ?_;rintro e w2 ⟨rfl,J⟩;refine⟨_,rfl,_,rfl,?_,?_,?_⟩
  ·show zmb F ((a.put (some 19) _).eval (.tmp 5)) w2;rw[Act.eval_put_ne _ _ _ _ (by decide)];exact zfw A J
  ·show zgf _ _ _ _ _ _ _ _ _ _ _ _ ((a.put (some 19) _).eval (.tmp 19)) ((a.put (some 19) _).eval (.tmp 5)) w2;rw[zav C K (by decide),Act.eval_put_ne _ _ _ _ (by decide)];exact rfl
  ·intro m x hk h;show zgf _ _ _ _ _ _ _ _ _ _ _ m x ((a.put (some 19) _).eval (.tmp 5)) w2;rw[Act.eval_put_ne _ _ _ _ (by decide)];exact zmg J m x h
 ·intro a w' C A D;have G2:a.eval (.tmp 12)=.agg #[.int .i64 j.now.seq,.slice na j.now.info.length nc,.slice nb j.now.data.length nd,.slice ne j.now.rev.length nf,.bool j.now.h0.on,.int .i64 j.now.h0.left,.bool j.now.h1.on,.int .i64 j.now.h1.left,.bool j.now.h2.on,.int .i64 j.now.h2.left]:=D ⟨3,.data⟩ (by simp) rfl;have G7:a.eval (.tmp 14)=.int .i64 ac.h:=D ⟨5,.data⟩ (by simp) rfl;have E3:a.eval (.tmp 16)=.int .i64 ac.b:=D ⟨7,.data⟩ (by simp) rfl;have G0:a.eval (.tmp 19)=.string (fitT ac.text):=D ⟨10,.data⟩ (by simp) rfl;refine zbp 122 #[.agg #[.int .i64 j.now.seq,.slice na j.now.info.length nc,.slice nb j.now.data.length nd,.slice ne j.now.rev.length nf,.bool j.now.h0.on,.int .i64 j.now.h0.left,.bool j.now.h1.on,.int .i64 j.now.h1.left,.bool j.now.h2.on,.int .i64 j.now.h2.left],.int .i64 ac.h,.int .i64 ac.b,.string (fitT ac.text)] rfl rfl (by have pf:=Act.eval_func a 122;revert G2 G7 E3 G0 pf;generalize a.eval=ρ;intro G2 G7 E3 G0 pf;simp only[execOp];go_simp) _ (zxd _ j.now ac.h ac.b (fitT ac.text) _ ((F9.o.ext (Ext.seenL F _)).below A.1) r1 r2) ?_;rintro e w2 ⟨U,rfl,D1,J,I9⟩;refine⟨_,rfl,_,rfl,?_,?_,?_⟩
  ·show zmb F ((a.put (some 20) _).eval (.tmp 5)) w2;rw[Act.eval_put_ne _ _ _ _ (by decide)];exact zfw A J
  ·show zgf _ _ _ _ _ _ _ _ _ _ _ _ ((a.put (some 20) _).eval (.tmp 20)) ((a.put (some 20) _).eval (.tmp 5)) w2;rw[zav C K (by decide),Act.eval_put_ne _ _ _ _ (by decide)];exact⟨U,rfl,okTx.made H4.o F9.o I2.o A D1 J I9⟩
  ·intro m x hk h;show zgf _ _ _ _ _ _ _ _ _ _ _ m x ((a.put (some 20) _).eval (.tmp 5)) w2;rw[Act.eval_put_ne _ _ _ _ (by decide)];exact zmg J m x h
 ·intro a w' C A D;obtain⟨U,pc,ok⟩:∃U,a.eval (.tmp 20)=.tuple #[U,.int .i64 (fillE j.now ac.h ac.b (fitT ac.text))]∧okTx ((w.heap.size+1)::X) (zan j.now ac.h ac.b (fitT ac.text)) U (a.eval (.tmp 5)) w':=D ⟨11,.data⟩ (by simp) rfl;refine zbb (.tuple #[U,.int .i64 (fillE j.now ac.h ac.b (fitT ac.text))]) rfl rfl (by revert pc;generalize a.eval=ρ;intro pc;simp only[execOp];go_simp) ⟨_,rfl,?_,?_,?_⟩
  ·show zmb F ((a.put (some 8) _).eval (.tmp 5)) w';rw[Act.eval_put_ne _ _ _ _ (by decide)];exact A
  ·show zgf _ _ _ _ _ _ _ _ _ _ _ _ ((a.put (some 8) _).eval (.tmp 8)) ((a.put (some 8) _).eval (.tmp 5)) w';rw[zav C K (by decide),Act.eval_put_ne _ _ _ _ (by decide)];exact⟨U,rfl,ok⟩
  ·intro m x hk h;show zgf _ _ _ _ _ _ _ _ _ _ _ m x ((a.put (some 8) _).eval (.tmp 5)) w';rw[Act.eval_put_ne _ _ _ _ (by decide)];exact h
 ·intro a w' C A D;obtain⟨U,pm,ok⟩:∃U,a.eval (.tmp 8)=.tuple #[U,.int .i64 (fillE j.now ac.h ac.b (fitT ac.text))]∧okTx ((w.heap.size+1)::X) (zan j.now ac.h ac.b (fitT ac.text)) U (a.eval (.tmp 5)) w':=D ⟨12,.data⟩ (by simp) rfl;refine zbb (U) rfl rfl (by revert pm;generalize a.eval=ρ;intro pm;simp only[execOp];go_simp) ⟨_,rfl,?_,?_,?_⟩
  ·show zmb F ((a.put (some 21) _).eval (.tmp 5)) w';rw[Act.eval_put_ne _ _ _ _ (by decide)];exact A
  ·show zgf _ _ _ _ _ _ _ _ _ _ _ _ ((a.put (some 21) _).eval (.tmp 21)) ((a.put (some 21) _).eval (.tmp 5)) w';rw[zav C K (by decide),Act.eval_put_ne _ _ _ _ (by decide)];exact ok
  ·intro m x hk h;show zgf _ _ _ _ _ _ _ _ _ _ _ m x ((a.put (some 21) _).eval (.tmp 5)) w';rw[Act.eval_put_ne _ _ _ _ (by decide)];exact h
 ·intro a w' C A D;obtain⟨U,pm,ok⟩:∃U,a.eval (.tmp 8)=.tuple #[U,.int .i64 (fillE j.now ac.h ac.b (fitT ac.text))]∧okTx ((w.heap.size+1)::X) (zan j.now ac.h ac.b (fitT ac.text)) U (a.eval (.tmp 5)) w':=D ⟨12,.data⟩ (by simp) rfl;exact zby _ rfl rfl (by revert pm;generalize a.eval=ρ;intro pm;simp only[execOp];go_simp) C K A rfl
 ·intro a w' C A D;refine zfj (.pointer (some ⟨w'.heap.size,0,none⟩)) rfl rfl (w':=w'.alloc (.cells #[.int .i64 0,.slice none 0 0,.slice none 0 0,.slice none 0 0,.bool false,.int .i64 0,.bool false,.int .i64 0,.bool false,.int .i64 0] 40)) (by simp only[execOp];go_simp) ⟨_,rfl,?_,?_,?_⟩
  ·show zmb F ((a.put (some 5) _).eval (.tmp 5)) _;rw[zav C K (by decide)];exact⟨A.1.alloc A.1.size _,.inr ⟨_,rfl,A.1.size,by simp,_,_,_,_,_,_,_,_,_,_,heap_alloc_new _ _⟩⟩
  ·show zgf _ _ _ _ _ _ _ _ _ _ _ _ ((a.put (some 5) _).eval (.tmp 5)) ((a.put (some 5) _).eval (.tmp 5)) _;rw[zav C K (by decide)];exact⟨_,rfl⟩
  ·intro m x hk h;show zgf _ _ _ _ _ _ _ _ _ _ _ m x ((a.put (some 5) _).eval (.tmp 5)) _;rw[zav C K (by decide)];exact zt5 _ m x h
 ·intro a w' C A D;obtain⟨T,R⟩:∃T,a.eval (.tmp 5)=.pointer (some ⟨T,0,none⟩):=D ⟨15,.data⟩ (by simp) rfl;have ok:okTx ((w.heap.size+1)::X) (zan j.now ac.h ac.b (fitT ac.text)) (a.eval (.tmp 21)) (a.eval (.tmp 5)) w':=D ⟨13,.data⟩ (by simp) rfl
  obtain⟨B3,D1,c0,c1,c2,c3,c4,c5,c6,c7,c8,c9,u⟩:F.heap.size≤T∧T<w'.heap.size∧∃c0 c1 c2 c3 c4 c5 c6 c7 c8 c9,w'.heap[T]?=some (.cells #[c0,c1,c2,c3,c4,c5,c6,c7,c8,c9] 40 (0,0)):=by
   rcases A.2 with h0|⟨T',e,h3,h4,h5⟩
   ·rw[h0] at R;cases R
   ·rw[e] at R;cases R;exact⟨h3,h4,h5⟩
  have z:=ok.2.2 T R;have A6:=ok.2.1;obtain⟨q,l,r,d,i,p,hv,_⟩:=id z;rw[hv] at z A6;obtain⟨⟨t0,t1,t2,t3,t4,t5,t6,t7,t8,t9⟩,tf⟩:=zaj u;refine zcf rfl rfl (w':=((((((((((w'.setCell ⟨T,0,none⟩ (.int .i64 (zan j.now ac.h ac.b (fitT ac.text)).seq)).setCell ⟨T,1,none⟩ (.slice q (zan j.now ac.h ac.b (fitT ac.text)).info.length l)).setCell ⟨T,2,none⟩ (.slice r (zan j.now ac.h ac.b (fitT ac.text)).data.length d)).setCell ⟨T,3,none⟩ (.slice i (zan j.now ac.h ac.b (fitT ac.text)).rev.length p)).setCell ⟨T,4,none⟩ (.bool (zan j.now ac.h ac.b (fitT ac.text)).h0.on)).setCell ⟨T,5,none⟩ (.int .i64 (zan j.now ac.h ac.b (fitT ac.text)).h0.left)).setCell ⟨T,6,none⟩ (.bool (zan j.now ac.h ac.b (fitT ac.text)).h1.on)).setCell ⟨T,7,none⟩ (.int .i64 (zan j.now ac.h ac.b (fitT ac.text)).h1.left)).setCell ⟨T,8,none⟩ (.bool (zan j.now ac.h ac.b (fitT ac.text)).h2.on)).setCell ⟨T,9,none⟩ (.int .i64 (zan j.now ac.h ac.b (fitT ac.text)).h2.left))) (by revert R hv;generalize a.eval=ρ;intro R hv;simp only[execOp];go_simp) ⟨_,rfl,?_,?_,?_⟩
  ·show zmb F (a.eval (.tmp 5)) _;exact⟨Below.set10 A.1 B3 _ _ _ _ _ _ _ _ _ _,.inr ⟨T,R,B3,by simpa[World.setCell] using D1,_,_,_,_,_,_,_,_,_,_,zhw u _ _ _ _ _ _ _ _ _ _⟩⟩
  ·show zgf _ _ _ _ _ _ _ _ _ _ _ _ (a.eval (.tmp 5)) (a.eval (.tmp 5)) _;exact⟨T,q,l,r,d,i,p,R,zhw u _ _ _ _ _ _ _ _ _ _,z.ext (zpc (by simp) w' _ _ _ _ _ _ _ _ _ _),A6⟩
  ·intro m x hk h;show zgf _ _ _ _ _ _ _ _ _ _ _ m x (a.eval (.tmp 5)) _;rw[R] at h⊢;exact zt6 (fun t x h=>h.store _ _ _ _ _ _ _ _ _ _) m x hk h
 ·intro a W C A D;obtain⟨T,q,l,r,d,i,p,R,u,z,A6⟩:∃T q l r d i p,a.eval (.tmp 5)=.pointer (some ⟨T,0,none⟩)∧W.heap[T]?=some (.cells #[.int .i64 (zan j.now ac.h ac.b (fitT ac.text)).seq,.slice q (zan j.now ac.h ac.b (fitT ac.text)).info.length l,.slice r (zan j.now ac.h ac.b (fitT ac.text)).data.length d,.slice i (zan j.now ac.h ac.b (fitT ac.text)).rev.length p,.bool (zan j.now ac.h ac.b (fitT ac.text)).h0.on,.int .i64 (zan j.now ac.h ac.b (fitT ac.text)).h0.left,.bool (zan j.now ac.h ac.b (fitT ac.text)).h1.on,.int .i64 (zan j.now ac.h ac.b (fitT ac.text)).h1.left,.bool (zan j.now ac.h ac.b (fitT ac.text)).h2.on,.int .i64 (zan j.now ac.h ac.b (fitT ac.text)).h2.left] 40 (0,0))∧IsTx (zar W (T::(w.heap.size+1)::X)) (.agg #[.int .i64 (zan j.now ac.h ac.b (fitT ac.text)).seq,.slice q (zan j.now ac.h ac.b (fitT ac.text)).info.length l,.slice r (zan j.now ac.h ac.b (fitT ac.text)).data.length d,.slice i (zan j.now ac.h ac.b (fitT ac.text)).rev.length p,.bool (zan j.now ac.h ac.b (fitT ac.text)).h0.on,.int .i64 (zan j.now ac.h ac.b (fitT ac.text)).h0.left,.bool (zan j.now ac.h ac.b (fitT ac.text)).h1.on,.int .i64 (zan j.now ac.h ac.b (fitT ac.text)).h1.left,.bool (zan j.now ac.h ac.b (fitT ac.text)).h2.on,.int .i64 (zan j.now ac.h ac.b (fitT ac.text)).h2.left]) (zan j.now ac.h ac.b (fitT ac.text))∧RoomTx (.agg #[.int .i64 (zan j.now ac.h ac.b (fitT ac.text)).seq,.slice q (zan j.now ac.h ac.b (fitT ac.text)).info.length l,.slice r (zan j.now ac.h ac.b (fitT ac.text)).data.length d,.slice i (zan j.now ac.h ac.b (fitT ac.text)).rev.length p,.bool (zan j.now ac.h ac.b (fitT ac.text)).h0.on,.int .i64 (zan j.now ac.h ac.b (fitT ac.text)).h0.left,.bool (zan j.now ac.h ac.b (fitT ac.text)).h1.on,.int .i64 (zan j.now ac.h ac.b (fitT ac.text)).h1.left,.bool (zan j.now ac.h ac.b (fitT ac.text)).h2.on,.int .i64 (zan j.now ac.h ac.b (fitT ac.text)).h2.left]):=D 16 (by decide);have pE:a.eval (.tmp 22)=.int .i64 (fillE j.now ac.h ac.b (fitT ac.text)):=D 14 (by decide)
  have B3:F.heap.size≤T:=by
   rcases A.2 with h0|⟨T',e,h3,h4,h5⟩
   ·rw[h0] at R;cases R
   ·rw[e] at R;cases R;exact h3
  show wpOps prog _ _ [17] a W;rw[wpOps_cons];refine zbb (.int .i64 (fillE j.now ac.h ac.b (fitT ac.text))) rfl rfl (by revert pE;generalize a.eval=ρ;intro pE;simp only[execOp];go_simp) ?_;have F4:a.tmps.size=57:=C.size.trans K;obtain⟨a2,A5⟩:∃a2,a2=a.put (some 6) (.int .i64 (fillE j.now ac.h ac.b (fitT ac.text))):=⟨_,rfl⟩;have f6:a2.eval (.tmp 6)=.int .i64 (fillE j.now ac.h ac.b (fitT ac.text)):=by rw[A5];exact Act.eval_put_same _ _ _ (by rw[F4];decide)
  have f0:a2.eval (.tmp 0)=.pointer (some ⟨B,0,none⟩):=by rw[A5,Act.eval_put_ne _ _ _ _ (by decide)];exact(C.other 0 rfl).trans v0
  have f3:a2.eval (.tmp 3)=.pointer (some ⟨w.heap.size,0,none⟩):=by rw[A5,Act.eval_put_ne _ _ _ _ (by decide)];exact(C.other 3 rfl).trans v3
  have f4:a2.eval (.tmp 4)=.pointer (some ⟨w.heap.size+1,0,none⟩):=by rw[A5,Act.eval_put_ne _ _ _ _ (by decide)];exact(C.other 4 rfl).trans v4
  have f5:a2.eval (.tmp 5)=.pointer (some ⟨T,0,none⟩):=by rw[A5,Act.eval_put_ne _ _ _ _ (by decide)];exact R
  have B7:a2=⟨#[_,_,_,_,_,_,_,_,_,_,_,_,_,_,_,_,_,_,_,_,_,_,_,_,_,_,_,_,_,_,_,_,_,_,_,_,_,_,_,_,_,_,_,_,_,_,_,_,_,_,_,_,_,_,_,_,_],[]⟩:=zcd a2 57 (by rw[A5,Act.size_put];exact F4) (by rw[A5,Act.defers_put'];exact C.defers.trans J5);dsimp only at B7;rw[f0,f3,f4,f5,f6] at B7;show KK (a.put (some 6) (.int .i64 (fillE j.now ac.h ac.b (fitT ac.text)))) _;rw[←A5];exact(congrArg (fun x=>KK x _) B7).mpr (E2.o (fun k=>a2.eval (.tmp k)) _ T q l r d i p z A6 u B3 A.1)
open Go.RowKit
def zhb (B:Nat)(D:Nat)(j:Jn)(ac:Ac)(X:List Nat)(na:Option Addr)(nc:Nat)(nb:Option Addr)(nd:Nat)(ne:Option Addr)(nf:Nat):Nat→Value→Value→World→Prop
 |0,v,_,_=>v=.pointer (some ⟨B,0,none⟩)
 |1,v,_,_=>v=.pointer (some ⟨B,0,none⟩)
 |2,v,_,_=>v=.pointer (some ⟨B,31,none⟩)
 |3,v,_,_=>v=.agg #[.int .i64 j.now.seq,.slice na j.now.info.length nc,.slice nb j.now.data.length nd,.slice ne j.now.rev.length nf,.bool j.now.h0.on,.int .i64 j.now.h0.left,.bool j.now.h1.on,.int .i64 j.now.h1.left,.bool j.now.h2.on,.int .i64 j.now.h2.left]
 |4,v,_,_=>v=.pointer (some ⟨D,1,none⟩)
 |5,v,_,_=>v=.int .i64 ac.h
 |6,v,_,_=>v=.pointer (some ⟨D,2,none⟩)
 |7,v,_,_=>v=.int .i64 ac.b
 |8,v,u,w=>∃v2,v=.tuple #[v2,.int .i64 (revokeE j.now ac.h ac.b)]∧okTx X (zag j.now ac.h ac.b) v2 u w
 |9,v,u,w=>∃v2,v=.tuple #[v2,.int .i64 (revokeE j.now ac.h ac.b)]∧okTx X (zag j.now ac.h ac.b) v2 u w
 |10,v,u,w=>okTx X (zag j.now ac.h ac.b) v u w
 |11,v,_,_=>v=.int .i64 (revokeE j.now ac.h ac.b)
 |12,v,_,_=>∃T,v=.pointer (some ⟨T,0,none⟩)
 |13,v,_,w=>∃T ua uc ub ud ue uf,v=.pointer (some ⟨T,0,none⟩)∧w.heap[T]?=some (.cells #[.int .i64 (zag j.now ac.h ac.b).seq,.slice ua (zag j.now ac.h ac.b).info.length uc,.slice ub (zag j.now ac.h ac.b).data.length ud,.slice ue (zag j.now ac.h ac.b).rev.length uf,.bool (zag j.now ac.h ac.b).h0.on,.int .i64 (zag j.now ac.h ac.b).h0.left,.bool (zag j.now ac.h ac.b).h1.on,.int .i64 (zag j.now ac.h ac.b).h1.left,.bool (zag j.now ac.h ac.b).h2.on,.int .i64 (zag j.now ac.h ac.b).h2.left] 40 (0,0))∧IsTx (zar w (T::X)) (.agg #[.int .i64 (zag j.now ac.h ac.b).seq,.slice ua (zag j.now ac.h ac.b).info.length uc,.slice ub (zag j.now ac.h ac.b).data.length ud,.slice ue (zag j.now ac.h ac.b).rev.length uf,.bool (zag j.now ac.h ac.b).h0.on,.int .i64 (zag j.now ac.h ac.b).h0.left,.bool (zag j.now ac.h ac.b).h1.on,.int .i64 (zag j.now ac.h ac.b).h1.left,.bool (zag j.now ac.h ac.b).h2.on,.int .i64 (zag j.now ac.h ac.b).h2.left]) (zag j.now ac.h ac.b)∧RoomTx (.agg #[.int .i64 (zag j.now ac.h ac.b).seq,.slice ua (zag j.now ac.h ac.b).info.length uc,.slice ub (zag j.now ac.h ac.b).data.length ud,.slice ue (zag j.now ac.h ac.b).rev.length uf,.bool (zag j.now ac.h ac.b).h0.on,.int .i64 (zag j.now ac.h ac.b).h0.left,.bool (zag j.now ac.h ac.b).h1.on,.int .i64 (zag j.now ac.h ac.b).h1.left,.bool (zag j.now ac.h ac.b).h2.on,.int .i64 (zag j.now ac.h ac.b).h2.left])
 |_,_,_,_=>True
theorem zt7 {B:Nat}{D:Nat}{j:Jn}{ac:Ac}{X:List Nat}{na:Option Addr}{nc:Nat}{nb:Option Addr}{nd:Nat}{ne:Option Addr}{nf:Nat}{u:Value}{w w':World}(hb:Below w.heap.size w w'):∀kk x,zhb B D j ac X na nc nb nd ne nf kk x u w→zhb B D j ac X na nc nb nd ne nf kk x u w':=by
 intro kk x h
 match kk,h with
 |0,h|1,h|2,h|3,h|4,h|5,h|6,h|7,h=>exact h
 |8,⟨v2,h1,h2⟩=>exact⟨v2,h1,h2.below hb⟩
 |9,⟨v2,h1,h2⟩=>exact⟨v2,h1,h2.below hb⟩
 |10,h=>exact h.below hb
 |11,h|12,h=>exact h
 |13,⟨T,ua,uc,ub,ud,ue,uf,h1,h2,h3,h4⟩=>exact⟨T,ua,uc,ub,ud,ue,uf,h1,zad hb (Array.getElem?_eq_some_iff.1 h2).1 h2,h3.ext (Ext.freshL hb),h4⟩
 |_+14,_=>exact trivial
theorem zt8 {B:Nat}{D:Nat}{j:Jn}{ac:Ac}{X:List Nat}{na:Option Addr}{nc:Nat}{nb:Option Addr}{nd:Nat}{ne:Option Addr}{nf:Nat}{u:Value}{w:World}(o:Obj):∀kk x,zhb B D j ac X na nc nb nd ne nf kk x u w→zhb B D j ac X na nc nb nd ne nf kk x (.pointer (some ⟨w.heap.size,0,none⟩)) (w.alloc o):=by
 intro kk x h
 match kk,h with
 |0,h|1,h|2,h|3,h|4,h|5,h|6,h|7,h=>exact h
 |8,⟨v2,h1,h2⟩=>exact⟨v2,h1,h2.alloc o⟩
 |9,⟨v2,h1,h2⟩=>exact⟨v2,h1,h2.alloc o⟩
 |10,h=>exact h.alloc o
 |11,h|12,h=>exact h
 |13,⟨T,ua,uc,ub,ud,ue,uf,h1,h2,h3,h4⟩=>exact⟨T,ua,uc,ub,ud,ue,uf,h1,zad (zaa _ _) (Array.getElem?_eq_some_iff.1 h2).1 h2,h3.ext (Ext.freshL (zaa _ _)),h4⟩
 |_+14,_=>exact trivial
theorem zt9 {B:Nat}{D:Nat}{j:Jn}{ac:Ac}{X:List Nat}{na:Option Addr}{nc:Nat}{nb:Option Addr}{nd:Nat}{ne:Option Addr}{nf:Nat}{u:Value}{w w':World}(hs:∀t x,okTx X t x u w→okTx X t x u w'):∀kk x,kk≠13→zhb B D j ac X na nc nb nd ne nf kk x u w→zhb B D j ac X na nc nb nd ne nf kk x u w':=by
 intro kk x A h
 match kk,h with
 |0,h|1,h|2,h|3,h|4,h|5,h|6,h|7,h=>exact h
 |8,⟨y,h1,h2⟩=>exact⟨y,h1,hs _ _ h2⟩
 |9,⟨y,h1,h2⟩=>exact⟨y,h1,hs _ _ h2⟩
 |10,h=>exact hs _ _ h
 |11,h|12,h=>exact h
 |13,_=>exact absurd rfl A
 |_+14,_=>exact trivial
theorem zua (B:Nat)(X:List Nat)(j:Jn)(w:World)(h:JAt w B X j)(hX:∀x∈X,x<w.heap.size)(ac:Ac)(r1:j.now.info.length*24≤140737488355328)(r2:j.now.data.length*24≤140737488355328):
  Calls prog 84 #[.pointer (some ⟨B,0,none⟩),.agg #[.int .i64 ac.kind,.int .i64 ac.h,.int .i64 ac.b,.int .i64 ac.n,.string ac.text]] w (zdf w B X (zew j ac)):=by
 have HJ:=zab h;have J0:=h.lt;have B0:=h.1;have HX:=zab hX;clear h hX;go_enter func84,ntmps84;go_wp2;rename_i KK C2;obtain⟨D,z⟩:∃D,D=(w.alloc (.cells #[.int .i64 ac.kind,.int .i64 ac.h,.int .i64 ac.b,.int .i64 ac.n,.string ac.text] 23)).alloc (.cells #[.int .i64 0,.int .i64 0,.string ⟨#[]⟩] 31):=⟨_,rfl⟩;have E0:(w.alloc (.cells #[.int .i64 ac.kind,.int .i64 ac.h,.int .i64 ac.b,.int .i64 ac.n,.string ac.text] 23)).heap.size=w.heap.size+1:=by simp
 have l:Hid (JAt D B ((w.heap.size+1)::X) j):=by rw[z];exact(HJ.o.below (zaa _ _)).more (zaa _ _) (by omega)
 have m:Hid (Below w.heap.size w D):=by rw[z];exact zae (zaa _ _) (zaa _ _)
 have L:Hid (D.heap[w.heap.size+1]?=some (.cells #[.int .i64 0,.int .i64 0,.string ⟨#[]⟩] 31 (0,0))):=by rw[z,←E0];exact heap_alloc_new _ _
 have B9:Hid (D.heap[w.heap.size]?=some (.cells #[.int .i64 ac.kind,.int .i64 ac.h,.int .i64 ac.b,.int .i64 ac.n,.string ac.text] 23 (0,0))):=by rw[z];exact zad (zaa _ _) (by omega) (heap_alloc_new _ _)
 have J1:D.heap.size=w.heap.size+2:=by rw[z];simp
 have G2:Hid (∀x∈((w.heap.size+1)::X),x<D.heap.size):=fun x hx=>by
  rcases List.mem_cons.1 hx with rfl|hx
  ·omega
  ·have:=HX.o x hx;omega
 rw[←z];clear z E0;have O:B<D.heap.size:=by omega
 have C6:w.heap.size<D.heap.size:=by omega
 have C3:∀(g:Nat→Value) (d:World) (T:Nat) (Z:Option Addr) (S:Nat) (c:Option Addr) (Q:Nat) (R:Option Addr) (U:Nat),IsTx (zar d (T::((w.heap.size+1)::X))) (.agg #[.int .i64 (zag j.now ac.h ac.b).seq,.slice Z (zag j.now ac.h ac.b).info.length S,.slice c (zag j.now ac.h ac.b).data.length Q,.slice R (zag j.now ac.h ac.b).rev.length U,.bool (zag j.now ac.h ac.b).h0.on,.int .i64 (zag j.now ac.h ac.b).h0.left,.bool (zag j.now ac.h ac.b).h1.on,.int .i64 (zag j.now ac.h ac.b).h1.left,.bool (zag j.now ac.h ac.b).h2.on,.int .i64 (zag j.now ac.h ac.b).h2.left]) (zag j.now ac.h ac.b)→RoomTx (.agg #[.int .i64 (zag j.now ac.h ac.b).seq,.slice Z (zag j.now ac.h ac.b).info.length S,.slice c (zag j.now ac.h ac.b).data.length Q,.slice R (zag j.now ac.h ac.b).rev.length U,.bool (zag j.now ac.h ac.b).h0.on,.int .i64 (zag j.now ac.h ac.b).h0.left,.bool (zag j.now ac.h ac.b).h1.on,.int .i64 (zag j.now ac.h ac.b).h1.left,.bool (zag j.now ac.h ac.b).h2.on,.int .i64 (zag j.now ac.h ac.b).h2.left])→d.heap[T]?=some (.cells #[.int .i64 (zag j.now ac.h ac.b).seq,.slice Z (zag j.now ac.h ac.b).info.length S,.slice c (zag j.now ac.h ac.b).data.length Q,.slice R (zag j.now ac.h ac.b).rev.length U,.bool (zag j.now ac.h ac.b).h0.on,.int .i64 (zag j.now ac.h ac.b).h0.left,.bool (zag j.now ac.h ac.b).h1.on,.int .i64 (zag j.now ac.h ac.b).h1.left,.bool (zag j.now ac.h ac.b).h2.on,.int .i64 (zag j.now ac.h ac.b).h2.left] 40 (0,0))→D.heap.size≤T→Below D.heap.size D d→KK ⟨#[.pointer (some ⟨B,0,none⟩),g 1,g 2,.pointer (some ⟨w.heap.size,0,none⟩),.pointer (some ⟨w.heap.size+1,0,none⟩),.pointer (some ⟨T,0,none⟩),.int .i64 (revokeE j.now ac.h ac.b),g 7,g 8,g 9,g 10,g 11,g 12,g 13,g 14,g 15,g 16,g 17,g 18,g 19,g 20,g 21,g 22,g 23,g 24,g 25,g 26,g 27,g 28,g 29,g 30,g 31,g 32,g 33,g 34,g 35,g 36,g 37,g 38,g 39,g 40,g 41,g 42,g 43],[]⟩ d:=by
  intro g d T Z S c Q R U p u i A9 A6;apply C2;clear C2;have C5:=zab (p.ext (Ext.lessL T));have E1:=zab u;have KT:=zab i;have B8:=zab (l.o.below A6);have B5:=zab (zae m.o A6);have D3:=zab (zad A6 (show w.heap.size+1<D.heap.size by omega) L.o);have D2:=zab (zad A6 C6 B9.o);have I9:D.heap.size≤d.heap.size:=A6.size;have H8:T<d.heap.size:=(Array.getElem?_eq_some_iff.1 i).1;clear p u i A6 l m L B9;obtain⟨t,ht⟩:∃t,t=zag j.now ac.h ac.b:=⟨_,rfl⟩;rw[←ht] at C5 E1 KT;have A7:w.heap.size+1≠B:=by omega
  by_cases he:revokeE j.now ac.h ac.b=0
  ·obtain⟨H9,H6⟩:=zrl he;obtain⟨J,C7⟩:∃J:Nat,ac.b=(J:Int):=⟨ac.b.toNat,by omega⟩;have B1:J<12:=by omega
   have HW:Hid (zew j ac=if j.role J=0 then(j,zas 8) else({j with role:=upd j.role J 0,freed:=upd j.freed J t.seq,now:=t},zas 0)):=by
    rw[Hid,zew,if_pos he,←ht,C7,Int.toNat_natCast]
   rw[he];rw[C7] at D2;clear he ht C7 H9 H6;obtain⟨⟨y0,y1,y2,y3,y4⟩,yf⟩:=zhy D2.o;have I3:(0:Int)≤(J:Int):=by omega
   have I4:(J:Int)<12:=by omega
   go_wp2
   go_quiet (fail)
   obtain⟨W5,B6⟩:∃W5,W5=d.drewN nq:=⟨_,rfl⟩;have s:Below d.heap.size d W5:=by rw[B6];exact below_drewN (Below.refl _ _) _
   have B3:=zab (B8.o.below s);have C4:Hid (ButL [B] w.heap.size w W5):=ButL.of_below (zae B5.o s);have C9:=zab (zad s (show w.heap.size+1<d.heap.size by omega) D3.o);have F7:=zab (zad s H8 KT.o);have B7:=zab (C5.o.ext (Ext.freshL s));have J2:d.heap.size≤W5.heap.size:=s.size;rw[←B6];clear B6 s y0 y1 y2 y3 y4 yf B8 B5 D3 KT C5 D2;obtain⟨G1,G7,G8,H0⟩:=B3.o.role J B1;by_cases hro:j.role J=0
   ·have HE:Hid (zew j ac=(j,zas 8)):=by rw[Hid,HW.o,if_pos hro]
    rw[hro] at G1;clear hro HW;go_wp2_with fail;have B4:=B3;have A8:=C4;have KR:=C9;have D4:w.heap.size+1<W5.heap.size:=by omega
    refine(zat 8 _).mono ?_;rintro e w2 ⟨rfl,K⟩;have L:=zab (zad K D4 KR.o);have l:=zab (B4.o.below K);have m:=zab (A8.o.trans (Y:=[]) (ButL.of_below K) A8.o.size (by simp));clear K;obtain⟨⟨y0,y1,y2⟩,yf⟩:=zbl L.o;go_wp2;exact zbf HE.o L.o l.o m.o A7 B0 fun W u0 u1 u2=>by simp[results,results84,go_sem,u0,u1,u2]
   ·have HE:Hid (zew j ac=({j with role:=upd j.role J 0,freed:=upd j.freed J t.seq,now:=t},zas 0)):=by rw[Hid,HW.o,if_neg hro]
    have I2:(j.role J==0)=false:=by simpa using hro
    clear hro HW;obtain⟨⟨t0,t1,t2,t3,t4,t5,t6,t7,t8,t9⟩,tf⟩:=zaj F7.o;have I6:¬T=B:=by omega
    have I7:¬B=T:=by omega
    go_wp2_with fail;obtain⟨W6,A5⟩:∃W6,W6=(W5.setCell ⟨B,7+J*2,none⟩ (.int .i64 0)).setCell ⟨B,7+J*2+1,none⟩ (.int .i64 t.seq):=⟨_,rfl⟩;have E3:Hid (JAt W6 B ((w.heap.size+1)::X) {j with role:=upd j.role J 0,freed:=upd j.freed J t.seq}):=by rw[A5,show 7+J*2+1=8+J*2 by omega];exact(B3.o.putRole J B1 0).putFreed J B1 t.seq
    have C0:Hid (IsTx (zar W6 ((w.heap.size+1)::X)) (.agg #[.int .i64 t.seq,.slice Z t.info.length S,.slice c t.data.length Q,.slice R t.rev.length U,.bool t.h0.on,.int .i64 t.h0.left,.bool t.h1.on,.int .i64 t.h1.left,.bool t.h2.on,.int .i64 t.h2.left]) t):=by rw[A5];exact(B7.o.ext (Ext.setL (by simp[B0]) _ _)).ext (Ext.setL (by simp[B0]) _ _)
    have D1:Hid (ButL [B] w.heap.size w W6):=by rw[A5];exact(C4.o.set (.inl (by simp)) _ _).set (.inl (by simp)) _ _
    have G0:Hid (W6.heap[w.heap.size+1]?=some (.cells #[.int .i64 0,.int .i64 0,.string ⟨#[]⟩] 31 (0,0))):=by rw[A5];exact(Below.heap_setCell _ _ _ _ A7).trans ((Below.heap_setCell _ _ _ _ A7).trans C9.o)
    have I5:W6.heap.size=W5.heap.size:=by rw[A5];simp[World.setCell]
    rw[←A5];clear A5 G1 G8 G7 H0 t0 t1 t2 t3 t4 t5 t6 t7 t8 t9 tf B3 B7 C4 C9 F7;refine(zje B ((w.heap.size+1)::X) _ W6 E3.o t Z S c Q R U C0.o E1.o 0).mono ?_;rintro e w2 ⟨rfl,D8,C8⟩;have l:Hid (JAt w2 B ((w.heap.size+1)::X) {j with role:=upd j.role J 0,freed:=upd j.freed J t.seq,now:=t}):=D8;have m:=zab (D1.o.trans (Y:=[B]) C8 D1.o.size (by simp));have L:=zab ((C8.block _ (show w.heap.size+1<W6.heap.size by omega) (by simpa using A7)).trans G0.o);clear D8 C8 E3 D1 G0 C0;dsimp only[zmt,vRp,zas];obtain⟨⟨y0,y1,y2⟩,yf⟩:=zbl L.o;go_wp2;exact zbf HE.o L.o l.o m.o A7 B0 fun W u0 u1 u2=>by simp[results,results84,go_sem,u0,u1,u2]
  ·have HE:Hid (zew j ac=(j,zas (revokeE j.now ac.h ac.b))):=by rw[Hid,zew,if_neg he]
   have I8:(revokeE j.now ac.h ac.b !=0)=true:=by simpa using he
   clear he ht;generalize revokeE j.now ac.h ac.b=E at *;go_wp2_with fail;have B4:=B8;have A8:Hid (ButL [B] w.heap.size w d):=ButL.of_below B5.o;have KR:=D3;have D4:w.heap.size+1<d.heap.size:=by omega
   refine(zat E _).mono ?_;rintro e w2 ⟨rfl,K⟩;have L:=zab (zad K D4 KR.o);have l:=zab (B4.o.below K);have m:=zab (A8.o.trans (Y:=[]) (ButL.of_below K) A8.o.size (by simp));clear K;obtain⟨⟨y0,y1,y2⟩,yf⟩:=zbl L.o;go_wp2;exact zbf HE.o L.o l.o m.o A7 B0 fun W u0 u1 u2=>by simp[results,results84,go_sem,u0,u1,u2]
 have D5:=zab C3;clear C3 C2;obtain⟨_,da,dc,db,dd,na,nc,nb,nd,ne,nf,sa,sc,sb,sd,se,sf,ca,cc,fa,fc,ta,tc,y,hr⟩:=id l.o;have F1:D.cell? ⟨B,31,none⟩=some (.int .i64 j.now.seq):=zak y 31;have E9:D.cell? ⟨B,32,none⟩=some (.slice na j.now.info.length nc):=zak y 32;have D9:D.cell? ⟨B,33,none⟩=some (.slice nb j.now.data.length nd):=zak y 33;have D7:D.cell? ⟨B,34,none⟩=some (.slice ne j.now.rev.length nf):=zak y 34;have F3:D.cell? ⟨B,35,none⟩=some (.bool j.now.h0.on):=zak y 35;have E5:D.cell? ⟨B,36,none⟩=some (.int .i64 j.now.h0.left):=zak y 36;have F8:D.cell? ⟨B,37,none⟩=some (.bool j.now.h1.on):=zak y 37;have E7:D.cell? ⟨B,38,none⟩=some (.int .i64 j.now.h1.left):=zak y 38;have F9:D.cell? ⟨B,39,none⟩=some (.bool j.now.h2.on):=zak y 39;have E6:D.cell? ⟨B,40,none⟩=some (.int .i64 j.now.h2.left):=zak y 40;have G4:=zab F1;have G3:=zab E9;have G5:=zab D9;have H4:=zab D7;have H2:=zab F3;have G6:=zab E5;have H7:=zab F8;have H1:=zab E7;have H3:=zab F9;have I0:=zab E6;have E8:=zab hr.2.1;have G9:=zab hr.2.2.2.2.2.2.1;clear y hr F1 E9 D9 D7 F3 E5 F8 E7 F9 E6;obtain⟨⟨y0,y1,y2,y3,y4⟩,_⟩:=zhy B9.o;have A0:=zab y0;have A1:=zab y1;have A2:=zab y2;have A3:=zab y3;have A4:=zab y4;clear y0 y1 y2 y3 y4;refine(show∀A0:Act,A0=_→Code.wp prog _ _ A0 _ from fun A0 hA0=>?_) _ rfl;have I:A0.tmps.size=44:=by rw[hA0];rfl
 have I1:A0.defers=[]:=by rw[hA0]
 have v0:A0.eval (.tmp 0)=.pointer (some ⟨B,0,none⟩):=by rw[hA0];rfl
 have v3:A0.eval (.tmp 3)=.pointer (some ⟨w.heap.size,0,none⟩):=by rw[hA0];rfl
 have v4:A0.eval (.tmp 4)=.pointer (some ⟨w.heap.size+1,0,none⟩):=by rw[hA0];rfl
 have v5:A0.eval (.tmp 5)=undef:=by rw[hA0];rfl
 clear hA0;refine zda 14 5 (zmb D) [9,10,11,12,13,14,15,16,17,8,18,19,5,5] (zhb B w.heap.size j ac ((w.heap.size+1)::X) na nc nb nd ne nf) (by kernel_rfl) (by kernel_rfl) (by kernel_rfl) (by kernel_rfl) (by decide) (⟨(Below.refl _ _).drew,.inl v5⟩) ⟨?_,?_,?_,?_,?_,?_,?_,?_,?_,?_,?_,?_,?_,?_,trivial⟩ ?_
 ·intro a w' C A F;have z0:=(C.other 0 rfl).trans v0;exact zby _ rfl rfl (by revert z0;generalize a.eval=ρ;intro z0;simp only[execOp];go_simp) C I A rfl
 ·intro a w' C A F;have p9:a.eval (.tmp 9)=.pointer (some ⟨B,0,none⟩):=F ⟨0,.data⟩ (by simp) rfl;exact zby _ rfl rfl (by revert p9;generalize a.eval=ρ;intro p9;simp only[execOp];go_simp) C I A rfl
 ·intro a w' C A F;have E2:a.eval (.tmp 10)=.pointer (some ⟨B,0,none⟩):=F ⟨1,.data⟩ (by simp) rfl;exact zby _ rfl rfl (by revert E2;generalize a.eval=ρ;intro E2;simp only[execOp];go_simp) C I A rfl
 ·intro a w' C A F;have F5:a.eval (.tmp 11)=.pointer (some ⟨B,31,none⟩):=F ⟨2,.data⟩ (by simp) rfl;have c0:w'.cell? ⟨B,31,none⟩=some (.int .i64 j.now.seq):=zac A.1 O G4.o;have c1:w'.cell? ⟨B,32,none⟩=some (.slice na j.now.info.length nc):=zac A.1 O G3.o;have c2:w'.cell? ⟨B,33,none⟩=some (.slice nb j.now.data.length nd):=zac A.1 O G5.o;have c3:w'.cell? ⟨B,34,none⟩=some (.slice ne j.now.rev.length nf):=zac A.1 O H4.o;have c4:w'.cell? ⟨B,35,none⟩=some (.bool j.now.h0.on):=zac A.1 O H2.o;have c5:w'.cell? ⟨B,36,none⟩=some (.int .i64 j.now.h0.left):=zac A.1 O G6.o;have c6:w'.cell? ⟨B,37,none⟩=some (.bool j.now.h1.on):=zac A.1 O H7.o;have c7:w'.cell? ⟨B,38,none⟩=some (.int .i64 j.now.h1.left):=zac A.1 O H1.o;have c8:w'.cell? ⟨B,39,none⟩=some (.bool j.now.h2.on):=zac A.1 O H3.o;have c9:w'.cell? ⟨B,40,none⟩=some (.int .i64 j.now.h2.left):=zac A.1 O I0.o;exact zby _ rfl rfl (by revert F5;generalize a.eval=ρ;intro F5;simp only[execOp];go_simp) C I A rfl
 ·intro a w' C A F;have z3:=(C.other 3 rfl).trans v3;exact zby _ rfl rfl (by revert z3;generalize a.eval=ρ;intro z3;simp only[execOp];go_simp) C I A rfl
 ·intro a w' C A F;have F2:a.eval (.tmp 13)=.pointer (some ⟨w.heap.size,1,none⟩):=F ⟨4,.data⟩ (by simp) rfl;have c0:w'.cell? ⟨w.heap.size,1,none⟩=some (.int .i64 ac.h):=zac A.1 C6 A1.o;exact zby _ rfl rfl (by revert F2;generalize a.eval=ρ;intro F2;simp only[execOp];go_simp) C I A rfl
 ·intro a w' C A F;have z3:=(C.other 3 rfl).trans v3;exact zby _ rfl rfl (by revert z3;generalize a.eval=ρ;intro z3;simp only[execOp];go_simp) C I A rfl
 ·intro a w' C A F;have F6:a.eval (.tmp 15)=.pointer (some ⟨w.heap.size,2,none⟩):=F ⟨6,.data⟩ (by simp) rfl;have c0:w'.cell? ⟨w.heap.size,2,none⟩=some (.int .i64 ac.b):=zac A.1 C6 A2.o;exact zby _ rfl rfl (by revert F6;generalize a.eval=ρ;intro F6;simp only[execOp];go_simp) C I A rfl
 ·intro a w' C A F;have F0:a.eval (.tmp 12)=.agg #[.int .i64 j.now.seq,.slice na j.now.info.length nc,.slice nb j.now.data.length nd,.slice ne j.now.rev.length nf,.bool j.now.h0.on,.int .i64 j.now.h0.left,.bool j.now.h1.on,.int .i64 j.now.h1.left,.bool j.now.h2.on,.int .i64 j.now.h2.left]:=F ⟨3,.data⟩ (by simp) rfl;have F4:a.eval (.tmp 14)=.int .i64 ac.h:=F ⟨5,.data⟩ (by simp) rfl;have D6:a.eval (.tmp 16)=.int .i64 ac.b:=F ⟨7,.data⟩ (by simp) rfl;refine zbp 123 #[.agg #[.int .i64 j.now.seq,.slice na j.now.info.length nc,.slice nb j.now.data.length nd,.slice ne j.now.rev.length nf,.bool j.now.h0.on,.int .i64 j.now.h0.left,.bool j.now.h1.on,.int .i64 j.now.h1.left,.bool j.now.h2.on,.int .i64 j.now.h2.left],.int .i64 ac.h,.int .i64 ac.b] rfl rfl (by have pf:=Act.eval_func a 123;revert F0 F4 D6 pf;generalize a.eval=ρ;intro F0 F4 D6 pf;simp only[execOp];go_simp) _ (zrj _ j.now ac.h ac.b _ ((E8.o.ext (Ext.seenL D _)).below A.1) r1 r2) ?_;rintro e w2 ⟨N,rfl,C1,K,H5⟩;refine⟨_,rfl,_,rfl,?_,?_,?_⟩
  ·show zmb D ((a.put (some 17) _).eval (.tmp 5)) w2;rw[Act.eval_put_ne _ _ _ _ (by decide)];exact zfw A K
  ·show zhb _ _ _ _ _ _ _ _ _ _ _ _ ((a.put (some 17) _).eval (.tmp 17)) ((a.put (some 17) _).eval (.tmp 5)) w2;rw[zav C I (by decide),Act.eval_put_ne _ _ _ _ (by decide)];exact⟨N,rfl,okTx.made G2.o E8.o G9.o A C1 K H5⟩
  ·intro r x hk h;show zhb _ _ _ _ _ _ _ _ _ _ _ r x ((a.put (some 17) _).eval (.tmp 5)) w2;rw[Act.eval_put_ne _ _ _ _ (by decide)];exact zt7 K r x h
 ·intro a w' C A F;obtain⟨N,pc,ok⟩:∃N,a.eval (.tmp 17)=.tuple #[N,.int .i64 (revokeE j.now ac.h ac.b)]∧okTx ((w.heap.size+1)::X) (zag j.now ac.h ac.b) N (a.eval (.tmp 5)) w':=F ⟨8,.data⟩ (by simp) rfl;refine zbb (.tuple #[N,.int .i64 (revokeE j.now ac.h ac.b)]) rfl rfl (by revert pc;generalize a.eval=ρ;intro pc;simp only[execOp];go_simp) ⟨_,rfl,?_,?_,?_⟩
  ·show zmb D ((a.put (some 8) _).eval (.tmp 5)) w';rw[Act.eval_put_ne _ _ _ _ (by decide)];exact A
  ·show zhb _ _ _ _ _ _ _ _ _ _ _ _ ((a.put (some 8) _).eval (.tmp 8)) ((a.put (some 8) _).eval (.tmp 5)) w';rw[zav C I (by decide),Act.eval_put_ne _ _ _ _ (by decide)];exact⟨N,rfl,ok⟩
  ·intro r x hk h;show zhb _ _ _ _ _ _ _ _ _ _ _ r x ((a.put (some 8) _).eval (.tmp 5)) w';rw[Act.eval_put_ne _ _ _ _ (by decide)];exact h
 ·intro a w' C A F;obtain⟨N,pm,ok⟩:∃N,a.eval (.tmp 8)=.tuple #[N,.int .i64 (revokeE j.now ac.h ac.b)]∧okTx ((w.heap.size+1)::X) (zag j.now ac.h ac.b) N (a.eval (.tmp 5)) w':=F ⟨9,.data⟩ (by simp) rfl;refine zbb (N) rfl rfl (by revert pm;generalize a.eval=ρ;intro pm;simp only[execOp];go_simp) ⟨_,rfl,?_,?_,?_⟩
  ·show zmb D ((a.put (some 18) _).eval (.tmp 5)) w';rw[Act.eval_put_ne _ _ _ _ (by decide)];exact A
  ·show zhb _ _ _ _ _ _ _ _ _ _ _ _ ((a.put (some 18) _).eval (.tmp 18)) ((a.put (some 18) _).eval (.tmp 5)) w';rw[zav C I (by decide),Act.eval_put_ne _ _ _ _ (by decide)];exact ok
  ·intro r x hk h;show zhb _ _ _ _ _ _ _ _ _ _ _ r x ((a.put (some 18) _).eval (.tmp 5)) w';rw[Act.eval_put_ne _ _ _ _ (by decide)];exact h
 ·intro a w' C A F;obtain⟨N,pm,ok⟩:∃N,a.eval (.tmp 8)=.tuple #[N,.int .i64 (revokeE j.now ac.h ac.b)]∧okTx ((w.heap.size+1)::X) (zag j.now ac.h ac.b) N (a.eval (.tmp 5)) w':=F ⟨9,.data⟩ (by simp) rfl;exact zby _ rfl rfl (by revert pm;generalize a.eval=ρ;intro pm;simp only[execOp];go_simp) C I A rfl
 ·intro a w' C A F;refine zfj (.pointer (some ⟨w'.heap.size,0,none⟩)) rfl rfl (w':=w'.alloc (.cells #[.int .i64 0,.slice none 0 0,.slice none 0 0,.slice none 0 0,.bool false,.int .i64 0,.bool false,.int .i64 0,.bool false,.int .i64 0] 40)) (by simp only[execOp];go_simp) ⟨_,rfl,?_,?_,?_⟩
  ·show zmb D ((a.put (some 5) _).eval (.tmp 5)) _;rw[zav C I (by decide)];exact⟨A.1.alloc A.1.size _,.inr ⟨_,rfl,A.1.size,by simp,_,_,_,_,_,_,_,_,_,_,heap_alloc_new _ _⟩⟩
  ·show zhb _ _ _ _ _ _ _ _ _ _ _ _ ((a.put (some 5) _).eval (.tmp 5)) ((a.put (some 5) _).eval (.tmp 5)) _;rw[zav C I (by decide)];exact⟨_,rfl⟩
  ·intro r x hk h;show zhb _ _ _ _ _ _ _ _ _ _ _ r x ((a.put (some 5) _).eval (.tmp 5)) _;rw[zav C I (by decide)];exact zt8 _ r x h
 ·intro a w' C A F;obtain⟨T,M⟩:∃T,a.eval (.tmp 5)=.pointer (some ⟨T,0,none⟩):=F ⟨12,.data⟩ (by simp) rfl;have ok:okTx ((w.heap.size+1)::X) (zag j.now ac.h ac.b) (a.eval (.tmp 18)) (a.eval (.tmp 5)) w':=F ⟨10,.data⟩ (by simp) rfl
  obtain⟨A9,C1,c0,c1,c2,c3,c4,c5,c6,c7,c8,c9,i⟩:D.heap.size≤T∧T<w'.heap.size∧∃c0 c1 c2 c3 c4 c5 c6 c7 c8 c9,w'.heap[T]?=some (.cells #[c0,c1,c2,c3,c4,c5,c6,c7,c8,c9] 40 (0,0)):=by
   rcases A.2 with h0|⟨T',e,h3,h4,h5⟩
   ·rw[h0] at M;cases M
   ·rw[e] at M;cases M;exact⟨h3,h4,h5⟩
  have p:=ok.2.2 T M;have u:=ok.2.1;obtain⟨Z,S,c,Q,R,U,hv,_⟩:=id p;rw[hv] at p u;obtain⟨⟨t0,t1,t2,t3,t4,t5,t6,t7,t8,t9⟩,tf⟩:=zaj i;refine zcf rfl rfl (w':=((((((((((w'.setCell ⟨T,0,none⟩ (.int .i64 (zag j.now ac.h ac.b).seq)).setCell ⟨T,1,none⟩ (.slice Z (zag j.now ac.h ac.b).info.length S)).setCell ⟨T,2,none⟩ (.slice c (zag j.now ac.h ac.b).data.length Q)).setCell ⟨T,3,none⟩ (.slice R (zag j.now ac.h ac.b).rev.length U)).setCell ⟨T,4,none⟩ (.bool (zag j.now ac.h ac.b).h0.on)).setCell ⟨T,5,none⟩ (.int .i64 (zag j.now ac.h ac.b).h0.left)).setCell ⟨T,6,none⟩ (.bool (zag j.now ac.h ac.b).h1.on)).setCell ⟨T,7,none⟩ (.int .i64 (zag j.now ac.h ac.b).h1.left)).setCell ⟨T,8,none⟩ (.bool (zag j.now ac.h ac.b).h2.on)).setCell ⟨T,9,none⟩ (.int .i64 (zag j.now ac.h ac.b).h2.left))) (by revert M hv;generalize a.eval=ρ;intro M hv;simp only[execOp];go_simp) ⟨_,rfl,?_,?_,?_⟩
  ·show zmb D (a.eval (.tmp 5)) _;exact⟨Below.set10 A.1 A9 _ _ _ _ _ _ _ _ _ _,.inr ⟨T,M,A9,by simpa[World.setCell] using C1,_,_,_,_,_,_,_,_,_,_,zhw i _ _ _ _ _ _ _ _ _ _⟩⟩
  ·show zhb _ _ _ _ _ _ _ _ _ _ _ _ (a.eval (.tmp 5)) (a.eval (.tmp 5)) _;exact⟨T,Z,S,c,Q,R,U,M,zhw i _ _ _ _ _ _ _ _ _ _,p.ext (zpc (by simp) w' _ _ _ _ _ _ _ _ _ _),u⟩
  ·intro r x hk h;show zhb _ _ _ _ _ _ _ _ _ _ _ r x (a.eval (.tmp 5)) _;rw[M] at h⊢;exact zt9 (fun t x h=>h.store _ _ _ _ _ _ _ _ _ _) r x hk h
 ·intro a W C A F;obtain⟨T,Z,S,c,Q,R,U,M,i,p,u⟩:∃T Z S c Q R U,a.eval (.tmp 5)=.pointer (some ⟨T,0,none⟩)∧W.heap[T]?=some (.cells #[.int .i64 (zag j.now ac.h ac.b).seq,.slice Z (zag j.now ac.h ac.b).info.length S,.slice c (zag j.now ac.h ac.b).data.length Q,.slice R (zag j.now ac.h ac.b).rev.length U,.bool (zag j.now ac.h ac.b).h0.on,.int .i64 (zag j.now ac.h ac.b).h0.left,.bool (zag j.now ac.h ac.b).h1.on,.int .i64 (zag j.now ac.h ac.b).h1.left,.bool (zag j.now ac.h ac.b).h2.on,.int .i64 (zag j.now ac.h ac.b).h2.left] 40 (0,0))∧IsTx (zar W (T::(w.heap.size+1)::X)) (.agg #[.int .i64 (zag j.now ac.h ac.b).seq,.slice Z (zag j.now ac.h ac.b).info.length S,.slice c (zag j.now ac.h ac.b).data.length Q,.slice R (zag j.now ac.h ac.b).rev.length U,.bool (zag j.now ac.h ac.b).h0.on,.int .i64 (zag j.now ac.h ac.b).h0.left,.bool (zag j.now ac.h ac.b).h1.on,.int .i64 (zag j.now ac.h ac.b).h1.left,.bool (zag j.now ac.h ac.b).h2.on,.int .i64 (zag j.now ac.h ac.b).h2.left]) (zag j.now ac.h ac.b)∧RoomTx (.agg #[.int .i64 (zag j.now ac.h ac.b).seq,.slice Z (zag j.now ac.h ac.b).info.length S,.slice c (zag j.now ac.h ac.b).data.length Q,.slice R (zag j.now ac.h ac.b).rev.length U,.bool (zag j.now ac.h ac.b).h0.on,.int .i64 (zag j.now ac.h ac.b).h0.left,.bool (zag j.now ac.h ac.b).h1.on,.int .i64 (zag j.now ac.h ac.b).h1.left,.bool (zag j.now ac.h ac.b).h2.on,.int .i64 (zag j.now ac.h ac.b).h2.left]):=F 13 (by decide);have pE:a.eval (.tmp 19)=.int .i64 (revokeE j.now ac.h ac.b):=F 11 (by decide)
  have A9:D.heap.size≤T:=by
   rcases A.2 with h0|⟨T',e,h3,h4,h5⟩
   ·rw[h0] at M;cases M
   ·rw[e] at M;cases M;exact h3
  show wpOps prog _ _ [14] a W;rw[wpOps_cons];refine zbb (.int .i64 (revokeE j.now ac.h ac.b)) rfl rfl (by revert pE;generalize a.eval=ρ;intro pE;simp only[execOp];go_simp) ?_;have E4:a.tmps.size=44:=C.size.trans I;obtain⟨a2,q⟩:∃a2,a2=a.put (some 6) (.int .i64 (revokeE j.now ac.h ac.b)):=⟨_,rfl⟩;have f6:a2.eval (.tmp 6)=.int .i64 (revokeE j.now ac.h ac.b):=by rw[q];exact Act.eval_put_same _ _ _ (by rw[E4];decide)
  have f0:a2.eval (.tmp 0)=.pointer (some ⟨B,0,none⟩):=by rw[q,Act.eval_put_ne _ _ _ _ (by decide)];exact(C.other 0 rfl).trans v0
  have f3:a2.eval (.tmp 3)=.pointer (some ⟨w.heap.size,0,none⟩):=by rw[q,Act.eval_put_ne _ _ _ _ (by decide)];exact(C.other 3 rfl).trans v3
  have f4:a2.eval (.tmp 4)=.pointer (some ⟨w.heap.size+1,0,none⟩):=by rw[q,Act.eval_put_ne _ _ _ _ (by decide)];exact(C.other 4 rfl).trans v4
  have f5:a2.eval (.tmp 5)=.pointer (some ⟨T,0,none⟩):=by rw[q,Act.eval_put_ne _ _ _ _ (by decide)];exact M
  have B2:a2=⟨#[_,_,_,_,_,_,_,_,_,_,_,_,_,_,_,_,_,_,_,_,_,_,_,_,_,_,_,_,_,_,_,_,_,_,_,_,_,_,_,_,_,_,_,_],[]⟩:=zcd a2 44 (by rw[q,Act.size_put];exact E4) (by rw[q,Act.defers_put'];exact C.defers.trans I1);dsimp only at B2;rw[f0,f3,f4,f5,f6] at B2;show KK (a.put (some 6) (.int .i64 (revokeE j.now ac.h ac.b))) _;rw[←q];exact(congrArg (fun x=>KK x _) B2).mpr (D5.o (fun k=>a2.eval (.tmp k)) _ T Z S c Q R U p u i A9 A.1)
open Go.RowKit
def zva (j:Jn)(d2:Dk)(B:Nat)(e1:Option Addr)(e2:Nat)(e3:Option Addr)(e4:Nat):Nat→Value→World→Prop
 |0,v,_=>v=.pointer (some ⟨B,0,none⟩)
 |1,v,_=>v=.pointer (some ⟨B,0,none⟩)
 |2,v,_=>v=.pointer (some ⟨B,0,none⟩)
 |3,v,_=>v=.pointer (some ⟨B,0,none⟩)
 |4,v,_=>v=.int .i64 j.acts
 |5,v,_=>v=.agg #[.slice e1 d2.safe.length e2,.slice e3 d2.wr.length e4]
 |6,v,_=>v=.pointer (some ⟨B,0,none⟩)
 |7,v,_=>v=.pointer (some ⟨B,0,none⟩)
 |8,v,_=>v=.pointer (some ⟨B,5,none⟩)
 |9,v,_=>v=.int .i64 j.last
 |10,v,_=>v=.agg #[.int .i64 j.acts,.slice e1 d2.safe.length e2,.slice e3 d2.wr.length e4,.int .i64 0,.int .i64 0,.int .i64 j.last,.bool true,.int .i64 0,.int .i64 0,.int .i64 0,.int .i64 0,.int .i64 0,.int .i64 0,.int .i64 0,.int .i64 0,.int .i64 0,.int .i64 0,.int .i64 0,.int .i64 0,.int .i64 0,.int .i64 0,.int .i64 0,.int .i64 0,.int .i64 0,.int .i64 0,.int .i64 0,.int .i64 0,.int .i64 0,.int .i64 0,.int .i64 0,.int .i64 0,.int .i64 0,.slice none 0 0,.slice none 0 0,.slice none 0 0,.bool false,.int .i64 0,.bool false,.int .i64 0,.bool false,.int .i64 0,.int .i64 0,.slice none 0 0,.slice none 0 0,.slice none 0 0,.bool false,.int .i64 0,.bool false,.int .i64 0,.bool false,.int .i64 0,.slice none 0 0,.slice none 0 0,.int .i64 0,.int .i64 0,.int .i64 0,.slice none 0 0]
 |11,v,_=>v=.pointer (some ⟨B,0,none⟩)
 |_,_,_=>True
theorem zik (j:Jn)(d2:Dk)(e1:Option Addr)(e2:Nat)(e3:Option Addr)(e4:Nat):#[.int .i64 j.acts,.slice e1 d2.safe.length e2,.slice e3 d2.wr.length e4,.int .i64 0,.int .i64 0,.int .i64 j.last,.bool true,.int .i64 0,.int .i64 0,.int .i64 0,.int .i64 0,.int .i64 0,.int .i64 0,.int .i64 0,.int .i64 0,.int .i64 0,.int .i64 0,.int .i64 0,.int .i64 0,.int .i64 0,.int .i64 0,.int .i64 0,.int .i64 0,.int .i64 0,.int .i64 0,.int .i64 0,.int .i64 0,.int .i64 0,.int .i64 0,.int .i64 0,.int .i64 0,.int .i64 0,.slice none 0 0,.slice none 0 0,.slice none 0 0,.bool false,.int .i64 0,.bool false,.int .i64 0,.bool false,.int .i64 0,.int .i64 0,.slice none 0 0,.slice none 0 0,.slice none 0 0,.bool false,.int .i64 0,.bool false,.int .i64 0,.bool false,.int .i64 0,.slice none 0 0,.slice none 0 0,.int .i64 0,.int .i64 0,.int .i64 0,.slice none 0 0]=zbs (⟨j.acts,d2,0,0,j.last,true,fun _=>0,fun _=>0,zcu 0,zcu 0,[],[],0,0,0,[]⟩:Jn) e1 e2 e3 e4 none 0 none 0 none 0 none 0 none 0 none 0 none 0 none 0 none 0:=by kernel_rfl
theorem zxz (B:Nat)(X:List Nat)(j:Jn)(w:World)(h:JAt w B X j)(hX:∀x∈X,x<w.heap.size)(q:Int)(hq:q≤9223372036854775807):
  Calls prog 45 #[.pointer (some ⟨B,0,none⟩),.int .i64 q] w (zdf w B X (zi6 j q)):=by
 have HJ:=zab h;have C4:=h.lt;have A4:=h.1;have HX:=zab hX;have B1:Hid (JAt (w.alloc (.cells #[.int .i64 0,.int .i64 0,.string ⟨#[]⟩] 31)) B (w.heap.size::X) j):=h.more (zaa _ _) (Nat.le_refl _);obtain⟨_,da,dc,db,dd,na,nc,nb,nd,ne,nf,sa,sc,sb,sd,se,sf,ca,cc,fa,fc,ta,tc,b,hr⟩:=h;have c1:w.cell? ⟨B,1,none⟩=some (.slice da j.disk.safe.length dc):=zak b 1;have c2:w.cell? ⟨B,2,none⟩=some (.slice db j.disk.wr.length dd):=zak b 2;have B0:=zab (hr.1.ext (Ext.seenL w X));have B6:=zab hr.1;clear b hr hX;go_enter func45,ntmps45;go_wp2_with fail;refine(zwj _ j.disk q _ (B0.o.below (zaa _ _)) hq).mono ?_;rintro e Q ⟨v1,rfl,Z,_,d,B3⟩;have A1:=zab (z30 d);have R:=zab (B1.o.below d);have s:=zab (zae (zaa w (.cells #[.int .i64 0,.int .i64 0,.string ⟨#[]⟩] 31)) d)
 have A7:Hid (IsDk (zar Q (w.heap.size::X)) v1 (crashK j.disk q)):=by
  rcases B3 with e|m
  ·have hd:=B6.o.ext (Ext.newL s.o (Nat.le_refl _));rw[e];rw[e] at Z;exact hd.asDisk Z
  ·exact Z.hideF m (fun x hx=>by
    rcases List.mem_cons.1 hx with rfl|hx
    ·simp
    ·have:=HX.o x hx;simp;omega)
 have y:w.heap.size<Q.heap.size:=by have:=d.size;simp at this;omega
 clear c1 c2 B0 B6 B1 d B3;obtain⟨D,u⟩:∃D,D=crashK j.disk q:=⟨_,rfl⟩;rw[←u] at A7 Z;by_cases he:crashE j.disk q=0
 ·have HE:Hid (zi6 j q=((⟨j.acts,D,0,0,j.last,true,fun _=>0,fun _=>0,zcu 0,zcu 0,[],[],0,0,0,[]⟩:Jn),zas 0)):=by rw[Hid,zi6,if_pos he,u]
  rw[he];clear he u;obtain⟨L,K,N,M,rfl,_,_,_,_⟩:=Z;go_wp2;rename_i KK A6;obtain⟨C,O⟩:∃C,C=Q.alloc (.cells #[.slice L D.safe.length K,.slice N D.wr.length M] 46):=⟨_,rfl⟩;have A:Below Q.heap.size Q C:=by rw[O];exact zaa _ _
  have i:=zab (R.o.below A);have B7:=zab (A7.o.ext (Ext.freshL A));have S:=zab (zad A y A1.o);have U:=zab (zae s.o A);have B9:w.heap.size<C.heap.size:=Nat.lt_of_lt_of_le y A.size;have KD:C.heap[Q.heap.size]?=some (.cells #[.slice L D.safe.length K,.slice N D.wr.length M] 46 (0,0)):=by rw[O];exact heap_alloc_new _ _
  obtain⟨⟨y0,y1⟩,_⟩:=zgk KD;have Y0:=zab y0;have Y1:=zab y1;rw[←O];clear O A y0 y1 KD R A7 A1 s;obtain⟨_,da,dc,db,dd,na,nc,nb,nd,ne,nf,sa,sc,sb,sd,se,sf,ca,cc,fa,fc,ta,tc,b,_⟩:=id i.o;have c0:C.cell? ⟨B,0,none⟩=some (.int .i64 j.acts):=zak b 0;have c5:C.cell? ⟨B,5,none⟩=some (.int .i64 j.last):=zak b 5;have C0:=zab c0;have C5:=zab c5;clear c0 c5
  have A2:∀(g:Nat→Value) (n:World),n=({C with drawn:=C.drawn+1}:World).setRow B #[.int .i64 j.acts,.slice L D.safe.length K,.slice N D.wr.length M,.int .i64 0,.int .i64 0,.int .i64 j.last,.bool true,.int .i64 0,.int .i64 0,.int .i64 0,.int .i64 0,.int .i64 0,.int .i64 0,.int .i64 0,.int .i64 0,.int .i64 0,.int .i64 0,.int .i64 0,.int .i64 0,.int .i64 0,.int .i64 0,.int .i64 0,.int .i64 0,.int .i64 0,.int .i64 0,.int .i64 0,.int .i64 0,.int .i64 0,.int .i64 0,.int .i64 0,.int .i64 0,.int .i64 0,.slice none 0 0,.slice none 0 0,.slice none 0 0,.bool false,.int .i64 0,.bool false,.int .i64 0,.bool false,.int .i64 0,.int .i64 0,.slice none 0 0,.slice none 0 0,.slice none 0 0,.bool false,.int .i64 0,.bool false,.int .i64 0,.bool false,.int .i64 0,.slice none 0 0,.slice none 0 0,.int .i64 0,.int .i64 0,.int .i64 0,.slice none 0 0]→KK ⟨#[.pointer (some ⟨B,0,none⟩),g 1,g 2,g 3,.pointer (some ⟨w.heap.size,0,none⟩),g 5,g 6,g 7,g 8,g 9,g 10,g 11,g 12,g 13,g 14,g 15,g 16,g 17,g 18,g 19,g 20,g 21,g 22,g 23,g 24,g 25,g 26,g 27,g 28,g 29,g 30,g 31,g 32],[]⟩ n:=by
   intro g n l;apply A6;clear A6;have A3:Below C.heap.size C {C with drawn:=C.drawn+1}:=(Below.refl _ _).drew
   have B4:Hid (JAt n B (w.heap.size::X) (⟨j.acts,D,0,0,j.last,true,fun _=>0,fun _=>0,zcu 0,zcu 0,[],[],0,0,0,[]⟩:Jn)):=by
    rw[l,zik];exact JAt.putAll (w:={C with drawn:=C.drawn+1}) (by simp[A4]) b _ _ _ _ _ _ _ _ _ _ _ _ _ _ _ _ _ _ _ _ _ _ ⟨B7.o.ext (Ext.freshL A3),zq8 _ _,zq8 _ _,.inl rfl,.inl rfl,.inl rfl,z3b _,Nat.le_refl _,Nat.le_refl _,Nat.le_refl _⟩
   have B2:Hid (ButL [B] w.heap.size w n):=by
    rw[l];exact(ButL.of_below (U.o.trans (A3.mono U.o.size))).setRow (.inl (by simp)) _
   have B5:Hid (n.heap[w.heap.size]?=some (.cells #[.int .i64 0,.int .i64 0,.string ⟨#[]⟩] 31 (0,0))):=by
    rw[l,setRow_other _ _ _ _ (by omega)];exact S.o
   have B8:w.heap.size<n.heap.size:=by rw[l];simpa[World.setRow] using B9
   have R:=B4;have c:=B2;have KR:=B5;have A5:=B8;have A8:w.heap.size≠B:=by omega
   clear l A3 B4 B2 B5 b;go_wp2_with fail;refine(zat 0 _).mono ?_;rintro e w2 ⟨rfl,A⟩;have S:=zab (zad A A5 KR.o);have i:=zab (R.o.below A);have U:=zab (c.o.trans (Y:=[]) (ButL.of_below A) c.o.size (by simp));clear A;obtain⟨⟨y0,y1,y2⟩,yf⟩:=zbl S.o;go_wp2;exact zbf HE.o S.o i.o U.o A8 A4 fun W u0 u1 u2=>by simp[results,results45,go_sem,u0,u1,u2]
  have A9:=zab A2;clear A2 A6;refine(show∀A0:Act,A0=_→Code.wp prog _ _ A0 _ from fun A0 hA0=>?_) _ rfl;have F:A0.tmps.size=33:=by rw[hA0];rfl
  have C2:A0.defers=[]:=by rw[hA0]
  have v0:A0.eval (.tmp 0)=.pointer (some ⟨B,0,none⟩):=by rw[hA0];rfl
  have v4:A0.eval (.tmp 4)=.pointer (some ⟨w.heap.size,0,none⟩):=by rw[hA0];rfl
  have v5:A0.eval (.tmp 5)=.pointer (some ⟨Q.heap.size,0,none⟩):=by rw[hA0];rfl
  clear hA0;refine zba 12 (fun J=>J={C with drawn:=C.drawn+1}) [20,21,22,23,24,25,26,27,28,29,30,31] (zva j D B L K N M) (by kernel_rfl) (by kernel_rfl) (by kernel_rfl) (by kernel_rfl) (by decide) (rfl) ⟨?_,?_,?_,?_,?_,?_,?_,?_,?_,?_,?_,?_,trivial⟩ ?_
  ·exact zbc v0 F (fun _=>rfl) fun ρ J I z=>by simp only[execOp];go_simp
  ·exact zbc v0 F (fun _=>rfl) fun ρ J I z=>by simp only[execOp];go_simp
  ·exact zal 1 21 F (fun _ _ h=>h) (fun _=>rfl) fun ρ J I p=>by simp only[execOp];go_simp
  ·exact zal 2 22 F (fun _ _ h=>h) (fun _=>rfl) fun ρ J I p=>by simp only[execOp];go_simp
  ·exact zal 3 23 F (fun _ _ h=>h) (fun _=>rfl) fun ρ J I p=>by have c0:C.cell? ⟨B,0,none⟩=some (.int .i64 j.acts):=C0.o;simp only[execOp];go_simp
  ·exact zbc v5 F (fun _=>rfl) fun ρ J I z=>by have c0:C.cell? ⟨Q.heap.size,0,none⟩=some (.slice L D.safe.length K):=Y0.o;have c1:C.cell? ⟨Q.heap.size,1,none⟩=some (.slice N D.wr.length M):=Y1.o;simp only[execOp];go_simp
  ·exact zbc v0 F (fun _=>rfl) fun ρ J I z=>by simp only[execOp];go_simp
  ·exact zal 6 26 F (fun _ _ h=>h) (fun _=>rfl) fun ρ J I p=>by simp only[execOp];go_simp
  ·exact zal 7 27 F (fun _ _ h=>h) (fun _=>rfl) fun ρ J I p=>by simp only[execOp];go_simp
  ·exact zal 8 28 F (fun _ _ h=>h) (fun _=>rfl) fun ρ J I p=>by have c0:C.cell? ⟨B,5,none⟩=some (.int .i64 j.last):=C5.o;simp only[execOp];go_simp
  ·intro a J m I hp;have C1:a.eval (.tmp 24)=.int .i64 j.acts:=hp ⟨4,.data⟩ (by simp) rfl;have p25:a.eval (.tmp 25)=.agg #[.slice L D.safe.length K,.slice N D.wr.length M]:=hp ⟨5,.data⟩ (by simp) rfl;have p29:a.eval (.tmp 29)=.int .i64 j.last:=hp ⟨9,.data⟩ (by simp) rfl;refine z3a 93 _ [(0,.int .i64 j.acts),(1,.agg #[.slice L D.safe.length K,.slice N D.wr.length M]),(3,.int .i64 j.last),(4,.bool true)] #[.int .i64 j.acts,.slice L D.safe.length K,.slice N D.wr.length M,.int .i64 0,.int .i64 0,.int .i64 j.last,.bool true,.int .i64 0,.int .i64 0,.int .i64 0,.int .i64 0,.int .i64 0,.int .i64 0,.int .i64 0,.int .i64 0,.int .i64 0,.int .i64 0,.int .i64 0,.int .i64 0,.int .i64 0,.int .i64 0,.int .i64 0,.int .i64 0,.int .i64 0,.int .i64 0,.int .i64 0,.int .i64 0,.int .i64 0,.int .i64 0,.int .i64 0,.int .i64 0,.int .i64 0,.slice none 0 0,.slice none 0 0,.slice none 0 0,.bool false,.int .i64 0,.bool false,.int .i64 0,.bool false,.int .i64 0,.int .i64 0,.slice none 0 0,.slice none 0 0,.slice none 0 0,.bool false,.int .i64 0,.bool false,.int .i64 0,.bool false,.int .i64 0,.slice none 0 0,.slice none 0 0,.int .i64 0,.int .i64 0,.int .i64 0,.slice none 0 0] rfl rfl rfl ?_ (by kernel_rfl) ⟨_,rfl,I,?_,fun _ _ _ h=>h⟩
   ·simp[C1,p25,p29,Act.eval_const]
   ·show zva _ _ _ _ _ _ _ _ ((a.put (some 30) _).eval (.tmp 30)) J;rw[zav m F (by decide)];exact rfl
  ·exact zal 0 20 F (fun _ _ h=>h) (fun _=>rfl) fun ρ J I p=>by simp only[execOp];go_simp
  ·intro a W m I hp;have p30:a.eval (.tmp 30)=.agg #[.int .i64 j.acts,.slice L D.safe.length K,.slice N D.wr.length M,.int .i64 0,.int .i64 0,.int .i64 j.last,.bool true,.int .i64 0,.int .i64 0,.int .i64 0,.int .i64 0,.int .i64 0,.int .i64 0,.int .i64 0,.int .i64 0,.int .i64 0,.int .i64 0,.int .i64 0,.int .i64 0,.int .i64 0,.int .i64 0,.int .i64 0,.int .i64 0,.int .i64 0,.int .i64 0,.int .i64 0,.int .i64 0,.int .i64 0,.int .i64 0,.int .i64 0,.int .i64 0,.int .i64 0,.slice none 0 0,.slice none 0 0,.slice none 0 0,.bool false,.int .i64 0,.bool false,.int .i64 0,.bool false,.int .i64 0,.int .i64 0,.slice none 0 0,.slice none 0 0,.slice none 0 0,.bool false,.int .i64 0,.bool false,.int .i64 0,.bool false,.int .i64 0,.slice none 0 0,.slice none 0 0,.int .i64 0,.int .i64 0,.int .i64 0,.slice none 0 0]:=hp 10 (by decide);have p31:a.eval (.tmp 31)=.pointer (some ⟨B,0,none⟩):=hp 11 (by decide);show wpOps prog _ _ [12] a W;rw[wpOps_cons];refine zke 93 (.tmp 31) (.tmp 30) B #[.int .i64 j.acts,.slice L D.safe.length K,.slice N D.wr.length M,.int .i64 0,.int .i64 0,.int .i64 j.last,.bool true,.int .i64 0,.int .i64 0,.int .i64 0,.int .i64 0,.int .i64 0,.int .i64 0,.int .i64 0,.int .i64 0,.int .i64 0,.int .i64 0,.int .i64 0,.int .i64 0,.int .i64 0,.int .i64 0,.int .i64 0,.int .i64 0,.int .i64 0,.int .i64 0,.int .i64 0,.int .i64 0,.int .i64 0,.int .i64 0,.int .i64 0,.int .i64 0,.int .i64 0,.slice none 0 0,.slice none 0 0,.slice none 0 0,.bool false,.int .i64 0,.bool false,.int .i64 0,.bool false,.int .i64 0,.int .i64 0,.slice none 0 0,.slice none 0 0,.slice none 0 0,.bool false,.int .i64 0,.bool false,.int .i64 0,.bool false,.int .i64 0,.slice none 0 0,.slice none 0 0,.int .i64 0,.int .i64 0,.int .i64 0,.slice none 0 0] rfl rfl rfl p31 p30 93 (zbs j da dc db dd na nc nb nd ne nf sa sc sb sd se sf ca cc fa fc ta tc) (by rw[I];exact b) (by rw[zik];exact z3c _ _ _ _ _ _ _ _ _ _ _ _ _ _ _ _ _ _ _ _ _ _ _) (by kernel_rfl) (by rw[zik];exact zhv _ _ _ _ _ _ _ _ _ _ _ _ _ _ _ _ _ _ _ _ _ _ _) ?_
   have f0:=(m.other 0 rfl).trans v0;have f4:=(m.other 4 rfl).trans v4;have r:a=⟨#[_,_,_,_,_,_,_,_,_,_,_,_,_,_,_,_,_,_,_,_,_,_,_,_,_,_,_,_,_,_,_,_,_],[]⟩:=zcd a 33 (m.size.trans F) (m.defers.trans C2);dsimp only at r;rw[f0,f4] at r;exact(congrArg (fun x=>KK x (W.setRow B #[.int .i64 j.acts,.slice L D.safe.length K,.slice N D.wr.length M,.int .i64 0,.int .i64 0,.int .i64 j.last,.bool true,.int .i64 0,.int .i64 0,.int .i64 0,.int .i64 0,.int .i64 0,.int .i64 0,.int .i64 0,.int .i64 0,.int .i64 0,.int .i64 0,.int .i64 0,.int .i64 0,.int .i64 0,.int .i64 0,.int .i64 0,.int .i64 0,.int .i64 0,.int .i64 0,.int .i64 0,.int .i64 0,.int .i64 0,.int .i64 0,.int .i64 0,.int .i64 0,.int .i64 0,.slice none 0 0,.slice none 0 0,.slice none 0 0,.bool false,.int .i64 0,.bool false,.int .i64 0,.bool false,.int .i64 0,.int .i64 0,.slice none 0 0,.slice none 0 0,.slice none 0 0,.bool false,.int .i64 0,.bool false,.int .i64 0,.bool false,.int .i64 0,.slice none 0 0,.slice none 0 0,.int .i64 0,.int .i64 0,.int .i64 0,.slice none 0 0])) r).mpr (A9.o (fun k=>a.eval (.tmp k)) _ (by rw[I]))
 ·have HE:Hid (zi6 j q=(j,zas (crashE j.disk q))):=by rw[Hid,zi6,if_neg he]
  have C3:(crashE j.disk q !=0)=true:=by simpa using he
  clear he u;generalize crashE j.disk q=E at *;obtain⟨L,K,N,M,rfl,_,_,_,_⟩:=Z;go_wp2_with fail;obtain⟨C,O⟩:∃C,C=Q.alloc (.cells #[.slice L D.safe.length K,.slice N D.wr.length M] 46):=⟨_,rfl⟩;have A:Below Q.heap.size Q C:=by rw[O];exact zaa _ _
  have KR:=zab (zad A y A1.o);have c:Hid (ButL [B] w.heap.size w C):=ButL.of_below (zae s.o A);have A5:w.heap.size<C.heap.size:=Nat.lt_of_lt_of_le y A.size;have A8:w.heap.size≠B:=by omega
  replace R:=zab (R.o.below A)
  rw[←O];clear O A A1;refine(zat E _).mono ?_;rintro e w2 ⟨rfl,A⟩;have S:=zab (zad A A5 KR.o);have i:=zab (R.o.below A);have U:=zab (c.o.trans (Y:=[]) (ButL.of_below A) c.o.size (by simp));clear A;obtain⟨⟨y0,y1,y2⟩,yf⟩:=zbl S.o;go_wp2;exact zbf HE.o S.o i.o U.o A8 A4 fun W u0 u1 u2=>by simp[results,results45,go_sem,u0,u1,u2]
end Go.Proofs.YtjnpndfpajjihacGreat

