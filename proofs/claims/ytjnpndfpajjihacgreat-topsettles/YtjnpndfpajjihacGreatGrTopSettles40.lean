/-
  
-/
import Derived.Test.YtjnpndfpajjihacGreatGrTopSettles31
import Derived.Test.YtjnpndfpajjihacGreatRInv
import Derived.Test.YtjnpndfpajjihacGreatXNewest
set_option maxRecDepth 100000
set_option maxHeartbeats 40000000
namespace Go.Proofs.YtjnpndfpajjihacGreat
open Go.RowKit
theorem zq6(W:World)(q:Int):IsTx W (.agg #[.int .i64 q,.slice none 0 0,.slice none 0 0,.slice none 0 0,.bool false,.int .i64 0,.bool false,.int .i64 0,.bool false,.int .i64 0]) (zc5 q):=
 ⟨none,0,none,0,none,0,rfl,.inl rfl,.inl rfl,.inl rfl,Nat.zero_le _,Nat.zero_le _,Nat.zero_le _⟩
theorem z24(q:Int):RoomTx (.agg #[.int .i64 q,.slice none 0 0,.slice none 0 0,.slice none 0 0,.bool false,.int .i64 0,.bool false,.int .i64 0,.bool false,.int .i64 0]):=
 ⟨_,_,_,_,_,_,_,_,_,_,_,_,_,_,_,_,rfl,Nat.le_refl _,Nat.le_refl _,Nat.le_refl _⟩
theorem ButL.setRow{X:List Nat}{base:Nat}{w w1:World}(h:ButL X base w w1){b:Nat}(hb:b∈X∨base≤b)(cs:Array Value):ButL X base w (w1.setRow b cs):=
 ⟨h.os,h.tape,h.output,by simpa[World.setRow] using h.size,fun j hj hn=>(setRow_other _ _ _ _ (by intro e;subst e;rcases hb with h1|h1;exact hn h1;omega)).trans (h.block j hj hn)⟩
theorem JAt.putAll{w:World}{B:Nat}{X:List Nat}{j:Jn}{old:Array Value}(hB:B∈X)(hg:w.heap[B]?=some (.cells old 93 (0,0)))(da:Option Addr)(dc:Nat)(db:Option Addr)(dd:Nat)(na:Option Addr)(nc:Nat)(nb:Option Addr)(nd:Nat)(ne:Option Addr)(nf:Nat)(sa:Option Addr)(sc:Nat)(sb:Option Addr)(sd:Nat)(se:Option Addr)(sf:Nat)(ca:Option Addr)(cc:Nat)(fa:Option Addr)(fc:Nat)(ta:Option Addr)(tc:Nat)(hr:RowsJ w X j da dc db dd na nc nb nd ne nf sa sc sb sd se sf ca cc fa fc ta tc):JAt (w.setRow B (zbu j da dc db dd na nc nb nd ne nf sa sc sb sd se sf ca cc fa fc ta tc)) B X j:=
 ⟨hB,da,dc,db,dd,na,nc,nb,nd,ne,nf,sa,sc,sb,sd,se,sf,ca,cc,fa,fc,ta,tc,setRow_heap w B old _ _ _ hg,hr.ext (Ext.butL ((ButL.refl X _ w).setRow (.inl hB) _))⟩
theorem zh1(j:Jn)(da:Option Addr)(dc:Nat)(db:Option Addr)(dd:Nat)(na:Option Addr)(nc:Nat)(nb:Option Addr)(nd:Nat)(ne:Option Addr)(nf:Nat)(sa:Option Addr)(sc:Nat)(sb:Option Addr)(sd:Nat)(se:Option Addr)(sf:Nat)(ca:Option Addr)(cc:Nat)(fa:Option Addr)(fc:Nat)(ta:Option Addr)(tc:Nat):(zbu j da dc db dd na nc nb nd ne nf sa sc sb sd se sf ca cc fa fc ta tc).all (·.oneCell')=true:=by kernel_rfl
theorem z25(j:Jn)(da:Option Addr)(dc:Nat)(db:Option Addr)(dd:Nat)(na:Option Addr)(nc:Nat)(nb:Option Addr)(nd:Nat)(ne:Option Addr)(nf:Nat)(sa:Option Addr)(sc:Nat)(sb:Option Addr)(sd:Nat)(se:Option Addr)(sf:Nat)(ca:Option Addr)(cc:Nat)(fa:Option Addr)(fc:Nat)(ta:Option Addr)(tc:Nat):(Tryz.prog.info? 93).map (·.size)=some (zbu j da dc db dd na nc nb nd ne nf sa sc sb sd se sf ca cc fa fc ta tc).size:=by kernel_rfl
theorem zo9{X:List Nat}{B:Nat}(hB:B∈X)(w:World)(v0 v1 v2 v3 v4 v5 v6 v7 v8 v9:Value):Ext (zas w X) (zas ((((((((((w.setCell ⟨B,0,none⟩ (v0)).setCell ⟨B,1,none⟩ (v1)).setCell ⟨B,2,none⟩ (v2)).setCell ⟨B,3,none⟩ (v3)).setCell ⟨B,4,none⟩ (v4)).setCell ⟨B,5,none⟩ (v5)).setCell ⟨B,6,none⟩ (v6)).setCell ⟨B,7,none⟩ (v7)).setCell ⟨B,8,none⟩ (v8)).setCell ⟨B,9,none⟩ (v9)) X):=
 Ext.butL (((((((((((ButL.refl X _ w).set (.inl hB) 0 v0).set (.inl hB) 1 v1).set (.inl hB) 2 v2).set (.inl hB) 3 v3).set (.inl hB) 4 v4).set (.inl hB) 5 v5).set (.inl hB) 6 v6).set (.inl hB) 7 v7).set (.inl hB) 8 v8).set (.inl hB) 9 v9)
theorem zio{t:Tx}{h b:Int}(e:reachE t h b=0):0≤b∧b≤11:=by
 unfold reachE at e;split at e
 ·cases e
 ·split at e
  ·cases e
  ·rename_i hx;omega
theorem zri{t:Tx}{h b:Int}{s:ByteArray}(e:changeE t h b s=0):0≤b∧b≤11:=by
 unfold changeE at e;split at e
 ·rename_i A;exact absurd e A
 ·rename_i A;exact zio (by simpa using A)
theorem zxj{t:Tx}{h b:Int}{s:ByteArray}(e:fillE t h b s=0):0≤b∧b≤11:=by
 unfold fillE at e;split at e
 ·rename_i A;exact absurd e A
 ·rename_i A;exact zio (by simpa using A)
theorem zrj{t:Tx}{h b:Int}(e:revokeE t h b=0):0≤b∧b≤11:=by
 unfold revokeE at e;split at e
 ·rename_i A;exact absurd e A
 ·rename_i A;exact zio (by simpa using A)
section
variable {w:World} {X:List Nat} {n:Nat}
theorem IsTx.hideF{v:Value}{t:Tx}(h:IsTx w v t)(hF:zo6 n v t)(hX:∀x∈X,x<n):IsTx (zas w X) v t:=by
 obtain⟨a,c,E,B,r,d,rfl,I,J,F,A⟩:=h;obtain⟨b0,b1,b2,b3,b4,b5,e,f1,C,D⟩:=hF;simp only[Value.agg.injEq]at e
 injection e with e
 simp only[List.cons.injEq,Value.slice.injEq,true_and,and_true]at e;obtain⟨⟨rfl,rfl⟩,⟨rfl,rfl⟩,rfl,rfl⟩:=e;exact⟨a,c,E,B,r,d,rfl,I.hideF f1 hX,J.hideF C hX,F.hideF D hX,A⟩
theorem SegW.as{a:Option Addr}{l l2:List (Int×ByteArray)}(h:SegW (zas w X) a l)(h2:SegW w a l2)(e:l.length=l2.length):SegW (zas w X) a l2:=by
 rcases h2 with t|⟨x,off,rfl,hlt,hc⟩
 ·exact .inl t
 ·rcases h with s|⟨y,off',he,hlt',hc'⟩
  ·exact .inl (List.eq_nil_of_length_eq_zero (by rw[←e,s];rfl))
  ·cases he;by_cases h0:l2.length=0
   ·exact .inl (List.eq_nil_of_length_eq_zero h0)
   ·have A:=(zb3 (hc' 0 (by omega)).1).1;exact .inr ⟨x,off,rfl,by rw[zbr];exact hlt,fun i hi=>⟨zcc A (hc i hi).1,zcc A (hc i hi).2⟩⟩
theorem SegI.as{a:Option Addr}{l l2:List Int}(h:SegI (zas w X) a l)(h2:SegI w a l2)(e:l.length=l2.length):SegI (zas w X) a l2:=by
 rcases h2 with t|⟨x,off,rfl,hlt,hc⟩
 ·exact .inl t
 ·rcases h with s|⟨y,off',he,hlt',hc'⟩
  ·exact .inl (List.eq_nil_of_length_eq_zero (by rw[←e,s];rfl))
  ·cases he;by_cases h0:l2.length=0
   ·exact .inl (List.eq_nil_of_length_eq_zero h0)
   ·have A:=(zb3 (hc' 0 (by omega))).1;exact .inr ⟨x,off,rfl,by rw[zbr];exact hlt,fun i hi=>zcc A (hc i hi)⟩
theorem IsTx.asTx{v:Value}{t t2:Tx}(h:IsTx (zas w X) v t)(h2:IsTx w v t2):IsTx (zas w X) v t2:=by
 obtain⟨a,c,N,D,r,d,rfl,B,L,M,_⟩:=h;obtain⟨b0,b1,b2,b3,b4,b5,e,C,A,E,O⟩:=h2;have K:=e;simp only[Value.agg.injEq]at e
 injection e with e
 simp only[List.cons.injEq,Value.slice.injEq,and_true]at e;obtain⟨_,⟨rfl,I,rfl⟩,⟨rfl,F,rfl⟩,⟨rfl,J,rfl⟩,_⟩:=e;exact⟨a,c,N,D,r,d,K,B.as C I,L.as A F,M.as E J,O⟩
end
def zmb (W:World)(u:Value)(w:World):Prop:=Below W.heap.size W w∧(u=undef∨∃T,u=.pointer (some ⟨T,0,none⟩)∧W.heap.size≤T∧T<w.heap.size∧∃c0 c1 c2 c3 c4 c5 c6 c7 c8 c9,w.heap[T]?=some (.cells #[c0,c1,c2,c3,c4,c5,c6,c7,c8,c9] 40 (0,0)))
theorem zf7{W:World}{u:Value}{w w':World}(h:zmb W u w)(hb:Below w.heap.size w w'):zmb W u w':=
 ⟨zae h.1 hb,h.2.imp id fun⟨T,h1,h2,h3,c0,c1,c2,c3,c4,c5,c6,c7,c8,c9,h4⟩=>⟨T,h1,h2,Nat.lt_of_lt_of_le h3 hb.size,c0,c1,c2,c3,c4,c5,c6,c7,c8,c9,zad hb h3 h4⟩⟩
def okTx (X:List Nat)(t:Tx)(v2 u:Value)(w:World):Prop:=IsTx (zas w X) v2 t∧RoomTx v2∧∀T,u=.pointer (some ⟨T,0,none⟩)→IsTx (zas w (T::X)) v2 t
theorem okTx.below{X:List Nat}{t:Tx}{v2 u:Value}{w w':World}(h:okTx X t v2 u w)(hb:Below w.heap.size w w'):okTx X t v2 u w':=
 ⟨h.1.ext (Ext.freshL hb),h.2.1,fun T e=>(h.2.2 T e).ext (Ext.freshL hb)⟩
theorem okTx.alloc{X:List Nat}{t:Tx}{v2 u:Value}{w:World}(h:okTx X t v2 u w)(o:Obj):okTx X t v2 (.pointer (some ⟨w.heap.size,0,none⟩)) (w.alloc o):=
 ⟨h.1.ext (Ext.freshL (zab _ _)),h.2.1,fun T e=>by cases e;exact h.1.ext (Ext.newL (zab _ _) (Nat.le_refl _))⟩
theorem okTx.store{X:List Nat}{t:Tx}{x:Value}{T:Nat}{w:World}(h:okTx X t x (.pointer (some ⟨T,0,none⟩)) w)(v0 v1 v2 v3 v4 v5 v6 v7 v8 v9:Value):okTx X t x (.pointer (some ⟨T,0,none⟩)) ((((((((((w.setCell ⟨T,0,none⟩ (v0)).setCell ⟨T,1,none⟩ (v1)).setCell ⟨T,2,none⟩ (v2)).setCell ⟨T,3,none⟩ (v3)).setCell ⟨T,4,none⟩ (v4)).setCell ⟨T,5,none⟩ (v5)).setCell ⟨T,6,none⟩ (v6)).setCell ⟨T,7,none⟩ (v7)).setCell ⟨T,8,none⟩ (v8)).setCell ⟨T,9,none⟩ (v9)):=by
 have k:=(h.2.2 T rfl).ext (zo9 (X:=T::X) (B:=T) (by simp) w v0 v1 v2 v3 v4 v5 v6 v7 v8 v9);exact⟨k.ext (Ext.lessL T),h.2.1,fun T' e=>by cases e;exact k⟩
theorem okTx.made{X:List Nat}{t t2:Tx}{v v2 u:Value}{W w w2:World}(hX:∀x∈X,x<W.heap.size)(hT:IsTx (zas W X) v t)(hR:RoomTx v)(hB:zmb W u w)(h2:IsTx w2 v2 t2)(hb:Below w.heap.size w w2)(hv:v2=v∨za2 w.heap.size v2 t2):okTx X t2 v2 u w2:=by
 have B:=zae hB.1 hb
 have A:∀T,u=.pointer (some ⟨T,0,none⟩)→W.heap.size≤T∧T<w.heap.size:=by
  intro T e;rcases hB.2 with h0|⟨T',e',h3,h4,_⟩
  ·rw[h0]at e;cases e
  ·rw[e']at e;cases e;exact⟨h3,h4⟩
 rcases hv with rfl|hv
 ·exact⟨(hT.ext (Ext.freshL B)).asTx h2,hR,fun T e=>(hT.ext (Ext.newL B (A T e).1)).asTx h2⟩
 ·have hs:=hB.1.size
  exact⟨h2.hideF hv.1 (fun x hx=>by have:=hX x hx;omega),hv.2,fun T e=>h2.hideF hv.1 (fun x hx=>by
   rcases List.mem_cons.1 hx with rfl|hx
   ·exact(A _ e).2
   ·have:=hX x hx;omega)⟩
theorem JAt.role{w:World}{B:Nat}{X:List Nat}{j:Jn}(h:JAt w B X j)(b:Nat)(hb:b<12):w.cell? ⟨B,7+b*2,none⟩=some (.int .i64 (j.role b))∧w.cell? ⟨B,7+b*2+1,none⟩=some (.int .i64 (j.freed b))∧w.frozen? ⟨B,7+b*2,none⟩=false∧w.frozen? ⟨B,7+b*2+1,none⟩=false:=by
 obtain⟨_,da,dc,db,dd,na,nc,nb,nd,ne,nf,sa,sc,sb,sd,se,sf,ca,cc,fa,fc,ta,tc,A,_⟩:=h;have D:=zak A (7+b*2);have C:=zak A (7+b*2+1);refine⟨D.trans ?_,C.trans ?_,frozen_of_row w _ _ _ _ A,frozen_of_row w _ _ _ _ A⟩
 ·match b,hb with
  |0,_=>rfl
  |1,_=>rfl
  |2,_=>rfl
  |3,_=>rfl
  |4,_=>rfl
  |5,_=>rfl
  |6,_=>rfl
  |7,_=>rfl
  |8,_=>rfl
  |9,_=>rfl
  |10,_=>rfl
  |11,_=>rfl
  |n+12,hb=>omega
 ·match b,hb with
  |0,_=>rfl
  |1,_=>rfl
  |2,_=>rfl
  |3,_=>rfl
  |4,_=>rfl
  |5,_=>rfl
  |6,_=>rfl
  |7,_=>rfl
  |8,_=>rfl
  |9,_=>rfl
  |10,_=>rfl
  |11,_=>rfl
  |n+12,hb=>omega
open Go.Proofs.Tryz
def zia (b:Int):List (Option Addr×Nat×List (Int×ByteArray))→Option ByteArray
 |[]=>none
 |x::r=>match zai b x.2.2 with
  |some s=>some s
  |none=>zia b r
theorem ztt{b:Int}{L:List (Option Addr×Nat×List (Int×ByteArray))}{k:Nat}{x:Option Addr×Nat×List (Int×ByteArray)}(h:L[k]?=some x):zia b (L.drop k)=match zai b x.2.2 with|some s=>some s|none=>zia b (L.drop (k+1)):=by
 have A:=(List.getElem?_eq_some_iff.1 h).1;rw[List.drop_eq_getElem_cons A,(List.getElem?_eq_some_iff.1 h).2,zia]
theorem ztu(j:Jn)(b:Int)(na nb sa sb ya:Option Addr)(nc nd sc sd yc:Nat):textJ j b=match zia b [(na,nc,j.now.info),(nb,nd,j.now.data),(sa,sc,j.sealed.info),(sb,sd,j.sealed.data),(ya,yc,newestL j.done)] with|some s=>(s,0)|none=>(zal j.disk (25+b),readE j.disk (25+b)):=by
 simp only[textJ,zia]
 cases zai b j.now.info with
 |some s=>rfl
 |none=>
  cases zai b j.now.data with
  |some s=>rfl
  |none=>
   cases zai b j.sealed.info with
   |some s=>rfl
   |none=>
    cases zai b j.sealed.data with
    |some s=>rfl
    |none=>cases zai b (newestL j.done)<;>rfl
def zrk (B:Nat)(j:Jn)(na:Option Addr)(nc:Nat)(nb:Option Addr)(nd:Nat)(sa:Option Addr)(sc:Nat)(sb:Option Addr)(sd:Nat)(ca:Option Addr)(cc:Nat):Nat→Value→World→Prop
 |0,v,_=>v=.pointer (some ⟨B,0,none⟩)
 |1,v,_=>v=.pointer (some ⟨B,0,none⟩)
 |2,v,_=>v=.pointer (some ⟨B,31,none⟩)
 |3,v,_=>v=.pointer (some ⟨B,32,none⟩)
 |4,v,_=>v=.slice na j.now.info.length nc
 |5,v,_=>v=.pointer (some ⟨B,0,none⟩)
 |6,v,_=>v=.pointer (some ⟨B,0,none⟩)
 |7,v,_=>v=.pointer (some ⟨B,31,none⟩)
 |8,v,_=>v=.pointer (some ⟨B,33,none⟩)
 |9,v,_=>v=.slice nb j.now.data.length nd
 |10,v,_=>v=.pointer (some ⟨B,0,none⟩)
 |11,v,_=>v=.pointer (some ⟨B,0,none⟩)
 |12,v,_=>v=.pointer (some ⟨B,41,none⟩)
 |13,v,_=>v=.pointer (some ⟨B,42,none⟩)
 |14,v,_=>v=.slice sa j.sealed.info.length sc
 |15,v,_=>v=.pointer (some ⟨B,0,none⟩)
 |16,v,_=>v=.pointer (some ⟨B,0,none⟩)
 |17,v,_=>v=.pointer (some ⟨B,41,none⟩)
 |18,v,_=>v=.pointer (some ⟨B,43,none⟩)
 |19,v,_=>v=.slice sb j.sealed.data.length sd
 |20,v,_=>v=.pointer (some ⟨B,0,none⟩)
 |21,v,_=>v=.pointer (some ⟨B,0,none⟩)
 |22,v,_=>v=.pointer (some ⟨B,51,none⟩)
 |23,v,_=>v=.slice ca j.done.length cc
 |24,v,w=>∃(ya:Option Addr) (yc:Nat),v=.slice ya (newestL j.done).length yc∧SegW w ya (newestL j.done)
 |25,v,w=>∃(Bx:Nat) (ya:Option Addr) (yc:Nat),v=.slice (some ⟨Bx,0,none⟩) 5 5∧w.heap[Bx]?=some (.cells #[.slice na j.now.info.length nc,.slice nb j.now.data.length nd,.slice sa j.sealed.info.length sc,.slice sb j.sealed.data.length sd,.slice ya (newestL j.done).length yc] 34 (0,0))∧SegW w ya (newestL j.done)
 |26,v,_=>v=.int .i64 5
 |27,v,_=>v=.int .i64 0
 |_,_,_=>True
theorem zkm{B:Nat}{j:Jn}{na:Option Addr}{nc:Nat}{nb:Option Addr}{nd:Nat}{sa:Option Addr}{sc:Nat}{sb:Option Addr}{sd:Nat}{ca:Option Addr}{cc:Nat}{w w':World}(hb:Below w.heap.size w w'){i:Nat}:∀kk uu,kk≠i→zrk B j na nc nb nd sa sc sb sd ca cc kk uu w→zrk B j na nc nb nd sa sc sb sd ca cc kk uu w':=by
 intro kk uu _ h
 match kk,h with
 |0,h|1,h|2,h|3,h|4,h|5,h|6,h|7,h|8,h|9,h|10,h|11,h|12,h|13,h|14,h|15,h|16,h|17,h|18,h|19,h|20,h|21,h|22,h|23,h=>exact h
 |24,⟨ya,yc,h1,h2⟩=>exact⟨ya,yc,h1,h2.below hb⟩
 |25,⟨Bx,ya,yc,h1,h2,h3⟩=>exact⟨Bx,ya,yc,h1,zad hb (Array.getElem?_eq_some_iff.1 h2).1 h2,h3.below hb⟩
 |26,h|27,h=>exact h
 |_+28,_=>exact trivial
theorem z0b(B:Nat)(X:List Nat)(j:Jn)(w:World)(b:Int)(h:JAt w B X j)(hn:j.done.length≤maxLen)(hb0:0≤b)(hb1:b≤11):
  Calls prog 127 #[.pointer (some ⟨B,0,none⟩),.int .i64 b] w fun e w'=>e=.returned (.tuple #[.string (textJ j b).1,.int .i64 (textJ j b).2])∧Below w.heap.size w w':=by
 have HJ:=zaa h;have M:=h.lt;have HN:=zaa hn;obtain⟨_,da,dc,db,dd,Y,Q,Z,N,ne,nf,R,U,O,S,se,sf,ca,cc,fa,fc,ta,tc,u,hr⟩:=id h;have c1:w.cell? ⟨B,1,none⟩=some (.slice da j.disk.safe.length dc):=zak u 1;have c2:w.cell? ⟨B,2,none⟩=some (.slice db j.disk.wr.length dd):=zak u 2;have B5:w.cell? ⟨B,32,none⟩=some (.slice Y j.now.info.length Q):=zak u 32;have C2:w.cell? ⟨B,33,none⟩=some (.slice Z j.now.data.length N):=zak u 33;have C0:w.cell? ⟨B,42,none⟩=some (.slice R j.sealed.info.length U):=zak u 42;have B4:w.cell? ⟨B,43,none⟩=some (.slice O j.sealed.data.length S):=zak u 43;have C4:w.cell? ⟨B,51,none⟩=some (.slice ca j.done.length cc):=zak u 51;have D3:=zaa B5;have C7:=zaa C2;have D4:=zaa C0;have C9:=zaa B4;have D1:=zaa C4;have D7:=zaa (hr.2.2.2.1.ext (Ext.seenL w X));have A3:=zaa (hr.2.1.ext (Ext.seenL w X)).rows;have A7:=zaa (hr.2.2.1.ext (Ext.seenL w X)).rows;have D8:=zaa (hr.1.ext (Ext.seenL w X));clear h hn u hr B5 C2 C0 B4 C4;go_enter func127,ntmps127;go_wp2;rename_i KK B0
 have B1:∀(g:Nat→Value) (I:World) (Bx:Nat) (D:Option Addr) (E:Nat),I.heap[Bx]?=some (.cells #[.slice Y j.now.info.length Q,.slice Z j.now.data.length N,.slice R j.sealed.info.length U,.slice O j.sealed.data.length S,.slice D (newestL j.done).length E] 34 (0,0))→SegW I D (newestL j.done)→Below w.heap.size w I→KK ⟨#[.pointer (some ⟨B,0,none⟩),.int .i64 b,g 2,g 3,.string ⟨#[]⟩,.int .i64 0,g 6,g 7,g 8,g 9,g 10,g 11,g 12,g 13,g 14,g 15,g 16,g 17,g 18,g 19,g 20,g 21,g 22,g 23,g 24,g 25,g 26,g 27,g 28,g 29,g 30,g 31,g 32,g 33,g 34,.slice (some ⟨Bx,0,none⟩) 5 5,.int .i64 5,.int .i64 0,g 38,g 39,g 40,g 41,g 42,g 43,g 44,g 45,g 46,g 47,g 48,g 49,g 50,g 51,g 52,g 53,g 54,g 55,g 56,g 57,g 58],[]⟩ I:=by
  intro g I Bx D E J A2 d;apply B0;clear B0;have A1:=zaa (ztu j b Y Z R O D Q N U S E);obtain⟨l,A6⟩:∃l,l=[(Y,Q,j.now.info),(Z,N,j.now.data),(R,U,j.sealed.info),(O,S,j.sealed.data),(D,E,newestL j.done)]:=⟨_,rfl⟩;rw[←A6]at A1
  have A9:Hid (∀k x,l[k]?=some x→I.cell? ⟨Bx,k,none⟩=some (.slice x.1 x.2.2.length x.2.1)∧SegW I x.1 x.2.2∧x.2.2.length≤maxLen):=by
   intro k x F;rw[A6]at F
   match k,F with
   |0,F=>cases F;exact⟨(cell_of_row I _ 0 _ _ _ J).trans rfl,A3.o.1.below d,A3.o.2.2.2.1⟩
   |1,F=>cases F;exact⟨(cell_of_row I _ 1 _ _ _ J).trans rfl,A3.o.2.1.below d,A3.o.2.2.2.2.1⟩
   |2,F=>cases F;exact⟨(cell_of_row I _ 2 _ _ _ J).trans rfl,A7.o.1.below d,A7.o.2.2.2.1⟩
   |3,F=>cases F;exact⟨(cell_of_row I _ 3 _ _ _ J).trans rfl,A7.o.2.1.below d,A7.o.2.2.2.2.1⟩
   |4,F=>cases F;exact⟨(cell_of_row I _ 4 _ _ _ J).trans rfl,A2,by have E1:(newestL j.done).length≤12:=zeu _ _;unfold maxLen;show(newestL j.done).length≤_;omega⟩
   |k+5,F=>simp at F
  have B8:Hid (l.length=5):=by rw[Hid,A6];rfl
  have D9:Bx<I.heap.size:=(Array.getElem?_eq_some_iff.1 J).1;have B9:=zaa d;clear A6 J A2 d;go_wp2
  go_loopw [37] (fun i wr=>∃k:Nat,k≤5∧i=.int .i64 k∧Hid (zia b l=zia b (l.drop k))∧Hid (Below I.heap.size I wr)) (fun i _=>5 - (intOf i).toNat)
  case atStart=>exact⟨0,by omega,rfl,rfl,Below.refl _ _⟩
  case round=>
   obtain⟨k,hk,rfl,A4,q⟩:=hrel;by_cases hk5:k<5
   ·have E2:(k:Int)<5:=by omega
    obtain⟨x,F⟩:∃x,l[k]?=some x:=⟨_,List.getElem?_eq_getElem (by have:=B8.o;omega)⟩;obtain⟨r1,r2,r3⟩:=A9.o k x F;have c:=zac q.o D9 r1;have HS:=zaa (r2.below q.o);have HM:=zaa r3;have r:=zaa (ztt (b:=b) F);obtain⟨xa,xc,xl⟩:=x;dsimp only at c HS HM r;clear r1 r2 r3 F;go_wp2_with fail;refine(zk7 xa xc xl b _ HS.o HM.o).mono ?_;rintro e wq ⟨rfl,n⟩;have A8:=zaa (zae q.o n);clear n c HS q
    cases ht:zai b xl with
    |some s=>
     have HT:Hid (textJ j b=(s,0)):=by
      have h2:=r.o;rw[ht]at h2;rw[Hid,A1.o,A4.o,h2]
     have B3:((some s:Option ByteArray).getD ⟨#[]⟩)=s:=rfl;have m:(some s:Option ByteArray).isSome=true:=rfl;rw[B3,m];clear ht B3 m r;go_wp2;refine bodyPost_ret (results_tmp2 rfl _ _ _) rfl ⟨by rw[HT.o];rfl,zae B9.o A8.o⟩
    |none=>
     have D6:Hid (zia b l=zia b (l.drop (k+1))):=by
      have h2:=r.o;rw[ht]at h2;rw[Hid,A4.o,h2]
     have m:(none:Option ByteArray).isSome=false:=rfl;rw[m];clear ht m r;go_wp2
     go_roundw
     case rel=>exact⟨k+1,by omega,by go_num,D6,A8⟩
     case measure=>first|(simp[intOf];omega)|simp[intOf]
   ·have e:k=5:=by omega
    subst e
    have HT:Hid (textJ j b=(zal j.disk (25+b),readE j.disk (25+b))):=by
     rw[Hid,A1.o,A4.o,List.drop_of_length_le (by have:=B8.o;omega)];rfl
    have A5:=zaa (zae B9.o q.o);have d1:=zac A5.o M c1;have d2:=zac A5.o M c2;have HD:=zaa (D8.o.below A5.o);have E0:IntKind.i64.wrap (25+b)=25+b:=by rw[IntKind.wrap_i64];omega
    clear A4 A1 A9;go_wp2_with fail;refine(zkx _ j.disk (25+b) _ HD.o).mono ?_;rintro e wq ⟨rfl,n⟩;have A8:=zaa (zae A5.o n);clear n d1 d2;go_wp2;refine bodyPost_ret (results_tmp2 rfl _ _ _) rfl ⟨by rw[HT.o];rfl,A8.o⟩
 have B2:=zaa B1;clear B1 B0;refine(show∀A0:Act,A0=_→Code.wp prog _ _ A0 _ from fun A0 hA0=>?_) _ rfl;have A:A0.tmps.size=59:=by rw[hA0];rfl
 have C8:A0.defers=[]:=by rw[hA0]
 have v0:A0.eval (.tmp 0)=.pointer (some ⟨B,0,none⟩):=by rw[hA0];rfl
 have v1:A0.eval (.tmp 1)=.int .i64 b:=by rw[hA0];rfl
 have v4:A0.eval (.tmp 4)=.string ⟨#[]⟩:=by rw[hA0];rfl
 have v5:A0.eval (.tmp 5)=.int .i64 0:=by rw[hA0];rfl
 clear hA0;refine zdz (fun w'=>Below w.heap.size w w') [10,11,12,13,14,15,16,17,18,19,20,21,22,23,24,25,26,27,28,29,30,31,32,33,34,35,36,37] (zrk B j Y Q Z N R U O S ca cc) (by kernel_rfl) (by kernel_rfl) (by kernel_rfl) ((Below.refl _ _).drew) ⟨?_,?_,?_,?_,?_,?_,?_,?_,?_,?_,?_,?_,?_,?_,?_,?_,?_,?_,?_,?_,?_,?_,?_,?_,?_,?_,?_,?_,trivial⟩ ?_
 ·exact zbh v0 A (fun _=>rfl) fun ρ w' C z=>by simp only[execOp];go_simp
 ·exact zam 0 10 A (fun _ _ h=>h) (fun _=>rfl) fun ρ w' C p=>by simp only[execOp];go_simp
 ·exact zam 1 11 A (fun _ _ h=>h) (fun _=>rfl) fun ρ w' C p=>by simp only[execOp];go_simp
 ·exact zam 2 12 A (fun _ _ h=>h) (fun _=>rfl) fun ρ w' C p=>by simp only[execOp];go_simp
 ·exact zam 3 13 A (fun _ _ h=>h) (fun _=>rfl) fun ρ w' C p=>by have c0:w'.cell? ⟨B,32,none⟩=some (.slice Y j.now.info.length Q):=zac C M D3.o;simp only[execOp];go_simp
 ·exact zbh v0 A (fun _=>rfl) fun ρ w' C z=>by simp only[execOp];go_simp
 ·exact zam 5 15 A (fun _ _ h=>h) (fun _=>rfl) fun ρ w' C p=>by simp only[execOp];go_simp
 ·exact zam 6 16 A (fun _ _ h=>h) (fun _=>rfl) fun ρ w' C p=>by simp only[execOp];go_simp
 ·exact zam 7 17 A (fun _ _ h=>h) (fun _=>rfl) fun ρ w' C p=>by simp only[execOp];go_simp
 ·exact zam 8 18 A (fun _ _ h=>h) (fun _=>rfl) fun ρ w' C p=>by have c0:w'.cell? ⟨B,33,none⟩=some (.slice Z j.now.data.length N):=zac C M C7.o;simp only[execOp];go_simp
 ·exact zbh v0 A (fun _=>rfl) fun ρ w' C z=>by simp only[execOp];go_simp
 ·exact zam 10 20 A (fun _ _ h=>h) (fun _=>rfl) fun ρ w' C p=>by simp only[execOp];go_simp
 ·exact zam 11 21 A (fun _ _ h=>h) (fun _=>rfl) fun ρ w' C p=>by simp only[execOp];go_simp
 ·exact zam 12 22 A (fun _ _ h=>h) (fun _=>rfl) fun ρ w' C p=>by simp only[execOp];go_simp
 ·exact zam 13 23 A (fun _ _ h=>h) (fun _=>rfl) fun ρ w' C p=>by have c0:w'.cell? ⟨B,42,none⟩=some (.slice R j.sealed.info.length U):=zac C M D4.o;simp only[execOp];go_simp
 ·exact zbh v0 A (fun _=>rfl) fun ρ w' C z=>by simp only[execOp];go_simp
 ·exact zam 15 25 A (fun _ _ h=>h) (fun _=>rfl) fun ρ w' C p=>by simp only[execOp];go_simp
 ·exact zam 16 26 A (fun _ _ h=>h) (fun _=>rfl) fun ρ w' C p=>by simp only[execOp];go_simp
 ·exact zam 17 27 A (fun _ _ h=>h) (fun _=>rfl) fun ρ w' C p=>by simp only[execOp];go_simp
 ·exact zam 18 28 A (fun _ _ h=>h) (fun _=>rfl) fun ρ w' C p=>by have c0:w'.cell? ⟨B,43,none⟩=some (.slice O j.sealed.data.length S):=zac C M C9.o;simp only[execOp];go_simp
 ·exact zbh v0 A (fun _=>rfl) fun ρ w' C z=>by simp only[execOp];go_simp
 ·exact zam 20 30 A (fun _ _ h=>h) (fun _=>rfl) fun ρ w' C p=>by simp only[execOp];go_simp
 ·exact zam 21 31 A (fun _ _ h=>h) (fun _=>rfl) fun ρ w' C p=>by simp only[execOp];go_simp
 ·exact zam 22 32 A (fun _ _ h=>h) (fun _=>rfl) fun ρ w' C p=>by have c0:w'.cell? ⟨B,51,none⟩=some (.slice ca j.done.length cc):=zac C M D1.o;simp only[execOp];go_simp
 ·intro a w' L C K;have p33:a.eval (.tmp 33)=.slice ca j.done.length cc:=K ⟨23,.data⟩ (by simp) rfl;refine zby 126 #[.slice ca j.done.length cc] rfl rfl (by have pf:=Act.eval_func a 126;revert p33 pf;generalize a.eval=ρ;intro p33 pf;simp only[execOp];go_simp) _ (zmc ca cc j.done _ (D7.o.below C) HN.o) ?_;rintro e w2 ⟨v7,rfl,D2,C3⟩;obtain⟨D,E,rfl,D5,_⟩:=SegC.of_owns D2;refine⟨_,rfl,_,rfl,zae C C3,?_,zkm C3⟩;show zrk _ _ _ _ _ _ _ _ _ _ _ _ _ ((a.put (some 34) _).eval (.tmp 34)) w2;rw[zax L A (by decide)];exact⟨D,E,rfl,D5⟩
 ·intro a w' L C K;have C1:a.eval (.tmp 14)=.slice Y j.now.info.length Q:=K ⟨4,.data⟩ (by simp) rfl;have B7:a.eval (.tmp 19)=.slice Z j.now.data.length N:=K ⟨9,.data⟩ (by simp) rfl;have B6:a.eval (.tmp 24)=.slice R j.sealed.info.length U:=K ⟨14,.data⟩ (by simp) rfl;have p29:a.eval (.tmp 29)=.slice O j.sealed.data.length S:=K ⟨19,.data⟩ (by simp) rfl;obtain⟨D,E,p34,hS⟩:∃(D:Option Addr) (E:Nat),a.eval (.tmp 34)=.slice D (newestL j.done).length E∧SegW w' D (newestL j.done):=K ⟨24,.data⟩ (by simp) rfl;refine zgj (.slice (some ⟨w'.heap.size,0,none⟩) 5 5) rfl rfl (w':=w'.alloc (.cells #[.slice Y j.now.info.length Q,.slice Z j.now.data.length N,.slice R j.sealed.info.length U,.slice O j.sealed.data.length S,.slice D (newestL j.done).length E] 34)) (by revert C1 B7 B6 p29 p34;generalize a.eval=ρ;intro C1 B7 B6 p29 p34;simp only[execOp];go_simp) ⟨_,rfl,C.alloc C.size _,?_,zkm (zab _ _)⟩;show zrk _ _ _ _ _ _ _ _ _ _ _ _ _ ((a.put (some 35) _).eval (.tmp 35)) _;rw[zax L A (by decide)];exact⟨_,D,E,rfl,heap_alloc_new _ _,hS.below (zab _ _)⟩
 ·intro a w' L C K;obtain⟨Bx,D,E,p35,_⟩:∃(Bx:Nat) (D:Option Addr) (E:Nat),a.eval (.tmp 35)=.slice (some ⟨Bx,0,none⟩) 5 5∧w'.heap[Bx]?=some (.cells #[.slice Y j.now.info.length Q,.slice Z j.now.data.length N,.slice R j.sealed.info.length U,.slice O j.sealed.data.length S,.slice D (newestL j.done).length E] 34 (0,0))∧SegW w' D (newestL j.done):=K ⟨25,.data⟩ (by simp) rfl;exact zf6 _ rfl rfl (by revert p35;generalize a.eval=ρ;intro p35;simp only[execOp];go_simp) L A C rfl
 ·intro a w' L C K;exact zf6 _ rfl rfl (by have C5:=Act.eval_const a (.int .i64 0);revert C5;generalize a.eval=ρ;intro C5;simp only[execOp];go_simp) L A C rfl
 ·intro a W L C K;obtain⟨Bx,D,E,p35,J,A2⟩:∃(Bx:Nat) (D:Option Addr) (E:Nat),a.eval (.tmp 35)=.slice (some ⟨Bx,0,none⟩) 5 5∧W.heap[Bx]?=some (.cells #[.slice Y j.now.info.length Q,.slice Z j.now.data.length N,.slice R j.sealed.info.length U,.slice O j.sealed.data.length S,.slice D (newestL j.done).length E] 34 (0,0))∧SegW W D (newestL j.done):=K 25 (by decide);have p36:a.eval (.tmp 36)=.int .i64 5:=K 26 (by decide);have p37:a.eval (.tmp 37)=.int .i64 0:=K 27 (by decide);have C6:a.tmps.size=59:=L.size.trans A;have f0:a.eval (.tmp 0)=.pointer (some ⟨B,0,none⟩):=(L.other 0 rfl).trans v0;have f1:a.eval (.tmp 1)=.int .i64 b:=(L.other 1 rfl).trans v1;have f4:a.eval (.tmp 4)=.string ⟨#[]⟩:=(L.other 4 rfl).trans v4;have f5:a.eval (.tmp 5)=.int .i64 0:=(L.other 5 rfl).trans v5;have y:a=⟨#[_,_,_,_,_,_,_,_,_,_,_,_,_,_,_,_,_,_,_,_,_,_,_,_,_,_,_,_,_,_,_,_,_,_,_,_,_,_,_,_,_,_,_,_,_,_,_,_,_,_,_,_,_,_,_,_,_,_,_],[]⟩:=zci a 59 C6 (L.defers.trans C8);dsimp only at y;rw[f0,f1,f4,f5,p35,p36,p37]at y;show KK a _;exact(congrArg (fun x=>KK x _) y).mpr (B2.o (fun k=>a.eval (.tmp k)) _ Bx D E J A2 C)
theorem z0c(B:Nat)(X:List Nat)(j:Jn)(w:World)(b:Int)(h:JAt w B X j)(hn:j.done.length≤maxLen):
  Calls prog 87 #[.pointer (some ⟨B,0,none⟩),.int .i64 b] w (zdj w B X (j,zik j b)):=by
 have x:=zaa h;have A1:=h.lt;have Q:=h.1;have y:=zaa hn;clear h hn;have A4:¬w.heap.size=B:=by omega
 have O:w.heap.size≠B:=by omega
 obtain⟨M,J⟩:∃M,M=w.alloc (.cells #[.int .i64 0,.int .i64 0,.string ⟨#[]⟩] 31):=⟨_,rfl⟩;have K:Hid (JAt M B (w.heap.size::X) j):=by rw[J];exact x.o.more (zab _ _) (Nat.le_refl _)
 have D:Hid (ButL [B] w.heap.size w M):=by rw[J];exact ButL.of_below (zab _ _)
 have R:Hid (M.heap[w.heap.size]?=some (.cells #[.int .i64 0,.int .i64 0,.string ⟨#[]⟩] 31 (0,0))):=by rw[J];exact heap_alloc_new _ _
 have L:w.heap.size<M.heap.size:=by rw[J];simp
 have Z:=zaa J;clear J;by_cases h0:b<0
 ·have a:Hid ((j,zik j b)=(j,zaq 4)):=by rw[Hid,zik,if_pos (.inl h0)]
  go_enter func87,ntmps87;go_wp2_with fail;rw[←Z.o];clear h0;refine(zat 4 _).mono ?_;rintro e U ⟨rfl,A⟩;have C:=zaa (zad A L R.o);have I:=zaa (K.o.below A);have F:=zaa (D.o.trans (Y:=[]) (ButL.of_below A) D.o.size (by simp));clear A;obtain⟨⟨q,n,p⟩,m⟩:=zbo C.o;go_wp2;exact zbe a.o C.o I.o F.o O Q fun W u0 u1 u2=>by simp[results,results87,go_sem,u0,u1,u2]
 ·by_cases h12:11<b
  ·have a:Hid ((j,zik j b)=(j,zaq 4)):=by rw[Hid,zik,if_pos (.inr h12)]
   have c:b≥12:=by omega
   go_enter func87,ntmps87;go_wp2_with fail;rw[←Z.o];clear h0 h12 c;refine(zat 4 _).mono ?_;rintro e U ⟨rfl,A⟩;have C:=zaa (zad A L R.o);have I:=zaa (K.o.below A);have F:=zaa (D.o.trans (Y:=[]) (ButL.of_below A) D.o.size (by simp));clear A;obtain⟨⟨q,n,p⟩,m⟩:=zbo C.o;go_wp2;exact zbe a.o C.o I.o F.o O Q fun W u0 u1 u2=>by simp[results,results87,go_sem,u0,u1,u2]
  ·have N:Hid (zik j b=if(textJ j b).2=0 then⟨0,j.role b.toNat,(textJ j b).1⟩ else zaq (textJ j b).2):=by rw[Hid,zik,if_neg (by omega)]
   have u:0≤b:=by omega
   have s:b≤11:=by omega
   have c:¬(b≥12):=by omega
   have A0:b<12:=by omega
   go_enter func87,ntmps87;go_wp2_with fail;rw[←Z.o];refine(z0b B (w.heap.size::X) j M b K.o y.o u s).mono ?_;rintro e U ⟨rfl,A⟩;have S:=zaa (K.o.below A);have d:Hid (ButL [B] w.heap.size w U):=D.o.trans (Y:=[]) (ButL.of_below A) D.o.size (by simp);have l:=zaa (zad A L R.o);have A2:M.heap.size≤U.heap.size:=A.size;have r:w.heap.size<U.heap.size:=by omega
   clear A;by_cases he:(textJ j b).2=0
   ·have i:Hid ((j,zik j b)=(j,⟨0,j.role b.toNat,(textJ j b).1⟩)):=by rw[Hid,N.o,if_pos he]
    rw[he];clear he N;generalize (textJ j b).1=TT at *;obtain⟨k,rfl⟩:∃k:Nat,b=(k:Int):=⟨b.toNat,by omega⟩;obtain⟨e1,_,_,_⟩:=S.o.role k (by omega);rw[Int.toNat_natCast]at i;have C:=l;have I:=S;have F:=d;obtain⟨⟨q,n,p⟩,m⟩:=zbo C.o;go_wp2;exact zbe i.o C.o I.o F.o O Q fun W u0 u1 u2=>by simp[results,results87,go_sem,u0,u1,u2]
   ·have a:Hid ((j,zik j b)=(j,zaq (textJ j b).2)):=by rw[Hid,N.o,if_neg he]
    have A3:((textJ j b).2 !=0)=true:=by simpa using he
    clear he N;generalize (textJ j b).2=E at *;have K:=S;have D:=d;have R:=l;have L:=r;go_wp2_with fail;refine(zat E _).mono ?_;rintro e w3 ⟨rfl,A⟩;have C:=zaa (zad A L R.o);have I:=zaa (K.o.below A);have F:=zaa (D.o.trans (Y:=[]) (ButL.of_below A) D.o.size (by simp));clear A;obtain⟨⟨q,n,p⟩,m⟩:=zbo C.o;go_wp2;exact zbe a.o C.o I.o F.o O Q fun W u0 u1 u2=>by simp[results,results87,go_sem,u0,u1,u2]
theorem ztx(t:Tx)(ua:Option Addr)(uc:Nat)(ub:Option Addr)(ud:Nat)(ue:Option Addr)(uf:Nat)(w:World):
  Calls prog 124 #[.agg #[.int .i64 t.seq,.slice ua t.info.length uc,.slice ub t.data.length ud,.slice ue t.rev.length uf,.bool t.h0.on,.int .i64 t.h0.left,.bool t.h1.on,.int .i64 t.h1.left,.bool t.h2.on,.int .i64 t.h2.left]] w fun e w'=>e=.returned (.bool (zcg t))∧Below w.heap.size w w':=by
 by_cases h1:t.info.length=0
 ·by_cases h2:t.data.length=0
  ·by_cases h3:t.rev.length=0
   ·have A:Hid (zcg t=true):=by simp[Hid,zcg,h1,h2,h3]
    rw[h1,h2,h3];clear h1 h2 h3;go_enter func124,ntmps124;go_wp2;go_ret;exact⟨by rw[A.o];rfl,zab _ _⟩
   ·have A:Hid (zcg t=false):=by simp[Hid,zcg,h1,h2,h3]
    have A3:(t.rev.length==0)=false:=by simpa using h3
    have A0:((t.rev.length:Int)==0)=false:=by simpa using h3
    rw[h1,h2];clear h1 h2 h3;go_enter func124,ntmps124;go_wp2;go_ret;exact⟨by rw[A.o];rfl,zab _ _⟩
  ·have A:Hid (zcg t=false):=by simp[Hid,zcg,h1,h2]
   have A4:(t.data.length==0)=false:=by simpa using h2
   have A5:((t.data.length:Int)==0)=false:=by simpa using h2
   rw[h1];clear h1 h2;go_enter func124,ntmps124;go_wp2;go_ret;exact⟨by rw[A.o];rfl,zab _ _⟩
 ·have A:Hid (zcg t=false):=by simp[Hid,zcg,h1]
  have A2:(t.info.length==0)=false:=by simpa using h1
  have A1:((t.info.length:Int)==0)=false:=by simpa using h1
  clear h1;go_enter func124,ntmps124;go_wp2;go_ret;exact⟨by rw[A.o];rfl,zab _ _⟩
theorem zhg{w:World}{X:List Nat}{base:Nat}{e:TypeId}{size:Nat}{v:Value}{n:Nat}{xs:List Value}(h:w.ownsRow base e size v n xs)(hX:∀x∈X,x<base):(zas w X).ownsRow base e size v n xs:=by
 refine⟨h.1,?_⟩;rcases h.2 with h0|⟨g,cap,cur,hv,hg,hh,r⟩
 ·exact .inl h0
 ·exact .inr ⟨g,cap,cur,hv,hg,(zlf (zpp hX hg)).trans hh,r⟩
theorem ScPost.foundH{w w':World}{d:Dk}{e:Ending}(h:ScPost w w' d e){X:List Nat}(hX:∀x∈X,x<w.heap.size):∃va vc,e=.returned (.tuple #[.agg #[.slice va (fndL d).length vc,.int .i64 (fndN d),.int .i64 (fndP d)],.int .i64 (scanE d)])∧SegTx (zas w' X) va (fndL d)∧Below w.heap.size w w':=by
 obtain⟨v,rfl,hb,O,Q⟩:=h;by_cases hE:scanE d=0
 ·obtain⟨q,va,vc,rfl,D,L,I⟩:=Q hE;have C:=zhg L hX
  have B:∀x∈q,OwnR (zas w' X) w.heap.size x:=fun x hx=>by
   obtain⟨K,J,M⟩:=I x hx;exact⟨zhg K hX,zhg J hX,zhg M hX⟩
  obtain⟨a,c,F,N,_⟩:=SegTx.of_owns C B;simp only[Value.slice.injEq]at F;obtain⟨rfl,_,rfl⟩:=F;have E:fndL d=q.map (·.t):=by rw[fndL,if_pos hE,D]
  have A:q.length=(zbt d).1.length:=by rw[←D,List.length_map]
  refine⟨va,vc,?_,by rw[E];exact N,hb⟩;rw[E,fndN,fndP,if_pos hE,if_pos hE,List.length_map,A]
 ·rw[O hE];refine⟨none,0,?_,.inl (by rw[fndL,if_neg hE]),hb⟩;rw[fndL,fndN,fndP,if_neg hE,if_neg hE,if_neg hE];rfl
def zpc (B:Nat)(D:Nat)(va:Option Addr)(vc:Nat)(d:Dk)(cs:List (Int×ByteArray)):Nat→Value→World→Prop
 |0,v,_=>v=.pointer (some ⟨B,0,none⟩)
 |1,v,_=>v=.pointer (some ⟨D,0,none⟩)
 |2,v,_=>v=.slice va (fndL d).length vc
 |3,v,w=>∃a c,v=.slice a cs.length c∧SegW w a cs
 |4,v,_=>v=.pointer (some ⟨D,2,none⟩)
 |5,v,_=>v=.int .i64 (fndP d)
 |6,v,_=>v=.pointer (some ⟨D,1,none⟩)
 |7,v,_=>v=.int .i64 (fndN d)
 |_,_,_=>True
theorem zpd{B:Nat}{D:Nat}{va:Option Addr}{vc:Nat}{d:Dk}{cs:List (Int×ByteArray)}{w w':World}(hb:Below w.heap.size w w'){i:Nat}:∀kk uu,kk≠i→zpc B D va vc d cs kk uu w→zpc B D va vc d cs kk uu w':=by
 intro kk uu _ h
 match kk,h with
 |0,h|1,h|2,h=>exact h
 |3,⟨a,c,h1,h2⟩=>exact⟨a,c,h1,h2.below hb⟩
 |4,h|5,h|6,h|7,h=>exact h
 |_+8,_=>exact trivial
theorem z0f(B:Nat)(X:List Nat)(j:Jn)(w:World)(h:JAt w B X j)(hX:∀x∈X,x<w.heap.size)(hFew0:j.down=true→j.steps=[]→∀t∈fndL j.disk,Few t):
  Calls prog 46 #[.pointer (some ⟨B,0,none⟩)] w (zdj w B X (zb4 j)):=by
 have HJ:=zaa h;have F3:=h.lt;have u:=h.1;have HX:=zaa hX;obtain⟨_,da,dc,db,dd,na,nc,nb,nd,ne,nf,sa,sc,sb,sd,se,sf,ca,cc,fa,fc,ta,tc,O,hr⟩:=h;have c1:w.cell? ⟨B,1,none⟩=some (.slice da j.disk.safe.length dc):=zak O 1;have c2:w.cell? ⟨B,2,none⟩=some (.slice db j.disk.wr.length dd):=zak O 2;have c6:w.cell? ⟨B,6,none⟩=some (.bool j.down):=zak O 6;have E4:=zaa (hr.1.ext (Ext.seenL w X));clear O hr hX;have F2:¬w.heap.size=B:=by omega
 cases hd:j.down with
 |false=>
  have HE:Hid (zb4 j=(j,zaq 9)):=by rw[Hid,zb4,if_pos (.inl hd)]
  rw[hd]at c6;clear hd;go_enter func46,ntmps46;go_wp2_with fail;obtain⟨S,F⟩:∃S,S=w.alloc (.cells #[.int .i64 0,.int .i64 0,.string ⟨#[]⟩] 31):=⟨_,rfl⟩;have I:Hid (JAt S B (w.heap.size::X) j):=by rw[F];exact HJ.o.more (zab _ _) (Nat.le_refl _)
  have C:Hid (ButL [B] w.heap.size w S):=by rw[F];exact ButL.of_below (zab _ _)
  have n:Hid (S.heap[w.heap.size]?=some (.cells #[.int .i64 0,.int .i64 0,.string ⟨#[]⟩] 31 (0,0))):=by rw[F];exact heap_alloc_new _ _
  have J:w.heap.size<S.heap.size:=by rw[F];simp
  have Q:w.heap.size≠B:=by omega
  rw[←F];clear F;refine(zat 9 _).mono ?_;rintro e w2 ⟨rfl,A⟩;have D:=zaa (zad A J n.o);have b:=zaa (I.o.below A);have U:=zaa (C.o.trans (Y:=[]) (ButL.of_below A) C.o.size (by simp));clear A;obtain⟨⟨y0,y1,y2⟩,yf⟩:=zbo D.o;go_wp2;exact zbe HE.o D.o b.o U.o Q u fun W u0 u1 u2=>by simp[results,results46,go_sem,u0,u1,u2]
 |true=>
  rw[hd]at c6;go_enter func46,ntmps46;go_wp2_with fail;obtain⟨S,F⟩:∃S,S=w.alloc (.cells #[.int .i64 0,.int .i64 0,.string ⟨#[]⟩] 31):=⟨_,rfl⟩;have I:Hid (JAt S B (w.heap.size::X) j):=by rw[F];exact HJ.o.more (zab _ _) (Nat.le_refl _)
  have C:Hid (ButL [B] w.heap.size w S):=by rw[F];exact ButL.of_below (zab _ _)
  have n:Hid (S.heap[w.heap.size]?=some (.cells #[.int .i64 0,.int .i64 0,.string ⟨#[]⟩] 31 (0,0))):=by rw[F];exact heap_alloc_new _ _
  have J:w.heap.size<S.heap.size:=by rw[F];simp
  have Q:w.heap.size≠B:=by omega
  rw[←F];clear F;refine(zfq B (w.heap.size::X) j S I.o).mono ?_;rintro e M ⟨rfl,rfl⟩;by_cases hs:0<j.steps.length
  ·have HE:Hid (zb4 j=(j,zaq 9)):=by rw[Hid,zb4,if_pos (.inr (by intro e;rw[e]at hs;simp at hs))]
   have A4:decide (0<j.steps.length)=true:=by simpa using hs
   rw[A4];clear hs A4 hd;go_wp2_with fail;refine(zat 9 _).mono ?_;rintro e w2 ⟨rfl,A⟩;have D:=zaa (zad A J n.o);have b:=zaa (I.o.below A);have U:=zaa (C.o.trans (Y:=[]) (ButL.of_below A) C.o.size (by simp));clear A;obtain⟨⟨y0,y1,y2⟩,yf⟩:=zbo D.o;go_wp2;exact zbe HE.o D.o b.o U.o Q u fun W u0 u1 u2=>by simp[results,results46,go_sem,u0,u1,u2]
  ·have A4:decide (0<j.steps.length)=false:=by simpa using hs
   have B8:j.steps=[]:=List.eq_nil_of_length_eq_zero (by omega);have D2:¬(j.down=false∨j.steps≠[]):=by simp[hd,B8]
   have B5:=hFew0 hd B8;clear hFew0;have C8:=zaa D2;rw[A4];clear hs A4 hd B8 D2 c1 c2 c6;obtain⟨_,ka,kc,kb,kd,na,nc,nb,nd,ne,nf,sa,sc,sb,sd,se,sf,ca,cc,fa,fc,ta,tc,O,hr⟩:=id I.o;have c1:M.cell? ⟨B,1,none⟩=some (.slice ka j.disk.safe.length kc):=zak O 1;have c2:M.cell? ⟨B,2,none⟩=some (.slice kb j.disk.wr.length kd):=zak O 2;have D3:=zaa (hr.1.ext (Ext.seenL M _));clear O hr E4;go_wp2_with fail;refine(z13 _ _ _ _ j.disk _ D3.o).mono ?_;intro e K hP
   obtain⟨va,vc,rfl,D1,A3⟩:=hP.foundH (X:=w.heap.size::X) (fun x hx=>by
    rcases List.mem_cons.1 hx with rfl|hx
    ·exact J
    ·have:=HX.o x hx;omega)
   have A7:=zaa D1;have A1:=zaa (I.o.below A3);have B1:=zaa (zad A3 J n.o);have r:=zaa (C.o.trans (Y:=[]) (ButL.of_below A3) C.o.size (by simp));have A8:w.heap.size<K.heap.size:=Nat.lt_of_lt_of_le J A3.size;clear hP D1 A3 I n C c1 c2 D3 J HJ;obtain⟨d,hd⟩:∃d,d=j.disk:=⟨_,rfl⟩;rw[←hd]at A7 B5⊢;have D5:=zaa hd;clear hd
   have E6:Hid (∀x∈w.heap.size::X,x<K.heap.size):=fun x hx=>by
    rcases List.mem_cons.1 hx with rfl|hx
    ·exact A8
    ·have:=HX.o x hx;omega
   by_cases hE:scanE d=0
   ·have B0:Hid (zb4 j=if checkE (newestL (fndL d)) (fndP d) (fndN d)=0 then({j with work:=11,steps:=checkS (newestL (fndL d)) (fndP d) (fndN d),fL:=fndL d,fN:=fndN d,fP:=fndP d},zaq 0) else(j,zaq (checkE (newestL (fndL d)) (fndP d) (fndN d)))):=by
     rw[Hid,zb4,if_neg C8.o,←D5.o,if_pos hE]
    rw[hE];clear hE;go_wp2;rename_i KK B2;obtain⟨N,Z⟩:∃N,N=K.alloc (.cells #[.slice va (fndL d).length vc,.int .i64 (fndN d),.int .i64 (fndP d)] 90):=⟨_,rfl⟩;have A:Below K.heap.size K N:=by rw[Z];exact zab _ _
    have C1:=zaa (A7.o.ext (Ext.freshL A));have C4:=zaa (A1.o.below A);have D4:=zaa (zad A A8 B1.o);have B4:=zaa (r.o.trans (Y:=[]) (ButL.of_below A) r.o.size (by simp));have KF:Hid (N.heap[K.heap.size]?=some (.cells #[.slice va (fndL d).length vc,.int .i64 (fndN d),.int .i64 (fndP d)] 90 (0,0))):=by rw[Z];exact heap_alloc_new _ _
    have A9:K.heap.size<N.heap.size:=by rw[Z];simp
    obtain⟨⟨y0,y1,y2⟩,_⟩:=zbo KF.o;have Y0:=zaa y0;have Y1:=zaa y1;have Y2:=zaa y2;have F0:B<K.heap.size:=A1.o.lt;rw[←Z];clear Z A y0 y1 y2 A7 A1 B1 r
    have B3:∀(g:Nat→Value) (R:World),JAt R B (w.heap.size::X) (zdy j 11 (newestL (fndL d)) (fndP d) (fndN d)).1→ButL [B] N.heap.size N R→KK ⟨#[.pointer (some ⟨B,0,none⟩),g 1,.pointer (some ⟨w.heap.size,0,none⟩),.pointer (some ⟨K.heap.size,0,none⟩),.int .i64 (zdy j 11 (newestL (fndL d)) (fndP d) (fndN d)).2,g 5,g 6,g 7,g 8,g 9,g 10,g 11,g 12,g 13,g 14,g 15,g 16,g 17,g 18,g 19,g 20,g 21,g 22,g 23,g 24,g 25,g 26,g 27,g 28,g 29,g 30,g 31,g 32,g 33,g 34,g 35,g 36,g 37,g 38,g 39,g 40,g 41,g 42,g 43],[]⟩ R:=by
     intro g R hJ s;apply B2;clear B2;have C0:=zaa ((s.block _ (show w.heap.size<N.heap.size by omega) (by simp;omega)).trans D4.o);have C6:=zaa ((s.block _ A9 (by simp;omega)).trans KF.o);have C5:=zaa (C1.o.ext (Ext.butL (s.wider (Y:=w.heap.size::X) (by simp[u]))));have B6:=zaa (B4.o.trans (Y:=[B]) s B4.o.size (by simp));have A5:w.heap.size<R.heap.size:=by have:=s.size;omega
     have Q:w.heap.size≠B:=by omega
     have l:=zaa hJ;clear hJ s Y0 Y1 Y2 C1 C4 D4 B4 KF;by_cases hc:checkE (newestL (fndL d)) (fndP d) (fndN d)=0
     ·have A2:zdy j 11 (newestL (fndL d)) (fndP d) (fndN d)=({j with work:=11,steps:=checkS (newestL (fndL d)) (fndP d) (fndN d)},0):=by rw[zdy,if_pos hc]
      have HE:Hid (zb4 j=({j with work:=11,steps:=checkS (newestL (fndL d)) (fndP d) (fndN d),fL:=fndL d,fN:=fndN d,fP:=fndP d},zaq 0)):=by rw[Hid,B0.o,if_pos hc]
      rw[A2]at l⊢;clear A2 hc B0;dsimp only at l⊢;obtain⟨_,da,dc,db,dd,na,nc,nb,nd,ne,nf,sa,sc,sb,sd,se,sf,ca,cc,fa,fc,ta,tc,O,_⟩:=id l.o;have E5:R.cell? ⟨B,52,none⟩=some (.slice fa j.fL.length fc):=zak O 52;have E1:R.cell? ⟨B,53,none⟩=some (.int .i64 j.fN):=zak O 53;have E7:R.cell? ⟨B,54,none⟩=some (.int .i64 j.fP):=zak O 54;have D9:R.frozen? ⟨B,52,none⟩=false:=frozen_of_row R _ _ _ _ O;have D7:R.frozen? ⟨B,53,none⟩=false:=frozen_of_row R _ _ _ _ O;have E0:R.frozen? ⟨B,54,none⟩=false:=frozen_of_row R _ _ _ _ O;clear O;obtain⟨⟨y0,y1,y2⟩,yf⟩:=zbo C6.o;go_wp2_with fail;obtain⟨W4,y⟩:∃W4,W4=((R.setCell ⟨B,52,none⟩ (.slice va (fndL d).length vc)).setCell ⟨B,53,none⟩ (.int .i64 (fndN d))).setCell ⟨B,54,none⟩ (.int .i64 (fndP d)):=⟨_,rfl⟩;have I:Hid (JAt W4 B (w.heap.size::X) {j with work:=11,steps:=checkS (newestL (fndL d)) (fndP d) (fndN d),fL:=fndL d,fN:=fndN d,fP:=fndP d}):=by rw[y];exact l.o.putFound (fndN d) (fndP d) C5.o
      have C:Hid (ButL [B] w.heap.size w W4):=by rw[y];exact((B6.o.set (.inl (by simp)) 52 _).set (.inl (by simp)) 53 _).set (.inl (by simp)) 54 _
      have n:Hid (W4.heap[w.heap.size]?=some (.cells #[.int .i64 0,.int .i64 0,.string ⟨#[]⟩] 31 (0,0))):=by rw[y];exact(Below.heap_setCell _ _ _ _ Q).trans ((Below.heap_setCell _ _ _ _ Q).trans ((Below.heap_setCell _ _ _ _ Q).trans C0.o))
      have J:w.heap.size<W4.heap.size:=by rw[y];simpa[World.setCell] using A5
      rw[←y];clear y y0 y1 y2 yf E5 E1 E7 D9 D7 E0 C0 C6 C5 B6 l A5;refine(zat 0 _).mono ?_;rintro e w2 ⟨rfl,A⟩;have D:=zaa (zad A J n.o);have b:=zaa (I.o.below A);have U:=zaa (C.o.trans (Y:=[]) (ButL.of_below A) C.o.size (by simp));clear A;obtain⟨⟨y0,y1,y2⟩,yf⟩:=zbo D.o;go_wp2;exact zbe HE.o D.o b.o U.o Q u fun W u0 u1 u2=>by simp[results,results46,go_sem,u0,u1,u2]
     ·have A2:zdy j 11 (newestL (fndL d)) (fndP d) (fndN d)=(j,checkE (newestL (fndL d)) (fndP d) (fndN d)):=by rw[zdy,if_neg hc]
      have HE:Hid (zb4 j=(j,zaq (checkE (newestL (fndL d)) (fndP d) (fndN d)))):=by rw[Hid,B0.o,if_neg hc]
      rw[A2]at l⊢;dsimp only at l⊢;have F1:(checkE (newestL (fndL d)) (fndP d) (fndN d)==0)=false:=by simpa using hc
      clear A2 hc B0;generalize checkE (newestL (fndL d)) (fndP d) (fndN d)=E at *;go_wp2_with fail;have I:=l;have C:=B6;have n:=C0;have J:=A5;refine(zat E _).mono ?_;rintro e w2 ⟨rfl,A⟩;have D:=zaa (zad A J n.o);have b:=zaa (I.o.below A);have U:=zaa (C.o.trans (Y:=[]) (ButL.of_below A) C.o.size (by simp));clear A;obtain⟨⟨y0,y1,y2⟩,yf⟩:=zbo D.o;go_wp2;exact zbe HE.o D.o b.o U.o Q u fun W u0 u1 u2=>by simp[results,results46,go_sem,u0,u1,u2]
    have C2:=zaa B3;clear B3 B2;refine(show∀A0:Act,A0=_→Code.wp prog _ _ A0 _ from fun A0 hA0=>?_) _ rfl;have c:A0.tmps.size=44:=by rw[hA0];rfl
    have E2:A0.defers=[]:=by rw[hA0]
    have v0:A0.eval (.tmp 0)=.pointer (some ⟨B,0,none⟩):=by rw[hA0];rfl
    have v2:A0.eval (.tmp 2)=.pointer (some ⟨w.heap.size,0,none⟩):=by rw[hA0];rfl
    have v3:A0.eval (.tmp 3)=.pointer (some ⟨K.heap.size,0,none⟩):=by rw[hA0];rfl
    clear hA0;refine zbi 8 (fun M=>Below N.heap.size N M) [27,28,29,30,31,32,33,34] (zpc B K.heap.size va vc d (newestL (fndL d))) (by kernel_rfl) (by kernel_rfl) (by kernel_rfl) (by kernel_rfl) (by decide) ((Below.refl _ _).drew) ⟨?_,?_,?_,?_,?_,?_,?_,?_,trivial⟩ ?_
    ·exact zbh v0 c (fun _=>rfl) fun ρ M L z=>by simp only[execOp];go_simp
    ·exact zbh v3 c (fun _=>rfl) fun ρ M L z=>by simp only[execOp];go_simp
    ·exact zam 1 28 c (fun _ _ h=>h) (fun _=>rfl) fun ρ M L p=>by have c0:M.cell? ⟨K.heap.size,0,none⟩=some (.slice va (fndL d).length vc):=zac L A9 Y0.o;simp only[execOp];go_simp
    ·intro a M hF L hp;have p29:a.eval (.tmp 29)=.slice va (fndL d).length vc:=hp ⟨2,.data⟩ (by simp) rfl;refine zby 78 #[.slice va (fndL d).length vc] rfl rfl (by have pf:=Act.eval_func a 78;revert p29 pf;generalize a.eval=ρ;intro p29 pf;simp only[execOp];go_simp) _ (zxs va vc (fndL d) _ ((C1.o.ext (Ext.seenL N (w.heap.size::X))).below L) (by have:=zoi d;omega) B5) ?_;rintro e w2 ⟨v7,rfl,E3,C7⟩;obtain⟨ya,yc,rfl,B9,_⟩:=SegC.of_owns E3;refine⟨_,rfl,_,rfl,zae L C7,?_,zpd C7⟩;show zpc _ _ _ _ _ _ _ ((a.put (some 30) _).eval (.tmp 30)) w2;rw[zax hF c (by decide)];exact⟨ya,yc,rfl,B9⟩
    ·exact zbh v3 c (fun _=>rfl) fun ρ M L z=>by simp only[execOp];go_simp
    ·exact zam 4 31 c (fun _ _ h=>h) (fun _=>rfl) fun ρ M L p=>by have c0:M.cell? ⟨K.heap.size,2,none⟩=some (.int .i64 (fndP d)):=zac L A9 Y2.o;simp only[execOp];go_simp
    ·exact zbh v3 c (fun _=>rfl) fun ρ M L z=>by simp only[execOp];go_simp
    ·exact zam 6 33 c (fun _ _ h=>h) (fun _=>rfl) fun ρ M L p=>by have c0:M.cell? ⟨K.heap.size,1,none⟩=some (.int .i64 (fndN d)):=zac L A9 Y1.o;simp only[execOp];go_simp
    ·intro a W hF L hp;have p0:a.eval (.tmp 27)=.pointer (some ⟨B,0,none⟩):=hp 0 (by decide);obtain⟨ya,yc,p3,B9⟩:∃ya yc,a.eval (.tmp 30)=.slice ya (newestL (fndL d)).length yc∧SegW W ya (newestL (fndL d)):=hp 3 (by decide);have p5:a.eval (.tmp 32)=.int .i64 (fndP d):=hp 5 (by decide);have p7:a.eval (.tmp 34)=.int .i64 (fndN d):=hp 7 (by decide);show wpOps prog _ _ [8,9] a W;rw[wpOps_cons];refine zby 77 #[.pointer (some ⟨B,0,none⟩),.int .i64 11,.slice ya (newestL (fndL d)).length yc,.int .i64 (fndP d),.int .i64 (fndN d)] rfl rfl (by have pf:=Act.eval_func a 77;have D6:=Act.eval_const a (.int .i64 11);revert p0 p3 p5 p7 pf D6;generalize a.eval=ρ;intro p0 p3 p5 p7 pf D6;simp only[execOp];go_simp) _ (zq5 B (w.heap.size::X) j W (C4.o.below L) (fun x hx=>Nat.lt_of_lt_of_le (E6.o x hx) (by have:=L.size;omega)) 11 ya yc (newestL (fndL d)) B9 (by have:=zeu (newestF (fndL d)) 12;unfold newestL;omega) (fndP d) (fndN d)) ?_;rintro e w5 ⟨rfl,E8,E9⟩;refine⟨_,rfl,?_⟩;rw[wpOps_cons];have C9:a.tmps.size=44:=hF.size.trans c;obtain⟨q,i⟩:∃q,q=a.put (some 35) (.int .i64 (zdy j 11 (newestL (fndL d)) (fndP d) (fndN d)).2):=⟨_,rfl⟩;have C3:q.eval (.tmp 35)=.int .i64 (zdy j 11 (newestL (fndL d)) (fndP d) (fndN d)).2:=by rw[i];exact Act.eval_put_same _ _ _ (by rw[C9];decide)
     have B7:q.tmps.size=44:=by rw[i,Act.size_put];exact C9
     have D8:q.defers=[]:=by rw[i,Act.defers_put'];exact hF.defers.trans E2
     have o0:q.eval (.tmp 0)=.pointer (some ⟨B,0,none⟩):=by rw[i,Act.eval_put_ne _ _ _ _ (by decide)];exact(hF.other 0 rfl).trans v0
     have o2:q.eval (.tmp 2)=.pointer (some ⟨w.heap.size,0,none⟩):=by rw[i,Act.eval_put_ne _ _ _ _ (by decide)];exact(hF.other 2 rfl).trans v2
     have o3:q.eval (.tmp 3)=.pointer (some ⟨K.heap.size,0,none⟩):=by rw[i,Act.eval_put_ne _ _ _ _ (by decide)];exact(hF.other 3 rfl).trans v3
     show wpOp prog _ _ _ _ (a.put (some 35) (.int .i64 (zdy j 11 (newestL (fndL d)) (fndP d) (fndN d)).2)) w5;rw[←i];clear i;refine zbb (.int .i64 (zdy j 11 (newestL (fndL d)) (fndP d) (fndN d)).2) rfl rfl (by revert C3;generalize q.eval=ρ;intro C3;simp only[execOp];go_simp) ?_;obtain⟨a2,m⟩:∃a2,a2=q.put (some 4) (.int .i64 (zdy j 11 (newestL (fndL d)) (fndP d) (fndN d)).2):=⟨_,rfl⟩;have f4:a2.eval (.tmp 4)=.int .i64 (zdy j 11 (newestL (fndL d)) (fndP d) (fndN d)).2:=by rw[m];exact Act.eval_put_same _ _ _ (by rw[B7];decide)
     have f0:a2.eval (.tmp 0)=.pointer (some ⟨B,0,none⟩):=by rw[m,Act.eval_put_ne _ _ _ _ (by decide)];exact o0
     have f2:a2.eval (.tmp 2)=.pointer (some ⟨w.heap.size,0,none⟩):=by rw[m,Act.eval_put_ne _ _ _ _ (by decide)];exact o2
     have f3:a2.eval (.tmp 3)=.pointer (some ⟨K.heap.size,0,none⟩):=by rw[m,Act.eval_put_ne _ _ _ _ (by decide)];exact o3
     have A6:a2=⟨#[_,_,_,_,_,_,_,_,_,_,_,_,_,_,_,_,_,_,_,_,_,_,_,_,_,_,_,_,_,_,_,_,_,_,_,_,_,_,_,_,_,_,_,_],[]⟩:=zci a2 44 (by rw[m,Act.size_put];exact B7) (by rw[m,Act.defers_put'];exact D8);dsimp only at A6;rw[f0,f2,f3,f4]at A6;show KK (q.put (some 4) (.int .i64 (zdy j 11 (newestL (fndL d)) (fndP d) (fndN d)).2)) w5;rw[←m];exact(congrArg (fun x=>KK x w5) A6).mpr (C2.o (fun k=>a2.eval (.tmp k)) w5 E8 ((ButL.of_below L).trans (Y:=[B]) E9 L.size (by simp)))
   ·have HE:Hid (zb4 j=(j,zaq (scanE d))):=by rw[Hid,zb4,if_neg C8.o,←D5.o,if_neg hE]
    have F4:(scanE d !=0)=true:=by simpa using hE
    clear hE;generalize scanE d=E at *;go_wp2_with fail;obtain⟨N,Z⟩:∃N,N=K.alloc (.cells #[.slice va (fndL d).length vc,.int .i64 (fndN d),.int .i64 (fndP d)] 90):=⟨_,rfl⟩;have A:Below K.heap.size K N:=by rw[Z];exact zab _ _
    have I:=zaa (A1.o.below A);have n:=zaa (zad A A8 B1.o);have C:=zaa (r.o.trans (Y:=[]) (ButL.of_below A) r.o.size (by simp));have J:w.heap.size<N.heap.size:=Nat.lt_of_lt_of_le A8 A.size;rw[←Z];clear Z A A1 B1 r;refine(zat E _).mono ?_;rintro e w2 ⟨rfl,A⟩;have D:=zaa (zad A J n.o);have b:=zaa (I.o.below A);have U:=zaa (C.o.trans (Y:=[]) (ButL.of_below A) C.o.size (by simp));clear A;obtain⟨⟨y0,y1,y2⟩,yf⟩:=zbo D.o;go_wp2;exact zbe HE.o D.o b.o U.o Q u fun W u0 u1 u2=>by simp[results,results46,go_sem,u0,u1,u2]
def zvd (B:Nat)(ca:Option Addr)(cc:Nat)(j:Jn):Nat→Value→World→Prop
 |0,v,_=>v=.pointer (some ⟨B,0,none⟩)
 |1,v,_=>v=.pointer (some ⟨B,0,none⟩)
 |2,v,_=>v=.pointer (some ⟨B,0,none⟩)
 |3,v,_=>v=.pointer (some ⟨B,51,none⟩)
 |4,v,_=>v=.slice ca j.done.length cc
 |5,v,w=>∃a c,v=.slice a (newestL j.done).length c∧SegW w a (newestL j.done)
 |6,v,_=>v=.pointer (some ⟨B,0,none⟩)
 |7,v,_=>v=.pointer (some ⟨B,0,none⟩)
 |8,v,_=>v=.pointer (some ⟨B,3,none⟩)
 |9,v,_=>v=.pointer (some ⟨B,3,none⟩)
 |10,v,_=>v=.int .i64 j.rh
 |11,v,_=>v=.pointer (some ⟨B,0,none⟩)
 |12,v,_=>v=.pointer (some ⟨B,0,none⟩)
 |13,v,_=>v=.pointer (some ⟨B,5,none⟩)
 |14,v,_=>v=.int .i64 j.last
 |15,v,_=>v=.int .i64 (j.last+1)
 |_,_,_=>True
theorem zry{B:Nat}{ca:Option Addr}{cc:Nat}{j:Jn}{w w':World}(hb:Below w.heap.size w w'){i:Nat}:∀kk uu,kk≠i→zvd B ca cc j kk uu w→zvd B ca cc j kk uu w':=by
 intro kk uu _ h
 match kk,h with
 |0,h|1,h|2,h|3,h|4,h=>exact h
 |5,⟨a,c,h1,h2⟩=>exact⟨a,c,h1,h2.below hb⟩
 |6,h|7,h|8,h|9,h|10,h|11,h|12,h|13,h|14,h|15,h=>exact h
 |_+16,_=>exact trivial
theorem zxy(B:Nat)(X:List Nat)(j:Jn)(w:World)(h:JAt w B X j)(hX:∀x∈X,x<w.heap.size)(hN:j.done.length≤maxLen)(hwp:IntKind.i64.wrap (j.last+1)=j.last+1):
  Calls prog 86 #[.pointer (some ⟨B,0,none⟩)] w (zdj w B X (zfz j)):=by
 have HJ:=zaa h;have D7:=h.lt;have A8:=h.1;have HX:=zaa hX;have C6:=zaa hwp;clear h hX hwp;have D9:¬w.heap.size=B:=by omega
 go_enter func86,ntmps86;go_wp2_with fail;obtain⟨l,N⟩:∃l,l=w.alloc (.cells #[.int .i64 0,.int .i64 0,.string ⟨#[]⟩] 31):=⟨_,rfl⟩;have S:Hid (JAt l B (w.heap.size::X) j):=by rw[N];exact HJ.o.more (zab _ _) (Nat.le_refl _)
 have O:Hid (ButL [B] w.heap.size w l):=by rw[N];exact ButL.of_below (zab _ _)
 have KR:Hid (l.heap[w.heap.size]?=some (.cells #[.int .i64 0,.int .i64 0,.string ⟨#[]⟩] 31 (0,0))):=by rw[N];exact heap_alloc_new _ _
 have u:w.heap.size<l.heap.size:=by rw[N];simp
 have y:w.heap.size≠B:=by omega
 rw[←N];clear N;refine(zfq B (w.heap.size::X) j l S.o).mono ?_;rintro e w' ⟨rfl,rfl⟩;by_cases hs:0<j.steps.length
 ·have HE:Hid (zfz j=(j,zaq 9)):=by rw[Hid,zfz,if_pos (by intro e;rw[e]at hs;simp at hs)]
  have i:decide (0<j.steps.length)=true:=by simpa using hs
  rw[i];clear hs i;go_wp2_with fail;refine(zat 9 _).mono ?_;rintro e w2 ⟨rfl,D⟩;have d:=zaa (zad D u KR.o);have K:=zaa (S.o.below D);have U:=zaa (O.o.trans (Y:=[]) (ButL.of_below D) O.o.size (by simp));clear D;obtain⟨⟨y0,y1,y2⟩,yf⟩:=zbo d.o;go_wp2;exact zbe HE.o d.o K.o U.o y A8 fun W u0 u1 u2=>by simp[results,results86,go_sem,u0,u1,u2]
 ·have i:decide (0<j.steps.length)=false:=by simpa using hs
  have s:j.steps=[]:=List.eq_nil_of_length_eq_zero (by omega);rw[i];clear hs i;obtain⟨_,da,dc,db,dd,na,nc,nb,nd,ne,nf,sa,sc,sb,sd,se,sf,q,n,fa,fc,ta,tc,h1,hr⟩:=id S.o;have D5:w'.cell? ⟨B,51,none⟩=some (.slice q j.done.length n):=zak h1 51;have C3:Hid (w'.cell? ⟨B,3,none⟩=some (.int .i64 j.rh)):=zak h1 3;have C5:Hid (w'.cell? ⟨B,5,none⟩=some (.int .i64 j.last)):=zak h1 5;have C8:Hid (w'.cell? ⟨B,51,none⟩=some (.slice q j.done.length n)):=zak h1 51;have D4:=zaa hr.2.2.2.1;clear h1 hr;by_cases hd:j.done=[]
  ·have HE:Hid (zfz j=(j,zaq 4)):=by rw[Hid,zfz,if_neg (by simp[s]),if_pos hd]
   have hl:j.done.length=0:=by rw[hd];rfl
   clear hd s;go_wp2_with fail;refine(zat 4 _).mono ?_;rintro e w2 ⟨rfl,D⟩;have d:=zaa (zad D u KR.o);have K:=zaa (S.o.below D);have U:=zaa (O.o.trans (Y:=[]) (ButL.of_below D) O.o.size (by simp));clear D;obtain⟨⟨y0,y1,y2⟩,yf⟩:=zbo d.o;go_wp2;exact zbe HE.o d.o K.o U.o y A8 fun W u0 u1 u2=>by simp[results,results86,go_sem,u0,u1,u2]
  ·have HE:Hid (zfz j=((zdy j 7 (newestL j.done) j.rh (j.last+1)).1,zaq (zdy j 7 (newestL j.done) j.rh (j.last+1)).2)):=by rw[Hid,zfz,if_neg (by simp[s]),if_neg hd]
   have hl:((j.done.length:Int)==0)=false:=by
    have:=mt List.eq_nil_of_length_eq_zero hd;simp only[beq_eq_false_iff_ne];omega
   clear hd s;go_wp2;rename_i KK A5;clear D5 hl;obtain⟨F,C0⟩:∃F,F=w':=⟨_,rfl⟩;rw[←C0];subst C0
   have A6:∀(g:Nat→Value) (W3:World) (E:Int),E=(zdy j 7 (newestL j.done) j.rh (j.last+1)).2→JAt W3 B (w.heap.size::X) (zdy j 7 (newestL j.done) j.rh (j.last+1)).1→ButL [B] F.heap.size F W3→W3.heap[w.heap.size]?=some (.cells #[.int .i64 0,.int .i64 0,.string ⟨#[]⟩] 31 (0,0))→KK ⟨#[.pointer (some ⟨B,0,none⟩),g 1,.pointer (some ⟨w.heap.size,0,none⟩),g 3,g 4,g 5,g 6,g 7,g 8,g 9,g 10,g 11,g 12,g 13,g 14,g 15,g 16,g 17,g 18,g 19,g 20,g 21,g 22,g 23,g 24,g 25,g 26,g 27,g 28,g 29,g 30,g 31,g 32],[]⟩ (((W3.setCell ⟨w.heap.size,0,none⟩ (.int .i64 E)).setCell ⟨w.heap.size,1,none⟩ (.int .i64 0)).setCell ⟨w.heap.size,2,none⟩ (.string ⟨#[]⟩)):=by
    intro g W3 E hE hJ B5 hK;apply A5;clear A5;have K:=zaa hJ;have U:=zaa (O.o.trans (Y:=[B]) B5 O.o.size (by simp));obtain⟨W,hW⟩:∃W,W=(((W3.setCell ⟨w.heap.size,0,none⟩ (.int .i64 E)).setCell ⟨w.heap.size,1,none⟩ (.int .i64 0)).setCell ⟨w.heap.size,2,none⟩ (.string ⟨#[]⟩)):=⟨_,rfl⟩;have hX:=zgf hK (.int .i64 E) (.int .i64 0) (.string ⟨#[]⟩);rw[←hW]at hX⊢;have B0:=zaa hW;have D3:=zaa hE;clear hW hE hK hJ B5;go_wp2;obtain⟨⟨u0,u1,u2⟩,_⟩:=zbo hX;refine bodyPost_ret (v:=.agg #[.int .i64 E,.int .i64 0,.string ⟨#[]⟩]) (by simp[results,results86,go_sem,u0,u1,u2]) rfl ⟨by rw[HE.o,D3.o];rfl,?_,?_⟩
    ·rw[HE.o,B0.o];exact zw4 K.o y A8 _ _ _
    ·rw[B0.o];exact((U.o.set (.inr (by omega)) 0 _).set (.inr (by omega)) 1 _).set (.inr (by omega)) 2 _
   have A9:=zaa A6;clear A6 A5;have K:=S;have A2:B<F.heap.size:=by omega
   have hwp:=C6.o
   have D1:Hid (∀x∈w.heap.size::X,x<F.heap.size):=fun x hx=>by
    rcases List.mem_cons.1 hx with rfl|hx
    ·exact u
    ·have:=HX.o x hx;omega
   refine(show∀A0:Act,A0=_→Code.wp prog _ _ A0 _ from fun A0 hA0=>?_) _ rfl;have C:A0.tmps.size=33:=by rw[hA0];rfl
   have C7:A0.defers=[]:=by rw[hA0]
   have v0:A0.eval (.tmp 0)=.pointer (some ⟨B,0,none⟩):=by rw[hA0];rfl
   have v2:A0.eval (.tmp 2)=.pointer (some ⟨w.heap.size,0,none⟩):=by rw[hA0];rfl
   clear hA0;refine zbi 16 (fun w'=>Below F.heap.size F w') [15,16,17,18,19,20,21,22,23,24,25,26,27,28,29,30] (zvd B q n j) (by kernel_rfl) (by kernel_rfl) (by kernel_rfl) (by kernel_rfl) (by decide) ((Below.refl _ _).drew) ⟨?_,?_,?_,?_,?_,?_,?_,?_,?_,?_,?_,?_,?_,?_,?_,?_,trivial⟩ ?_
   ·exact zbh v0 C (fun _=>rfl) fun ρ w' A z=>by simp only[execOp];go_simp
   ·exact zbh v0 C (fun _=>rfl) fun ρ w' A z=>by simp only[execOp];go_simp
   ·exact zam 1 16 C (fun _ _ h=>h) (fun _=>rfl) fun ρ w' A p=>by simp only[execOp];go_simp
   ·exact zam 2 17 C (fun _ _ h=>h) (fun _=>rfl) fun ρ w' A p=>by simp only[execOp];go_simp
   ·exact zam 3 18 C (fun _ _ h=>h) (fun _=>rfl) fun ρ w' A p=>by have c0:w'.cell? ⟨B,51,none⟩=some (.slice q j.done.length n):=zac A A2 C8.o;simp only[execOp];go_simp
   ·intro a w' b A Z;have B6:a.eval (.tmp 19)=.slice q j.done.length n:=Z ⟨4,.data⟩ (by simp) rfl;refine zby 126 #[.slice q j.done.length n] rfl rfl (by have R:=Act.eval_func a 126;revert B6 R;generalize a.eval=ρ;intro B6 R;simp only[execOp];go_simp) _ (zmc q n j.done _ ((D4.o.ext (Ext.seenL F (w.heap.size::X))).below A) hN) ?_;rintro e w2 ⟨v7,rfl,C9,B9⟩;obtain⟨r,yc,rfl,A4,_⟩:=SegC.of_owns C9;refine⟨_,rfl,_,rfl,zae A B9,?_,zry B9⟩;show zvd _ _ _ _ _ ((a.put (some 20) _).eval (.tmp 20)) w2;rw[zax b C (by decide)];exact⟨r,yc,rfl,A4⟩
   ·exact zbh v0 C (fun _=>rfl) fun ρ w' A z=>by simp only[execOp];go_simp
   ·exact zam 6 21 C (fun _ _ h=>h) (fun _=>rfl) fun ρ w' A p=>by simp only[execOp];go_simp
   ·exact zam 7 22 C (fun _ _ h=>h) (fun _=>rfl) fun ρ w' A p=>by simp only[execOp];go_simp
   ·exact zam 8 23 C (fun _ _ h=>h) (fun _=>rfl) fun ρ w' A p=>by simp only[execOp];go_simp
   ·exact zam 9 24 C (fun _ _ h=>h) (fun _=>rfl) fun ρ w' A p=>by have c0:w'.cell? ⟨B,3,none⟩=some (.int .i64 j.rh):=zac A A2 C3.o;simp only[execOp];go_simp
   ·exact zbh v0 C (fun _=>rfl) fun ρ w' A z=>by simp only[execOp];go_simp
   ·exact zam 11 26 C (fun _ _ h=>h) (fun _=>rfl) fun ρ w' A p=>by simp only[execOp];go_simp
   ·exact zam 12 27 C (fun _ _ h=>h) (fun _=>rfl) fun ρ w' A p=>by simp only[execOp];go_simp
   ·exact zam 13 28 C (fun _ _ h=>h) (fun _=>rfl) fun ρ w' A p=>by have c0:w'.cell? ⟨B,5,none⟩=some (.int .i64 j.last):=zac A A2 C5.o;simp only[execOp];go_simp
   ·intro a w' b A Z;have p29:a.eval (.tmp 29)=.int .i64 j.last:=Z ⟨14,.data⟩ (by simp) rfl;exact zf6 _ rfl rfl (by have c:=Act.eval_const a (.int .i64 1);revert p29 c;generalize a.eval=ρ;intro p29 c;simp only[execOp];go_simp) b C A rfl
   ·intro a W b A Z;have B7:a.eval (.tmp 15)=.pointer (some ⟨B,0,none⟩):=Z 0 (by decide);obtain⟨r,yc,B2,A4⟩:∃r yc,a.eval (.tmp 20)=.slice r (newestL j.done).length yc∧SegW W r (newestL j.done):=Z 5 (by decide);have p25:a.eval (.tmp 25)=.int .i64 j.rh:=Z 10 (by decide);have p30:a.eval (.tmp 30)=.int .i64 (j.last+1):=Z 15 (by decide);show wpOps prog _ _ [16,17,18] a W;rw[wpOps_cons];refine zby 77 #[.pointer (some ⟨B,0,none⟩),.int .i64 7,.slice r (newestL j.done).length yc,.int .i64 j.rh,.int .i64 (j.last+1)] rfl rfl (by have R:=Act.eval_func a 77;have c:=Act.eval_const a (.int .i64 7);revert B7 B2 p25 p30 R c;generalize a.eval=ρ;intro B7 B2 p25 p30 R c;simp only[execOp];go_simp) _ (zq5 B (w.heap.size::X) j W (K.o.below A) (fun x hx=>Nat.lt_of_lt_of_le (D1.o x hx) (by have:=A.size;omega)) 7 r yc (newestL j.done) A4 (by have:=zeu (newestF j.done) 12;unfold newestL;omega) j.rh (j.last+1)) ?_;rintro e w5 ⟨rfl,D2,D6⟩;refine⟨_,rfl,?_⟩;rw[wpOps_cons];have B3:a.tmps.size=33:=b.size.trans C;obtain⟨E,B1⟩:∃E,E=(zdy j 7 (newestL j.done) j.rh (j.last+1)).2:=⟨_,rfl⟩;obtain⟨L,M⟩:∃L,L=a.put (some 31) (.int .i64 E):=⟨_,rfl⟩;have B4:L.eval (.tmp 31)=.int .i64 E:=by rw[M];exact Act.eval_put_same _ _ _ (by rw[B3];decide)
    have A1:L.tmps.size=33:=by rw[M,Act.size_put];exact B3
    have C4:L.defers=[]:=by rw[M,Act.defers_put'];exact b.defers.trans C7
    have o0:L.eval (.tmp 0)=.pointer (some ⟨B,0,none⟩):=by rw[M,Act.eval_put_ne _ _ _ _ (by decide)];exact(b.other 0 rfl).trans v0
    have o2:L.eval (.tmp 2)=.pointer (some ⟨w.heap.size,0,none⟩):=by rw[M,Act.eval_put_ne _ _ _ _ (by decide)];exact(b.other 2 rfl).trans v2
    rw[←B1];show wpOp prog _ _ _ _ (a.put (some 31) (.int .i64 E)) w5;rw[←M];clear M;refine zby 43 #[.int .i64 E] rfl rfl (by have R:=Act.eval_func L 43;revert B4 R;generalize L.eval=ρ;intro B4 R;simp only[execOp];go_simp) _ (zat E w5) ?_;rintro e w6 ⟨rfl,A3⟩;refine⟨_,rfl,?_⟩;rw[wpOps_cons];obtain⟨I,J⟩:∃I,I=L.put (some 32) (.agg #[.int .i64 E,.int .i64 0,.string ⟨#[]⟩]):=⟨_,rfl⟩;have B8:I.eval (.tmp 32)=.agg #[.int .i64 E,.int .i64 0,.string ⟨#[]⟩]:=by rw[J];exact Act.eval_put_same _ _ _ (by rw[A1];decide)
    have f0:I.eval (.tmp 0)=.pointer (some ⟨B,0,none⟩):=by rw[J,Act.eval_put_ne _ _ _ _ (by decide)];exact o0
    have f2:I.eval (.tmp 2)=.pointer (some ⟨w.heap.size,0,none⟩):=by rw[J,Act.eval_put_ne _ _ _ _ (by decide)];exact o2
    have C1:I.tmps.size=33:=by rw[J,Act.size_put];exact A1
    have C2:I.defers=[]:=by rw[J,Act.defers_put'];exact C4
    show wpOp prog _ _ _ _ (L.put (some 32) (.agg #[.int .i64 E,.int .i64 0,.string ⟨#[]⟩])) w6;rw[←J];clear J;have Q:ButL [B] F.heap.size F w5:=(ButL.of_below A).trans (Y:=[B]) D6 A.size (by simp);have D8:F.heap.size≤w5.heap.size:=Q.size;have A7:=zad A3 (show w.heap.size<w5.heap.size by omega) ((Q.block _ u (by simpa using y)).trans KR.o);obtain⟨⟨y0,y1,y2⟩,yf⟩:=zbo A7;refine zcw rfl rfl (w':=(((w6.setCell ⟨w.heap.size,0,none⟩ (.int .i64 E)).setCell ⟨w.heap.size,1,none⟩ (.int .i64 0)).setCell ⟨w.heap.size,2,none⟩ (.string ⟨#[]⟩))) (by revert B8 f2;generalize I.eval=ρ;intro B8 f2;simp only[execOp];go_simp) ?_;have m:I=⟨#[_,_,_,_,_,_,_,_,_,_,_,_,_,_,_,_,_,_,_,_,_,_,_,_,_,_,_,_,_,_,_,_,_],[]⟩:=zci I 33 C1 C2;dsimp only at m;rw[f0,f2]at m;show KK I _;refine(congrArg (fun x=>KK x _) m).mpr (A9.o (fun k=>I.eval (.tmp k)) w6 E B1 (D2.below A3) (Q.trans (Y:=[]) (ButL.of_below A3) Q.size (by simp)) A7)
def zgl (B:Nat)(D:Nat)(j:Jn)(ac:Ac)(X:List Nat)(na:Option Addr)(nc:Nat)(nb:Option Addr)(nd:Nat)(ne:Option Addr)(nf:Nat):Nat→Value→Value→World→Prop
 |0,v,_,_=>v=.pointer (some ⟨B,0,none⟩)
 |1,v,_,_=>v=.pointer (some ⟨B,0,none⟩)
 |2,v,_,_=>v=.pointer (some ⟨B,31,none⟩)
 |3,v,_,_=>v=.agg #[.int .i64 j.now.seq,.slice na j.now.info.length nc,.slice nb j.now.data.length nd,.slice ne j.now.rev.length nf,.bool j.now.h0.on,.int .i64 j.now.h0.left,.bool j.now.h1.on,.int .i64 j.now.h1.left,.bool j.now.h2.on,.int .i64 j.now.h2.left]
 |4,v,_,_=>v=.pointer (some ⟨D,1,none⟩)
 |5,v,_,_=>v=.int .i64 ac.h
 |6,v,_,_=>v=.pointer (some ⟨D,2,none⟩)
 |7,v,_,_=>v=.int .i64 ac.b
 |8,v,_,_=>v=.pointer (some ⟨D,4,none⟩)
 |9,v,_,_=>v=.string ac.text
 |10,v,_,_=>v=.string (fitT ac.text)
 |11,v,u,w=>∃v2,v=.tuple #[v2,.int .i64 (changeE j.now ac.h ac.b (fitT ac.text))]∧okTx X (zaf j.now ac.h ac.b (fitT ac.text)) v2 u w
 |12,v,u,w=>∃v2,v=.tuple #[v2,.int .i64 (changeE j.now ac.h ac.b (fitT ac.text))]∧okTx X (zaf j.now ac.h ac.b (fitT ac.text)) v2 u w
 |13,v,u,w=>okTx X (zaf j.now ac.h ac.b (fitT ac.text)) v u w
 |14,v,_,_=>v=.int .i64 (changeE j.now ac.h ac.b (fitT ac.text))
 |15,v,_,_=>∃T,v=.pointer (some ⟨T,0,none⟩)
 |16,v,_,w=>∃T ua uc ub ud ue uf,v=.pointer (some ⟨T,0,none⟩)∧w.heap[T]?=some (.cells #[.int .i64 (zaf j.now ac.h ac.b (fitT ac.text)).seq,.slice ua (zaf j.now ac.h ac.b (fitT ac.text)).info.length uc,.slice ub (zaf j.now ac.h ac.b (fitT ac.text)).data.length ud,.slice ue (zaf j.now ac.h ac.b (fitT ac.text)).rev.length uf,.bool (zaf j.now ac.h ac.b (fitT ac.text)).h0.on,.int .i64 (zaf j.now ac.h ac.b (fitT ac.text)).h0.left,.bool (zaf j.now ac.h ac.b (fitT ac.text)).h1.on,.int .i64 (zaf j.now ac.h ac.b (fitT ac.text)).h1.left,.bool (zaf j.now ac.h ac.b (fitT ac.text)).h2.on,.int .i64 (zaf j.now ac.h ac.b (fitT ac.text)).h2.left] 40 (0,0))∧IsTx (zas w (T::X)) (.agg #[.int .i64 (zaf j.now ac.h ac.b (fitT ac.text)).seq,.slice ua (zaf j.now ac.h ac.b (fitT ac.text)).info.length uc,.slice ub (zaf j.now ac.h ac.b (fitT ac.text)).data.length ud,.slice ue (zaf j.now ac.h ac.b (fitT ac.text)).rev.length uf,.bool (zaf j.now ac.h ac.b (fitT ac.text)).h0.on,.int .i64 (zaf j.now ac.h ac.b (fitT ac.text)).h0.left,.bool (zaf j.now ac.h ac.b (fitT ac.text)).h1.on,.int .i64 (zaf j.now ac.h ac.b (fitT ac.text)).h1.left,.bool (zaf j.now ac.h ac.b (fitT ac.text)).h2.on,.int .i64 (zaf j.now ac.h ac.b (fitT ac.text)).h2.left]) (zaf j.now ac.h ac.b (fitT ac.text))∧RoomTx (.agg #[.int .i64 (zaf j.now ac.h ac.b (fitT ac.text)).seq,.slice ua (zaf j.now ac.h ac.b (fitT ac.text)).info.length uc,.slice ub (zaf j.now ac.h ac.b (fitT ac.text)).data.length ud,.slice ue (zaf j.now ac.h ac.b (fitT ac.text)).rev.length uf,.bool (zaf j.now ac.h ac.b (fitT ac.text)).h0.on,.int .i64 (zaf j.now ac.h ac.b (fitT ac.text)).h0.left,.bool (zaf j.now ac.h ac.b (fitT ac.text)).h1.on,.int .i64 (zaf j.now ac.h ac.b (fitT ac.text)).h1.left,.bool (zaf j.now ac.h ac.b (fitT ac.text)).h2.on,.int .i64 (zaf j.now ac.h ac.b (fitT ac.text)).h2.left])
 |_,_,_,_=>True
theorem zmf{B:Nat}{D:Nat}{j:Jn}{ac:Ac}{X:List Nat}{na:Option Addr}{nc:Nat}{nb:Option Addr}{nd:Nat}{ne:Option Addr}{nf:Nat}{u:Value}{w w':World}(hb:Below w.heap.size w w'):∀kk x,zgl B D j ac X na nc nb nd ne nf kk x u w→zgl B D j ac X na nc nb nd ne nf kk x u w':=by
 intro kk x h
 match kk,h with
 |0,h|1,h|2,h|3,h|4,h|5,h|6,h|7,h|8,h|9,h|10,h=>exact h
 |11,⟨v2,h1,h2⟩=>exact⟨v2,h1,h2.below hb⟩
 |12,⟨v2,h1,h2⟩=>exact⟨v2,h1,h2.below hb⟩
 |13,h=>exact h.below hb
 |14,h|15,h=>exact h
 |16,⟨T,ua,uc,ub,ud,ue,uf,h1,h2,h3,h4⟩=>exact⟨T,ua,uc,ub,ud,ue,uf,h1,zad hb (Array.getElem?_eq_some_iff.1 h2).1 h2,h3.ext (Ext.freshL hb),h4⟩
 |_+17,_=>exact trivial
theorem zt8{B:Nat}{D:Nat}{j:Jn}{ac:Ac}{X:List Nat}{na:Option Addr}{nc:Nat}{nb:Option Addr}{nd:Nat}{ne:Option Addr}{nf:Nat}{u:Value}{w:World}(o:Obj):∀kk x,zgl B D j ac X na nc nb nd ne nf kk x u w→zgl B D j ac X na nc nb nd ne nf kk x (.pointer (some ⟨w.heap.size,0,none⟩)) (w.alloc o):=by
 intro kk x h
 match kk,h with
 |0,h|1,h|2,h|3,h|4,h|5,h|6,h|7,h|8,h|9,h|10,h=>exact h
 |11,⟨v2,h1,h2⟩=>exact⟨v2,h1,h2.alloc o⟩
 |12,⟨v2,h1,h2⟩=>exact⟨v2,h1,h2.alloc o⟩
 |13,h=>exact h.alloc o
 |14,h|15,h=>exact h
 |16,⟨T,ua,uc,ub,ud,ue,uf,h1,h2,h3,h4⟩=>exact⟨T,ua,uc,ub,ud,ue,uf,h1,zad (zab _ _) (Array.getElem?_eq_some_iff.1 h2).1 h2,h3.ext (Ext.freshL (zab _ _)),h4⟩
 |_+17,_=>exact trivial
theorem zt9{B:Nat}{D:Nat}{j:Jn}{ac:Ac}{X:List Nat}{na:Option Addr}{nc:Nat}{nb:Option Addr}{nd:Nat}{ne:Option Addr}{nf:Nat}{u:Value}{w w':World}(hs:∀t x,okTx X t x u w→okTx X t x u w'):∀kk x,kk≠16→zgl B D j ac X na nc nb nd ne nf kk x u w→zgl B D j ac X na nc nb nd ne nf kk x u w':=by
 intro kk x A h
 match kk,h with
 |0,h|1,h|2,h|3,h|4,h|5,h|6,h|7,h|8,h|9,h|10,h=>exact h
 |11,⟨y,h1,h2⟩=>exact⟨y,h1,hs _ _ h2⟩
 |12,⟨y,h1,h2⟩=>exact⟨y,h1,hs _ _ h2⟩
 |13,h=>exact hs _ _ h
 |14,h|15,h=>exact h
 |16,_=>exact absurd rfl A
 |_+17,_=>exact trivial
theorem zxz(B:Nat)(X:List Nat)(j:Jn)(w:World)(h:JAt w B X j)(hX:∀x∈X,x<w.heap.size)(ac:Ac)(hsz2:ac.text.size≤maxLen)(r1:j.now.info.length*24≤140737488355328)(r2:j.now.data.length*24≤140737488355328):
  Calls prog 82 #[.pointer (some ⟨B,0,none⟩),.agg #[.int .i64 ac.kind,.int .i64 ac.h,.int .i64 ac.b,.int .i64 ac.n,.string ac.text]] w (zdj w B X (zg9 j ac)):=by
 have HJ:=zaa h;have J1:=h.lt;have B3:=h.1;have HX:=zaa hX;clear h hX;go_enter func82,ntmps82;go_wp2;rename_i KK B8;obtain⟨D,u⟩:∃D,D=(w.alloc (.cells #[.int .i64 ac.kind,.int .i64 ac.h,.int .i64 ac.b,.int .i64 ac.n,.string ac.text] 23)).alloc (.cells #[.int .i64 0,.int .i64 0,.string ⟨#[]⟩] 31):=⟨_,rfl⟩;have F0:(w.alloc (.cells #[.int .i64 ac.kind,.int .i64 ac.h,.int .i64 ac.b,.int .i64 ac.n,.string ac.text] 23)).heap.size=w.heap.size+1:=by simp
 have l:Hid (JAt D B ((w.heap.size+1)::X) j):=by rw[u];exact(HJ.o.below (zab _ _)).more (zab _ _) (by omega)
 have q:Hid (Below w.heap.size w D):=by rw[u];exact zae (zab _ _) (zab _ _)
 have K:Hid (D.heap[w.heap.size+1]?=some (.cells #[.int .i64 0,.int .i64 0,.string ⟨#[]⟩] 31 (0,0))):=by rw[u,←F0];exact heap_alloc_new _ _
 have B5:Hid (D.heap[w.heap.size]?=some (.cells #[.int .i64 ac.kind,.int .i64 ac.h,.int .i64 ac.b,.int .i64 ac.n,.string ac.text] 23 (0,0))):=by rw[u];exact zad (zab _ _) (by omega) (heap_alloc_new _ _)
 have I7:D.heap.size=w.heap.size+2:=by rw[u];simp
 have H9:Hid (∀x∈((w.heap.size+1)::X),x<D.heap.size):=fun x hx=>by
  rcases List.mem_cons.1 hx with rfl|hx
  ·omega
  ·have:=HX.o x hx;omega
 rw[←u];clear u F0;have N:B<D.heap.size:=by omega
 have B4:w.heap.size<D.heap.size:=by omega
 have B9:∀(g:Nat→Value) (m:World) (T:Nat) (Z:Option Addr) (U:Nat) (O:Option Addr) (d:Nat) (Q:Option Addr) (c:Nat),IsTx (zas m (T::((w.heap.size+1)::X))) (.agg #[.int .i64 (zaf j.now ac.h ac.b (fitT ac.text)).seq,.slice Z (zaf j.now ac.h ac.b (fitT ac.text)).info.length U,.slice O (zaf j.now ac.h ac.b (fitT ac.text)).data.length d,.slice Q (zaf j.now ac.h ac.b (fitT ac.text)).rev.length c,.bool (zaf j.now ac.h ac.b (fitT ac.text)).h0.on,.int .i64 (zaf j.now ac.h ac.b (fitT ac.text)).h0.left,.bool (zaf j.now ac.h ac.b (fitT ac.text)).h1.on,.int .i64 (zaf j.now ac.h ac.b (fitT ac.text)).h1.left,.bool (zaf j.now ac.h ac.b (fitT ac.text)).h2.on,.int .i64 (zaf j.now ac.h ac.b (fitT ac.text)).h2.left]) (zaf j.now ac.h ac.b (fitT ac.text))→RoomTx (.agg #[.int .i64 (zaf j.now ac.h ac.b (fitT ac.text)).seq,.slice Z (zaf j.now ac.h ac.b (fitT ac.text)).info.length U,.slice O (zaf j.now ac.h ac.b (fitT ac.text)).data.length d,.slice Q (zaf j.now ac.h ac.b (fitT ac.text)).rev.length c,.bool (zaf j.now ac.h ac.b (fitT ac.text)).h0.on,.int .i64 (zaf j.now ac.h ac.b (fitT ac.text)).h0.left,.bool (zaf j.now ac.h ac.b (fitT ac.text)).h1.on,.int .i64 (zaf j.now ac.h ac.b (fitT ac.text)).h1.left,.bool (zaf j.now ac.h ac.b (fitT ac.text)).h2.on,.int .i64 (zaf j.now ac.h ac.b (fitT ac.text)).h2.left])→m.heap[T]?=some (.cells #[.int .i64 (zaf j.now ac.h ac.b (fitT ac.text)).seq,.slice Z (zaf j.now ac.h ac.b (fitT ac.text)).info.length U,.slice O (zaf j.now ac.h ac.b (fitT ac.text)).data.length d,.slice Q (zaf j.now ac.h ac.b (fitT ac.text)).rev.length c,.bool (zaf j.now ac.h ac.b (fitT ac.text)).h0.on,.int .i64 (zaf j.now ac.h ac.b (fitT ac.text)).h0.left,.bool (zaf j.now ac.h ac.b (fitT ac.text)).h1.on,.int .i64 (zaf j.now ac.h ac.b (fitT ac.text)).h1.left,.bool (zaf j.now ac.h ac.b (fitT ac.text)).h2.on,.int .i64 (zaf j.now ac.h ac.b (fitT ac.text)).h2.left] 40 (0,0))→D.heap.size≤T→Below D.heap.size D m→KK ⟨#[.pointer (some ⟨B,0,none⟩),g 1,g 2,.pointer (some ⟨w.heap.size,0,none⟩),.pointer (some ⟨w.heap.size+1,0,none⟩),.pointer (some ⟨T,0,none⟩),.int .i64 (changeE j.now ac.h ac.b (fitT ac.text)),g 7,g 8,g 9,g 10,g 11,g 12,g 13,g 14,g 15,g 16,g 17,g 18,g 19,g 20,g 21,g 22,g 23,g 24,g 25,g 26,g 27,g 28,g 29,g 30,g 31,g 32,g 33,g 34,g 35,g 36,g 37,g 38,g 39,g 40,g 41,g 42,g 43,g 44],[]⟩ m:=by
  intro g m T Z U O d Q c r A5 i B0 A7;apply B8;clear B8;have C1:=zaa (r.ext (Ext.lessL T));have F8:=zaa A5;have KT:=zaa i;have B6:=zaa (l.o.below A7);have B7:=zaa (zae q.o A7);have D4:=zaa (zad A7 (show w.heap.size+1<D.heap.size by omega) K.o);have C4:=zaa (zad A7 B4 B5.o);have J3:D.heap.size≤m.heap.size:=A7.size;have G9:T<m.heap.size:=(Array.getElem?_eq_some_iff.1 i).1;clear r A5 i A7 l q K B5;obtain⟨t,ht⟩:∃t,t=zaf j.now ac.h ac.b (fitT ac.text):=⟨_,rfl⟩;rw[←ht]at C1 F8 KT;have A8:w.heap.size+1≠B:=by omega
  by_cases he:changeE j.now ac.h ac.b (fitT ac.text)=0
  ·obtain⟨H8,H5⟩:=zri he;obtain⟨R,D5⟩:∃R:Nat,ac.b=(R:Int):=⟨ac.b.toNat,by omega⟩;have C6:R<12:=by omega
   have HW:Hid (zg9 j ac=if j.role R=2 then(j,zaq 8) else({j with role:=upd j.role R 1,now:=t},zaq 0)):=by
    rw[Hid,zg9,if_pos he,←ht,D5,Int.toNat_natCast]
   rw[he];rw[D5]at C4;clear he ht D5 H8 H5;obtain⟨⟨y0,y1,y2,y3,y4⟩,yf⟩:=zjn C4.o;have I6:(0:Int)≤(R:Int):=by omega
   have I4:(R:Int)<12:=by omega
   go_wp2
   go_quiet (fail)
   obtain⟨W5,D1⟩:∃W5,W5=m.drewN nq:=⟨_,rfl⟩;have A6:Below m.heap.size m W5:=by rw[D1];exact below_drewN (Below.refl _ _) _
   have B2:=zaa (B6.o.below A6);have C5:Hid (ButL [B] w.heap.size w W5):=ButL.of_below (zae B7.o A6);have D2:=zaa (zad A6 (show w.heap.size+1<m.heap.size by omega) D4.o);have F9:=zaa (zad A6 G9 KT.o);have C3:=zaa (C1.o.ext (Ext.freshL A6));have I8:m.heap.size≤W5.heap.size:=A6.size;rw[←D1];clear D1 A6 y0 y1 y2 y3 y4 yf B6 B7 D4 KT C1 C4;obtain⟨E9,_,I0,_⟩:=B2.o.role R C6;by_cases hro:j.role R=2
   ·have HE:Hid (zg9 j ac=(j,zaq 8)):=by rw[Hid,HW.o,if_pos hro]
    rw[hro]at E9;clear hro HW;go_wp2_with fail;have C8:=B2;have A9:=C5;have KR:=D2;have D3:w.heap.size+1<W5.heap.size:=by omega
    refine(zat 8 _).mono ?_;rintro e s ⟨rfl,J⟩;have K:=zaa (zad J D3 KR.o);have l:=zaa (C8.o.below J);have q:=zaa (A9.o.trans (Y:=[]) (ButL.of_below J) A9.o.size (by simp));clear J;obtain⟨⟨y0,y1,y2⟩,yf⟩:=zbo K.o;go_wp2;exact zbe HE.o K.o l.o q.o A8 B3 fun W u0 u1 u2=>by simp[results,results82,go_sem,u0,u1,u2]
   ·have HE:Hid (zg9 j ac=({j with role:=upd j.role R 1,now:=t},zaq 0)):=by rw[Hid,HW.o,if_neg hro]
    have I5:(j.role R==2)=false:=by simpa using hro
    clear hro HW;obtain⟨⟨t0,t1,t2,t3,t4,t5,t6,t7,t8,t9⟩,tf⟩:=zaj F9.o;have I9:¬T=B:=by omega
    have J2:¬B=T:=by omega
    go_wp2_with fail;obtain⟨W6,y⟩:∃W6,W6=W5.setCell ⟨B,7+R*2,none⟩ (.int .i64 1):=⟨_,rfl⟩;have G5:Hid (JAt W6 B ((w.heap.size+1)::X) {j with role:=upd j.role R 1}):=by rw[y];exact B2.o.putRole R C6 1
    have C2:Hid (IsTx (zas W6 ((w.heap.size+1)::X)) (.agg #[.int .i64 t.seq,.slice Z t.info.length U,.slice O t.data.length d,.slice Q t.rev.length c,.bool t.h0.on,.int .i64 t.h0.left,.bool t.h1.on,.int .i64 t.h1.left,.bool t.h2.on,.int .i64 t.h2.left]) t):=by rw[y];exact C3.o.ext (Ext.setL (by simp[B3]) _ _)
    have C9:Hid (ButL [B] w.heap.size w W6):=by rw[y];exact C5.o.set (.inl (by simp)) _ _
    have E5:Hid (W6.heap[w.heap.size+1]?=some (.cells #[.int .i64 0,.int .i64 0,.string ⟨#[]⟩] 31 (0,0))):=by rw[y];exact(Below.heap_setCell _ _ _ _ A8).trans D2.o
    have J4:W6.heap.size=W5.heap.size:=by rw[y];simp[World.setCell]
    rw[←y];clear y E9 I0 t0 t1 t2 t3 t4 t5 t6 t7 t8 t9 tf B2 C3 C5 D2 F9;refine(zji B ((w.heap.size+1)::X) _ W6 G5.o t Z U O d Q c C2.o F8.o 0).mono ?_;rintro e s ⟨rfl,F3,C7⟩;have l:Hid (JAt s B ((w.heap.size+1)::X) {j with role:=upd j.role R 1,now:=t}):=F3;have q:=zaa (C9.o.trans (Y:=[B]) C7 C9.o.size (by simp));have K:=zaa ((C7.block _ (show w.heap.size+1<W6.heap.size by omega) (by simpa using A8)).trans E5.o);clear F3 C7 G5 C9 E5 C2;dsimp only[zls,vRp,zaq];obtain⟨⟨y0,y1,y2⟩,yf⟩:=zbo K.o;go_wp2;exact zbe HE.o K.o l.o q.o A8 B3 fun W u0 u1 u2=>by simp[results,results82,go_sem,u0,u1,u2]
  ·have HE:Hid (zg9 j ac=(j,zaq (changeE j.now ac.h ac.b (fitT ac.text)))):=by rw[Hid,zg9,if_neg he]
   have J0:(changeE j.now ac.h ac.b (fitT ac.text) !=0)=true:=by simpa using he
   clear he ht;generalize changeE j.now ac.h ac.b (fitT ac.text)=E at *;go_wp2_with fail;have C8:=B6;have A9:Hid (ButL [B] w.heap.size w m):=ButL.of_below B7.o;have KR:=D4;have D3:w.heap.size+1<m.heap.size:=by omega
   refine(zat E _).mono ?_;rintro e s ⟨rfl,J⟩;have K:=zaa (zad J D3 KR.o);have l:=zaa (C8.o.below J);have q:=zaa (A9.o.trans (Y:=[]) (ButL.of_below J) A9.o.size (by simp));clear J;obtain⟨⟨y0,y1,y2⟩,yf⟩:=zbo K.o;go_wp2;exact zbe HE.o K.o l.o q.o A8 B3 fun W u0 u1 u2=>by simp[results,results82,go_sem,u0,u1,u2]
 have D6:=zaa B9;clear B9 B8;obtain⟨_,da,dc,db,dd,na,nc,nb,nd,ne,nf,sa,sc,sb,sd,se,sf,ca,cc,fa,fc,ta,tc,z,hr⟩:=id l.o;have E1:D.cell? ⟨B,31,none⟩=some (.int .i64 j.now.seq):=zak z 31;have F4:D.cell? ⟨B,32,none⟩=some (.slice na j.now.info.length nc):=zak z 32;have G1:D.cell? ⟨B,33,none⟩=some (.slice nb j.now.data.length nd):=zak z 33;have D9:D.cell? ⟨B,34,none⟩=some (.slice ne j.now.rev.length nf):=zak z 34;have G4:D.cell? ⟨B,35,none⟩=some (.bool j.now.h0.on):=zak z 35;have F1:D.cell? ⟨B,36,none⟩=some (.int .i64 j.now.h0.left):=zak z 36;have D8:D.cell? ⟨B,37,none⟩=some (.bool j.now.h1.on):=zak z 37;have F6:D.cell? ⟨B,38,none⟩=some (.int .i64 j.now.h1.left):=zak z 38;have F5:D.cell? ⟨B,39,none⟩=some (.bool j.now.h2.on):=zak z 39;have G3:D.cell? ⟨B,40,none⟩=some (.int .i64 j.now.h2.left):=zak z 40;have H4:=zaa E1;have H0:=zaa F4;have H7:=zaa G1;have H6:=zaa D9;have I1:=zaa G4;have I3:=zaa F1;have G6:=zaa D8;have H3:=zaa F6;have I2:=zaa F5;have G8:=zaa G3;have E4:=zaa hr.2.1;have H2:=zaa hr.2.2.2.2.2.2.1;clear z hr E1 F4 G1 D9 G4 F1 D8 F6 F5 G3;obtain⟨⟨y0,y1,y2,y3,y4⟩,_⟩:=zjn B5.o;have A0:=zaa y0;have A1:=zaa y1;have A2:=zaa y2;have A3:=zaa y3;have A4:=zaa y4;clear y0 y1 y2 y3 y4;refine(show∀A0:Act,A0=_→Code.wp prog _ _ A0 _ from fun A0 hA0=>?_) _ rfl;have I:A0.tmps.size=45:=by rw[hA0];rfl
 have G7:A0.defers=[]:=by rw[hA0]
 have v0:A0.eval (.tmp 0)=.pointer (some ⟨B,0,none⟩):=by rw[hA0];rfl
 have v3:A0.eval (.tmp 3)=.pointer (some ⟨w.heap.size,0,none⟩):=by rw[hA0];rfl
 have v4:A0.eval (.tmp 4)=.pointer (some ⟨w.heap.size+1,0,none⟩):=by rw[hA0];rfl
 have v5:A0.eval (.tmp 5)=undef:=by rw[hA0];rfl
 clear hA0;refine zde 17 5 (zmb D) [9,10,11,12,13,14,15,16,17,18,19,20,8,21,22,5,5] (zgl B w.heap.size j ac ((w.heap.size+1)::X) na nc nb nd ne nf) (by kernel_rfl) (by kernel_rfl) (by kernel_rfl) (by kernel_rfl) (by decide) (⟨(Below.refl _ _).drew,.inl v5⟩) ⟨?_,?_,?_,?_,?_,?_,?_,?_,?_,?_,?_,?_,?_,?_,?_,?_,?_,trivial⟩ ?_
 ·intro a w' C A F;have z0:=(C.other 0 rfl).trans v0;exact zbx _ rfl rfl (by revert z0;generalize a.eval=ρ;intro z0;simp only[execOp];go_simp) C I A rfl
 ·intro a w' C A F;have p9:a.eval (.tmp 9)=.pointer (some ⟨B,0,none⟩):=F ⟨0,.data⟩ (by simp) rfl;exact zbx _ rfl rfl (by revert p9;generalize a.eval=ρ;intro p9;simp only[execOp];go_simp) C I A rfl
 ·intro a w' C A F;have E8:a.eval (.tmp 10)=.pointer (some ⟨B,0,none⟩):=F ⟨1,.data⟩ (by simp) rfl;exact zbx _ rfl rfl (by revert E8;generalize a.eval=ρ;intro E8;simp only[execOp];go_simp) C I A rfl
 ·intro a w' C A F;have E0:a.eval (.tmp 11)=.pointer (some ⟨B,31,none⟩):=F ⟨2,.data⟩ (by simp) rfl;have c0:w'.cell? ⟨B,31,none⟩=some (.int .i64 j.now.seq):=zac A.1 N H4.o;have c1:w'.cell? ⟨B,32,none⟩=some (.slice na j.now.info.length nc):=zac A.1 N H0.o;have c2:w'.cell? ⟨B,33,none⟩=some (.slice nb j.now.data.length nd):=zac A.1 N H7.o;have c3:w'.cell? ⟨B,34,none⟩=some (.slice ne j.now.rev.length nf):=zac A.1 N H6.o;have c4:w'.cell? ⟨B,35,none⟩=some (.bool j.now.h0.on):=zac A.1 N I1.o;have c5:w'.cell? ⟨B,36,none⟩=some (.int .i64 j.now.h0.left):=zac A.1 N I3.o;have c6:w'.cell? ⟨B,37,none⟩=some (.bool j.now.h1.on):=zac A.1 N G6.o;have c7:w'.cell? ⟨B,38,none⟩=some (.int .i64 j.now.h1.left):=zac A.1 N H3.o;have c8:w'.cell? ⟨B,39,none⟩=some (.bool j.now.h2.on):=zac A.1 N I2.o;have c9:w'.cell? ⟨B,40,none⟩=some (.int .i64 j.now.h2.left):=zac A.1 N G8.o;exact zbx _ rfl rfl (by revert E0;generalize a.eval=ρ;intro E0;simp only[execOp];go_simp) C I A rfl
 ·intro a w' C A F;have z3:=(C.other 3 rfl).trans v3;exact zbx _ rfl rfl (by revert z3;generalize a.eval=ρ;intro z3;simp only[execOp];go_simp) C I A rfl
 ·intro a w' C A F;have G0:a.eval (.tmp 13)=.pointer (some ⟨w.heap.size,1,none⟩):=F ⟨4,.data⟩ (by simp) rfl;have c0:w'.cell? ⟨w.heap.size,1,none⟩=some (.int .i64 ac.h):=zac A.1 B4 A1.o;exact zbx _ rfl rfl (by revert G0;generalize a.eval=ρ;intro G0;simp only[execOp];go_simp) C I A rfl
 ·intro a w' C A F;have z3:=(C.other 3 rfl).trans v3;exact zbx _ rfl rfl (by revert z3;generalize a.eval=ρ;intro z3;simp only[execOp];go_simp) C I A rfl
 ·intro a w' C A F;have F7:a.eval (.tmp 15)=.pointer (some ⟨w.heap.size,2,none⟩):=F ⟨6,.data⟩ (by simp) rfl;have c0:w'.cell? ⟨w.heap.size,2,none⟩=some (.int .i64 ac.b):=zac A.1 B4 A2.o;exact zbx _ rfl rfl (by revert F7;generalize a.eval=ρ;intro F7;simp only[execOp];go_simp) C I A rfl
 ·intro a w' C A F;have z3:=(C.other 3 rfl).trans v3;exact zbx _ rfl rfl (by revert z3;generalize a.eval=ρ;intro z3;simp only[execOp];go_simp) C I A rfl
 ·intro a w' C A F;have D7:a.eval (.tmp 17)=.pointer (some ⟨w.heap.size,4,none⟩):=F ⟨8,.data⟩ (by simp) rfl;have c0:w'.cell? ⟨w.heap.size,4,none⟩=some (.string ac.text):=zac A.1 B4 A4.o;exact zbx _ rfl rfl (by revert D7;generalize a.eval=ρ;intro D7;simp only[execOp];go_simp) C I A rfl
 ·intro a w' C A F;have G2:a.eval (.tmp 18)=.string ac.text:=F ⟨9,.data⟩ (by simp) rfl;refine zby 25 #[.string ac.text] rfl rfl (by have pf:=Act.eval_func a 25;revert G2 pf;generalize a.eval=ρ;intro G2 pf;simp only[execOp];go_simp) _ (zgt ac.text _ hsz2) ?_;rintro e s ⟨rfl,J⟩;refine⟨_,rfl,_,rfl,?_,?_,?_⟩
  ·show zmb D ((a.put (some 19) _).eval (.tmp 5)) s;rw[Act.eval_put_ne _ _ _ _ (by decide)];exact zf7 A J
  ·show zgl _ _ _ _ _ _ _ _ _ _ _ _ ((a.put (some 19) _).eval (.tmp 19)) ((a.put (some 19) _).eval (.tmp 5)) s;rw[zax C I (by decide),Act.eval_put_ne _ _ _ _ (by decide)];exact rfl
  ·intro S x hk h;show zgl _ _ _ _ _ _ _ _ _ _ _ S x ((a.put (some 19) _).eval (.tmp 5)) s;rw[Act.eval_put_ne _ _ _ _ (by decide)];exact zmf J S x h
 ·intro a w' C A F;have E6:a.eval (.tmp 12)=.agg #[.int .i64 j.now.seq,.slice na j.now.info.length nc,.slice nb j.now.data.length nd,.slice ne j.now.rev.length nf,.bool j.now.h0.on,.int .i64 j.now.h0.left,.bool j.now.h1.on,.int .i64 j.now.h1.left,.bool j.now.h2.on,.int .i64 j.now.h2.left]:=F ⟨3,.data⟩ (by simp) rfl;have E7:a.eval (.tmp 14)=.int .i64 ac.h:=F ⟨5,.data⟩ (by simp) rfl;have E3:a.eval (.tmp 16)=.int .i64 ac.b:=F ⟨7,.data⟩ (by simp) rfl;have E2:a.eval (.tmp 19)=.string (fitT ac.text):=F ⟨10,.data⟩ (by simp) rfl;refine zby 121 #[.agg #[.int .i64 j.now.seq,.slice na j.now.info.length nc,.slice nb j.now.data.length nd,.slice ne j.now.rev.length nf,.bool j.now.h0.on,.int .i64 j.now.h0.left,.bool j.now.h1.on,.int .i64 j.now.h1.left,.bool j.now.h2.on,.int .i64 j.now.h2.left],.int .i64 ac.h,.int .i64 ac.b,.string (fitT ac.text)] rfl rfl (by have pf:=Act.eval_func a 121;revert E6 E7 E3 E2 pf;generalize a.eval=ρ;intro E6 E7 E3 E2 pf;simp only[execOp];go_simp) _ (zrg _ j.now ac.h ac.b (fitT ac.text) _ ((E4.o.ext (Ext.seenL D _)).below A.1) r1 r2) ?_;rintro e s ⟨L,rfl,C0,J,H1⟩;refine⟨_,rfl,_,rfl,?_,?_,?_⟩
  ·show zmb D ((a.put (some 20) _).eval (.tmp 5)) s;rw[Act.eval_put_ne _ _ _ _ (by decide)];exact zf7 A J
  ·show zgl _ _ _ _ _ _ _ _ _ _ _ _ ((a.put (some 20) _).eval (.tmp 20)) ((a.put (some 20) _).eval (.tmp 5)) s;rw[zax C I (by decide),Act.eval_put_ne _ _ _ _ (by decide)];exact⟨L,rfl,okTx.made H9.o E4.o H2.o A C0 J H1⟩
  ·intro S x hk h;show zgl _ _ _ _ _ _ _ _ _ _ _ S x ((a.put (some 20) _).eval (.tmp 5)) s;rw[Act.eval_put_ne _ _ _ _ (by decide)];exact zmf J S x h
 ·intro a w' C A F;obtain⟨L,pc,ok⟩:∃L,a.eval (.tmp 20)=.tuple #[L,.int .i64 (changeE j.now ac.h ac.b (fitT ac.text))]∧okTx ((w.heap.size+1)::X) (zaf j.now ac.h ac.b (fitT ac.text)) L (a.eval (.tmp 5)) w':=F ⟨11,.data⟩ (by simp) rfl;refine zbb (.tuple #[L,.int .i64 (changeE j.now ac.h ac.b (fitT ac.text))]) rfl rfl (by revert pc;generalize a.eval=ρ;intro pc;simp only[execOp];go_simp) ⟨_,rfl,?_,?_,?_⟩
  ·show zmb D ((a.put (some 8) _).eval (.tmp 5)) w';rw[Act.eval_put_ne _ _ _ _ (by decide)];exact A
  ·show zgl _ _ _ _ _ _ _ _ _ _ _ _ ((a.put (some 8) _).eval (.tmp 8)) ((a.put (some 8) _).eval (.tmp 5)) w';rw[zax C I (by decide),Act.eval_put_ne _ _ _ _ (by decide)];exact⟨L,rfl,ok⟩
  ·intro S x hk h;show zgl _ _ _ _ _ _ _ _ _ _ _ S x ((a.put (some 8) _).eval (.tmp 5)) w';rw[Act.eval_put_ne _ _ _ _ (by decide)];exact h
 ·intro a w' C A F;obtain⟨L,pm,ok⟩:∃L,a.eval (.tmp 8)=.tuple #[L,.int .i64 (changeE j.now ac.h ac.b (fitT ac.text))]∧okTx ((w.heap.size+1)::X) (zaf j.now ac.h ac.b (fitT ac.text)) L (a.eval (.tmp 5)) w':=F ⟨12,.data⟩ (by simp) rfl;refine zbb (L) rfl rfl (by revert pm;generalize a.eval=ρ;intro pm;simp only[execOp];go_simp) ⟨_,rfl,?_,?_,?_⟩
  ·show zmb D ((a.put (some 21) _).eval (.tmp 5)) w';rw[Act.eval_put_ne _ _ _ _ (by decide)];exact A
  ·show zgl _ _ _ _ _ _ _ _ _ _ _ _ ((a.put (some 21) _).eval (.tmp 21)) ((a.put (some 21) _).eval (.tmp 5)) w';rw[zax C I (by decide),Act.eval_put_ne _ _ _ _ (by decide)];exact ok
  ·intro S x hk h;show zgl _ _ _ _ _ _ _ _ _ _ _ S x ((a.put (some 21) _).eval (.tmp 5)) w';rw[Act.eval_put_ne _ _ _ _ (by decide)];exact h
 ·intro a w' C A F;obtain⟨L,pm,ok⟩:∃L,a.eval (.tmp 8)=.tuple #[L,.int .i64 (changeE j.now ac.h ac.b (fitT ac.text))]∧okTx ((w.heap.size+1)::X) (zaf j.now ac.h ac.b (fitT ac.text)) L (a.eval (.tmp 5)) w':=F ⟨12,.data⟩ (by simp) rfl;exact zbx _ rfl rfl (by revert pm;generalize a.eval=ρ;intro pm;simp only[execOp];go_simp) C I A rfl
 ·intro a w' C A F;refine zgj (.pointer (some ⟨w'.heap.size,0,none⟩)) rfl rfl (w':=w'.alloc (.cells #[.int .i64 0,.slice none 0 0,.slice none 0 0,.slice none 0 0,.bool false,.int .i64 0,.bool false,.int .i64 0,.bool false,.int .i64 0] 40)) (by simp only[execOp];go_simp) ⟨_,rfl,?_,?_,?_⟩
  ·show zmb D ((a.put (some 5) _).eval (.tmp 5)) _;rw[zax C I (by decide)];exact⟨A.1.alloc A.1.size _,.inr ⟨_,rfl,A.1.size,by simp,_,_,_,_,_,_,_,_,_,_,heap_alloc_new _ _⟩⟩
  ·show zgl _ _ _ _ _ _ _ _ _ _ _ _ ((a.put (some 5) _).eval (.tmp 5)) ((a.put (some 5) _).eval (.tmp 5)) _;rw[zax C I (by decide)];exact⟨_,rfl⟩
  ·intro S x hk h;show zgl _ _ _ _ _ _ _ _ _ _ _ S x ((a.put (some 5) _).eval (.tmp 5)) _;rw[zax C I (by decide)];exact zt8 _ S x h
 ·intro a w' C A F;obtain⟨T,M⟩:∃T,a.eval (.tmp 5)=.pointer (some ⟨T,0,none⟩):=F ⟨15,.data⟩ (by simp) rfl;have ok:okTx ((w.heap.size+1)::X) (zaf j.now ac.h ac.b (fitT ac.text)) (a.eval (.tmp 21)) (a.eval (.tmp 5)) w':=F ⟨13,.data⟩ (by simp) rfl
  obtain⟨B0,C0,c0,c1,c2,c3,c4,c5,c6,c7,c8,c9,i⟩:D.heap.size≤T∧T<w'.heap.size∧∃c0 c1 c2 c3 c4 c5 c6 c7 c8 c9,w'.heap[T]?=some (.cells #[c0,c1,c2,c3,c4,c5,c6,c7,c8,c9] 40 (0,0)):=by
   rcases A.2 with h0|⟨T',e,h3,h4,h5⟩
   ·rw[h0]at M;cases M
   ·rw[e]at M;cases M;exact⟨h3,h4,h5⟩
  have r:=ok.2.2 T M;have A5:=ok.2.1;obtain⟨Z,U,O,d,Q,c,hv,_⟩:=id r;rw[hv]at r A5;obtain⟨⟨t0,t1,t2,t3,t4,t5,t6,t7,t8,t9⟩,tf⟩:=zaj i;refine zcw rfl rfl (w':=((((((((((w'.setCell ⟨T,0,none⟩ (.int .i64 (zaf j.now ac.h ac.b (fitT ac.text)).seq)).setCell ⟨T,1,none⟩ (.slice Z (zaf j.now ac.h ac.b (fitT ac.text)).info.length U)).setCell ⟨T,2,none⟩ (.slice O (zaf j.now ac.h ac.b (fitT ac.text)).data.length d)).setCell ⟨T,3,none⟩ (.slice Q (zaf j.now ac.h ac.b (fitT ac.text)).rev.length c)).setCell ⟨T,4,none⟩ (.bool (zaf j.now ac.h ac.b (fitT ac.text)).h0.on)).setCell ⟨T,5,none⟩ (.int .i64 (zaf j.now ac.h ac.b (fitT ac.text)).h0.left)).setCell ⟨T,6,none⟩ (.bool (zaf j.now ac.h ac.b (fitT ac.text)).h1.on)).setCell ⟨T,7,none⟩ (.int .i64 (zaf j.now ac.h ac.b (fitT ac.text)).h1.left)).setCell ⟨T,8,none⟩ (.bool (zaf j.now ac.h ac.b (fitT ac.text)).h2.on)).setCell ⟨T,9,none⟩ (.int .i64 (zaf j.now ac.h ac.b (fitT ac.text)).h2.left))) (by revert M hv;generalize a.eval=ρ;intro M hv;simp only[execOp];go_simp) ⟨_,rfl,?_,?_,?_⟩
  ·show zmb D (a.eval (.tmp 5)) _;exact⟨Below.set10 A.1 B0 _ _ _ _ _ _ _ _ _ _,.inr ⟨T,M,B0,by simpa[World.setCell] using C0,_,_,_,_,_,_,_,_,_,_,zh2 i _ _ _ _ _ _ _ _ _ _⟩⟩
  ·show zgl _ _ _ _ _ _ _ _ _ _ _ _ (a.eval (.tmp 5)) (a.eval (.tmp 5)) _;exact⟨T,Z,U,O,d,Q,c,M,zh2 i _ _ _ _ _ _ _ _ _ _,r.ext (zo9 (by simp) w' _ _ _ _ _ _ _ _ _ _),A5⟩
  ·intro S x hk h;show zgl _ _ _ _ _ _ _ _ _ _ _ S x (a.eval (.tmp 5)) _;rw[M]at h⊢;exact zt9 (fun t x h=>h.store _ _ _ _ _ _ _ _ _ _) S x hk h
 ·intro a W C A F;obtain⟨T,Z,U,O,d,Q,c,M,i,r,A5⟩:∃T Z U O d Q c,a.eval (.tmp 5)=.pointer (some ⟨T,0,none⟩)∧W.heap[T]?=some (.cells #[.int .i64 (zaf j.now ac.h ac.b (fitT ac.text)).seq,.slice Z (zaf j.now ac.h ac.b (fitT ac.text)).info.length U,.slice O (zaf j.now ac.h ac.b (fitT ac.text)).data.length d,.slice Q (zaf j.now ac.h ac.b (fitT ac.text)).rev.length c,.bool (zaf j.now ac.h ac.b (fitT ac.text)).h0.on,.int .i64 (zaf j.now ac.h ac.b (fitT ac.text)).h0.left,.bool (zaf j.now ac.h ac.b (fitT ac.text)).h1.on,.int .i64 (zaf j.now ac.h ac.b (fitT ac.text)).h1.left,.bool (zaf j.now ac.h ac.b (fitT ac.text)).h2.on,.int .i64 (zaf j.now ac.h ac.b (fitT ac.text)).h2.left] 40 (0,0))∧IsTx (zas W (T::(w.heap.size+1)::X)) (.agg #[.int .i64 (zaf j.now ac.h ac.b (fitT ac.text)).seq,.slice Z (zaf j.now ac.h ac.b (fitT ac.text)).info.length U,.slice O (zaf j.now ac.h ac.b (fitT ac.text)).data.length d,.slice Q (zaf j.now ac.h ac.b (fitT ac.text)).rev.length c,.bool (zaf j.now ac.h ac.b (fitT ac.text)).h0.on,.int .i64 (zaf j.now ac.h ac.b (fitT ac.text)).h0.left,.bool (zaf j.now ac.h ac.b (fitT ac.text)).h1.on,.int .i64 (zaf j.now ac.h ac.b (fitT ac.text)).h1.left,.bool (zaf j.now ac.h ac.b (fitT ac.text)).h2.on,.int .i64 (zaf j.now ac.h ac.b (fitT ac.text)).h2.left]) (zaf j.now ac.h ac.b (fitT ac.text))∧RoomTx (.agg #[.int .i64 (zaf j.now ac.h ac.b (fitT ac.text)).seq,.slice Z (zaf j.now ac.h ac.b (fitT ac.text)).info.length U,.slice O (zaf j.now ac.h ac.b (fitT ac.text)).data.length d,.slice Q (zaf j.now ac.h ac.b (fitT ac.text)).rev.length c,.bool (zaf j.now ac.h ac.b (fitT ac.text)).h0.on,.int .i64 (zaf j.now ac.h ac.b (fitT ac.text)).h0.left,.bool (zaf j.now ac.h ac.b (fitT ac.text)).h1.on,.int .i64 (zaf j.now ac.h ac.b (fitT ac.text)).h1.left,.bool (zaf j.now ac.h ac.b (fitT ac.text)).h2.on,.int .i64 (zaf j.now ac.h ac.b (fitT ac.text)).h2.left]):=F 16 (by decide);have pE:a.eval (.tmp 22)=.int .i64 (changeE j.now ac.h ac.b (fitT ac.text)):=F 14 (by decide)
  have B0:D.heap.size≤T:=by
   rcases A.2 with h0|⟨T',e,h3,h4,h5⟩
   ·rw[h0]at M;cases M
   ·rw[e]at M;cases M;exact h3
  show wpOps prog _ _ [17] a W;rw[wpOps_cons];refine zbb (.int .i64 (changeE j.now ac.h ac.b (fitT ac.text))) rfl rfl (by revert pE;generalize a.eval=ρ;intro pE;simp only[execOp];go_simp) ?_;have F2:a.tmps.size=45:=C.size.trans I;obtain⟨a2,p⟩:∃a2,a2=a.put (some 6) (.int .i64 (changeE j.now ac.h ac.b (fitT ac.text))):=⟨_,rfl⟩;have f6:a2.eval (.tmp 6)=.int .i64 (changeE j.now ac.h ac.b (fitT ac.text)):=by rw[p];exact Act.eval_put_same _ _ _ (by rw[F2];decide)
  have f0:a2.eval (.tmp 0)=.pointer (some ⟨B,0,none⟩):=by rw[p,Act.eval_put_ne _ _ _ _ (by decide)];exact(C.other 0 rfl).trans v0
  have f3:a2.eval (.tmp 3)=.pointer (some ⟨w.heap.size,0,none⟩):=by rw[p,Act.eval_put_ne _ _ _ _ (by decide)];exact(C.other 3 rfl).trans v3
  have f4:a2.eval (.tmp 4)=.pointer (some ⟨w.heap.size+1,0,none⟩):=by rw[p,Act.eval_put_ne _ _ _ _ (by decide)];exact(C.other 4 rfl).trans v4
  have f5:a2.eval (.tmp 5)=.pointer (some ⟨T,0,none⟩):=by rw[p,Act.eval_put_ne _ _ _ _ (by decide)];exact M
  have B1:a2=⟨#[_,_,_,_,_,_,_,_,_,_,_,_,_,_,_,_,_,_,_,_,_,_,_,_,_,_,_,_,_,_,_,_,_,_,_,_,_,_,_,_,_,_,_,_,_],[]⟩:=zci a2 45 (by rw[p,Act.size_put];exact F2) (by rw[p,Act.defers_put'];exact C.defers.trans G7);dsimp only at B1;rw[f0,f3,f4,f5,f6]at B1;show KK (a.put (some 6) (.int .i64 (changeE j.now ac.h ac.b (fitT ac.text)))) _;rw[←p];exact(congrArg (fun x=>KK x _) B1).mpr (D6.o (fun k=>a2.eval (.tmp k)) _ T Z U O d Q c r A5 i B0 A.1)
theorem JAt.last{w:World}{B:Nat}{X:List Nat}{j:Jn}(h:JAt w B X j):w.cell? ⟨B,5,none⟩=some (.int .i64 j.last)∧w.frozen? ⟨B,5,none⟩=false:=by
 obtain⟨_,da,dc,db,dd,na,nc,nb,nd,ne,nf,sa,sc,sb,sd,se,sf,ca,cc,fa,fc,ta,tc,A,_⟩:=h;exact⟨(zak A 5).trans rfl,frozen_of_row w _ _ _ _ A⟩
def zgm (B:Nat)(D:Nat)(j:Jn)(ac:Ac)(X:List Nat)(na:Option Addr)(nc:Nat)(nb:Option Addr)(nd:Nat)(ne:Option Addr)(nf:Nat):Nat→Value→Value→World→Prop
 |0,v,_,_=>v=.pointer (some ⟨B,0,none⟩)
 |1,v,_,_=>v=.pointer (some ⟨B,0,none⟩)
 |2,v,_,_=>v=.pointer (some ⟨B,31,none⟩)
 |3,v,_,_=>v=.agg #[.int .i64 j.now.seq,.slice na j.now.info.length nc,.slice nb j.now.data.length nd,.slice ne j.now.rev.length nf,.bool j.now.h0.on,.int .i64 j.now.h0.left,.bool j.now.h1.on,.int .i64 j.now.h1.left,.bool j.now.h2.on,.int .i64 j.now.h2.left]
 |4,v,_,_=>v=.pointer (some ⟨D,1,none⟩)
 |5,v,_,_=>v=.int .i64 ac.h
 |6,v,_,_=>v=.pointer (some ⟨D,2,none⟩)
 |7,v,_,_=>v=.int .i64 ac.b
 |8,v,_,_=>v=.pointer (some ⟨D,4,none⟩)
 |9,v,_,_=>v=.string ac.text
 |10,v,_,_=>v=.string (fitT ac.text)
 |11,v,u,w=>∃v2,v=.tuple #[v2,.int .i64 (fillE j.now ac.h ac.b (fitT ac.text))]∧okTx X (zao j.now ac.h ac.b (fitT ac.text)) v2 u w
 |12,v,u,w=>∃v2,v=.tuple #[v2,.int .i64 (fillE j.now ac.h ac.b (fitT ac.text))]∧okTx X (zao j.now ac.h ac.b (fitT ac.text)) v2 u w
 |13,v,u,w=>okTx X (zao j.now ac.h ac.b (fitT ac.text)) v u w
 |14,v,_,_=>v=.int .i64 (fillE j.now ac.h ac.b (fitT ac.text))
 |15,v,_,_=>∃T,v=.pointer (some ⟨T,0,none⟩)
 |16,v,_,w=>∃T ua uc ub ud ue uf,v=.pointer (some ⟨T,0,none⟩)∧w.heap[T]?=some (.cells #[.int .i64 (zao j.now ac.h ac.b (fitT ac.text)).seq,.slice ua (zao j.now ac.h ac.b (fitT ac.text)).info.length uc,.slice ub (zao j.now ac.h ac.b (fitT ac.text)).data.length ud,.slice ue (zao j.now ac.h ac.b (fitT ac.text)).rev.length uf,.bool (zao j.now ac.h ac.b (fitT ac.text)).h0.on,.int .i64 (zao j.now ac.h ac.b (fitT ac.text)).h0.left,.bool (zao j.now ac.h ac.b (fitT ac.text)).h1.on,.int .i64 (zao j.now ac.h ac.b (fitT ac.text)).h1.left,.bool (zao j.now ac.h ac.b (fitT ac.text)).h2.on,.int .i64 (zao j.now ac.h ac.b (fitT ac.text)).h2.left] 40 (0,0))∧IsTx (zas w (T::X)) (.agg #[.int .i64 (zao j.now ac.h ac.b (fitT ac.text)).seq,.slice ua (zao j.now ac.h ac.b (fitT ac.text)).info.length uc,.slice ub (zao j.now ac.h ac.b (fitT ac.text)).data.length ud,.slice ue (zao j.now ac.h ac.b (fitT ac.text)).rev.length uf,.bool (zao j.now ac.h ac.b (fitT ac.text)).h0.on,.int .i64 (zao j.now ac.h ac.b (fitT ac.text)).h0.left,.bool (zao j.now ac.h ac.b (fitT ac.text)).h1.on,.int .i64 (zao j.now ac.h ac.b (fitT ac.text)).h1.left,.bool (zao j.now ac.h ac.b (fitT ac.text)).h2.on,.int .i64 (zao j.now ac.h ac.b (fitT ac.text)).h2.left]) (zao j.now ac.h ac.b (fitT ac.text))∧RoomTx (.agg #[.int .i64 (zao j.now ac.h ac.b (fitT ac.text)).seq,.slice ua (zao j.now ac.h ac.b (fitT ac.text)).info.length uc,.slice ub (zao j.now ac.h ac.b (fitT ac.text)).data.length ud,.slice ue (zao j.now ac.h ac.b (fitT ac.text)).rev.length uf,.bool (zao j.now ac.h ac.b (fitT ac.text)).h0.on,.int .i64 (zao j.now ac.h ac.b (fitT ac.text)).h0.left,.bool (zao j.now ac.h ac.b (fitT ac.text)).h1.on,.int .i64 (zao j.now ac.h ac.b (fitT ac.text)).h1.left,.bool (zao j.now ac.h ac.b (fitT ac.text)).h2.on,.int .i64 (zao j.now ac.h ac.b (fitT ac.text)).h2.left])
 |_,_,_,_=>True
theorem zmg{B:Nat}{D:Nat}{j:Jn}{ac:Ac}{X:List Nat}{na:Option Addr}{nc:Nat}{nb:Option Addr}{nd:Nat}{ne:Option Addr}{nf:Nat}{u:Value}{w w':World}(hb:Below w.heap.size w w'):∀kk x,zgm B D j ac X na nc nb nd ne nf kk x u w→zgm B D j ac X na nc nb nd ne nf kk x u w':=by
 intro kk x h
 match kk,h with
 |0,h|1,h|2,h|3,h|4,h|5,h|6,h|7,h|8,h|9,h|10,h=>exact h
 |11,⟨v2,h1,h2⟩=>exact⟨v2,h1,h2.below hb⟩
 |12,⟨v2,h1,h2⟩=>exact⟨v2,h1,h2.below hb⟩
 |13,h=>exact h.below hb
 |14,h|15,h=>exact h
 |16,⟨T,ua,uc,ub,ud,ue,uf,h1,h2,h3,h4⟩=>exact⟨T,ua,uc,ub,ud,ue,uf,h1,zad hb (Array.getElem?_eq_some_iff.1 h2).1 h2,h3.ext (Ext.freshL hb),h4⟩
 |_+17,_=>exact trivial
theorem zua{B:Nat}{D:Nat}{j:Jn}{ac:Ac}{X:List Nat}{na:Option Addr}{nc:Nat}{nb:Option Addr}{nd:Nat}{ne:Option Addr}{nf:Nat}{u:Value}{w:World}(o:Obj):∀kk x,zgm B D j ac X na nc nb nd ne nf kk x u w→zgm B D j ac X na nc nb nd ne nf kk x (.pointer (some ⟨w.heap.size,0,none⟩)) (w.alloc o):=by
 intro kk x h
 match kk,h with
 |0,h|1,h|2,h|3,h|4,h|5,h|6,h|7,h|8,h|9,h|10,h=>exact h
 |11,⟨v2,h1,h2⟩=>exact⟨v2,h1,h2.alloc o⟩
 |12,⟨v2,h1,h2⟩=>exact⟨v2,h1,h2.alloc o⟩
 |13,h=>exact h.alloc o
 |14,h|15,h=>exact h
 |16,⟨T,ua,uc,ub,ud,ue,uf,h1,h2,h3,h4⟩=>exact⟨T,ua,uc,ub,ud,ue,uf,h1,zad (zab _ _) (Array.getElem?_eq_some_iff.1 h2).1 h2,h3.ext (Ext.freshL (zab _ _)),h4⟩
 |_+17,_=>exact trivial
theorem zub{B:Nat}{D:Nat}{j:Jn}{ac:Ac}{X:List Nat}{na:Option Addr}{nc:Nat}{nb:Option Addr}{nd:Nat}{ne:Option Addr}{nf:Nat}{u:Value}{w w':World}(hs:∀t x,okTx X t x u w→okTx X t x u w'):∀kk x,kk≠16→zgm B D j ac X na nc nb nd ne nf kk x u w→zgm B D j ac X na nc nb nd ne nf kk x u w':=by
 intro kk x A h
 match kk,h with
 |0,h|1,h|2,h|3,h|4,h|5,h|6,h|7,h|8,h|9,h|10,h=>exact h
 |11,⟨y,h1,h2⟩=>exact⟨y,h1,hs _ _ h2⟩
 |12,⟨y,h1,h2⟩=>exact⟨y,h1,hs _ _ h2⟩
 |13,h=>exact hs _ _ h
 |14,h|15,h=>exact h
 |16,_=>exact absurd rfl A
 |_+17,_=>exact trivial
theorem z0p(B:Nat)(X:List Nat)(j:Jn)(w:World)(h:JAt w B X j)(hX:∀x∈X,x<w.heap.size)(ac:Ac)(hsz2:ac.text.size≤maxLen)(r1:j.now.info.length*24≤140737488355328)(r2:j.now.data.length*24≤140737488355328):
  Calls prog 83 #[.pointer (some ⟨B,0,none⟩),.agg #[.int .i64 ac.kind,.int .i64 ac.h,.int .i64 ac.b,.int .i64 ac.n,.string ac.text]] w (zdj w B X (zjv j ac)):=by
 have HJ:=zaa h;have K3:=h.lt;have B5:=h.1;have HX:=zaa hX;clear h hX;go_enter func83,ntmps83;go_wp2;rename_i KK C5;obtain⟨D,A6⟩:∃D,D=(w.alloc (.cells #[.int .i64 ac.kind,.int .i64 ac.h,.int .i64 ac.b,.int .i64 ac.n,.string ac.text] 23)).alloc (.cells #[.int .i64 0,.int .i64 0,.string ⟨#[]⟩] 31):=⟨_,rfl⟩;have F6:(w.alloc (.cells #[.int .i64 ac.kind,.int .i64 ac.h,.int .i64 ac.b,.int .i64 ac.n,.string ac.text] 23)).heap.size=w.heap.size+1:=by simp
 have O:Hid (JAt D B ((w.heap.size+1)::X) j):=by rw[A6];exact(HJ.o.below (zab _ _)).more (zab _ _) (by omega)
 have Z:Hid (Below w.heap.size w D):=by rw[A6];exact zae (zab _ _) (zab _ _)
 have L:Hid (D.heap[w.heap.size+1]?=some (.cells #[.int .i64 0,.int .i64 0,.string ⟨#[]⟩] 31 (0,0))):=by rw[A6,←F6];exact heap_alloc_new _ _
 have C2:Hid (D.heap[w.heap.size]?=some (.cells #[.int .i64 ac.kind,.int .i64 ac.h,.int .i64 ac.b,.int .i64 ac.n,.string ac.text] 23 (0,0))):=by rw[A6];exact zad (zab _ _) (by omega) (heap_alloc_new _ _)
 have J9:D.heap.size=w.heap.size+2:=by rw[A6];simp
 have J1:Hid (∀x∈((w.heap.size+1)::X),x<D.heap.size):=fun x hx=>by
  rcases List.mem_cons.1 hx with rfl|hx
  ·omega
  ·have:=HX.o x hx;omega
 rw[←A6];clear A6 F6;have c:B<D.heap.size:=by omega
 have C1:w.heap.size<D.heap.size:=by omega
 have C6:∀(g:Nat→Value) (u:World) (T:Nat) (p:Option Addr) (m:Nat) (d:Option Addr) (r:Nat) (i:Option Addr) (q:Nat),IsTx (zas u (T::((w.heap.size+1)::X))) (.agg #[.int .i64 (zao j.now ac.h ac.b (fitT ac.text)).seq,.slice p (zao j.now ac.h ac.b (fitT ac.text)).info.length m,.slice d (zao j.now ac.h ac.b (fitT ac.text)).data.length r,.slice i (zao j.now ac.h ac.b (fitT ac.text)).rev.length q,.bool (zao j.now ac.h ac.b (fitT ac.text)).h0.on,.int .i64 (zao j.now ac.h ac.b (fitT ac.text)).h0.left,.bool (zao j.now ac.h ac.b (fitT ac.text)).h1.on,.int .i64 (zao j.now ac.h ac.b (fitT ac.text)).h1.left,.bool (zao j.now ac.h ac.b (fitT ac.text)).h2.on,.int .i64 (zao j.now ac.h ac.b (fitT ac.text)).h2.left]) (zao j.now ac.h ac.b (fitT ac.text))→RoomTx (.agg #[.int .i64 (zao j.now ac.h ac.b (fitT ac.text)).seq,.slice p (zao j.now ac.h ac.b (fitT ac.text)).info.length m,.slice d (zao j.now ac.h ac.b (fitT ac.text)).data.length r,.slice i (zao j.now ac.h ac.b (fitT ac.text)).rev.length q,.bool (zao j.now ac.h ac.b (fitT ac.text)).h0.on,.int .i64 (zao j.now ac.h ac.b (fitT ac.text)).h0.left,.bool (zao j.now ac.h ac.b (fitT ac.text)).h1.on,.int .i64 (zao j.now ac.h ac.b (fitT ac.text)).h1.left,.bool (zao j.now ac.h ac.b (fitT ac.text)).h2.on,.int .i64 (zao j.now ac.h ac.b (fitT ac.text)).h2.left])→u.heap[T]?=some (.cells #[.int .i64 (zao j.now ac.h ac.b (fitT ac.text)).seq,.slice p (zao j.now ac.h ac.b (fitT ac.text)).info.length m,.slice d (zao j.now ac.h ac.b (fitT ac.text)).data.length r,.slice i (zao j.now ac.h ac.b (fitT ac.text)).rev.length q,.bool (zao j.now ac.h ac.b (fitT ac.text)).h0.on,.int .i64 (zao j.now ac.h ac.b (fitT ac.text)).h0.left,.bool (zao j.now ac.h ac.b (fitT ac.text)).h1.on,.int .i64 (zao j.now ac.h ac.b (fitT ac.text)).h1.left,.bool (zao j.now ac.h ac.b (fitT ac.text)).h2.on,.int .i64 (zao j.now ac.h ac.b (fitT ac.text)).h2.left] 40 (0,0))→D.heap.size≤T→Below D.heap.size D u→KK ⟨#[.pointer (some ⟨B,0,none⟩),g 1,g 2,.pointer (some ⟨w.heap.size,0,none⟩),.pointer (some ⟨w.heap.size+1,0,none⟩),.pointer (some ⟨T,0,none⟩),.int .i64 (fillE j.now ac.h ac.b (fitT ac.text)),g 7,g 8,g 9,g 10,g 11,g 12,g 13,g 14,g 15,g 16,g 17,g 18,g 19,g 20,g 21,g 22,g 23,g 24,g 25,g 26,g 27,g 28,g 29,g 30,g 31,g 32,g 33,g 34,g 35,g 36,g 37,g 38,g 39,g 40,g 41,g 42,g 43,g 44,g 45,g 46,g 47,g 48,g 49,g 50,g 51,g 52,g 53,g 54,g 55,g 56],[]⟩ u:=by
  intro g u T p m d r i q z A7 s B3 A8;apply C5;clear C5;have C8:=zaa (z.ext (Ext.lessL T));have G6:=zaa A7;have KT:=zaa s;have C3:=zaa (O.o.below A8);have C4:=zaa (zae Z.o A8);have E0:=zaa (zad A8 (show w.heap.size+1<D.heap.size by omega) L.o);have D2:=zaa (zad A8 C1 C2.o);have K5:D.heap.size≤u.heap.size:=A8.size;have H7:T<u.heap.size:=(Array.getElem?_eq_some_iff.1 s).1;clear z A7 s A8 O Z L C2;obtain⟨t,ht⟩:∃t,t=zao j.now ac.h ac.b (fitT ac.text):=⟨_,rfl⟩;rw[←ht]at C8 G6 KT;have A9:w.heap.size+1≠B:=by omega
  by_cases he:fillE j.now ac.h ac.b (fitT ac.text)=0
  ·obtain⟨J0,I6⟩:=zxj he;obtain⟨M,E1⟩:∃M:Nat,ac.b=(M:Int):=⟨ac.b.toNat,by omega⟩;have B6:M<12:=by omega
   have HW:Hid (zjv j ac=if j.role M=1 then(j,zaq 8) else if j.last<j.freed M then(j,zaq 9) else({j with role:=upd j.role M 2,now:=t},zaq 0)):=by
    rw[Hid,zjv,if_pos he,←ht,E1,Int.toNat_natCast]
   rw[he];rw[E1]at D2;clear he ht E1 J0 I6;obtain⟨⟨y0,y1,y2,y3,y4⟩,yf⟩:=zjn D2.o;have J8:(0:Int)≤(M:Int):=by omega
   have J6:(M:Int)<12:=by omega
   go_wp2
   go_quiet (fail)
   obtain⟨N,D6⟩:∃N,N=u.drewN nq:=⟨_,rfl⟩;have J:Below u.heap.size u N:=by rw[D6];exact below_drewN (Below.refl _ _) _
   have B0:=zaa (C3.o.below J);have B1:Hid (ButL [B] w.heap.size w N):=ButL.of_below (zae C4.o J);have C0:=zaa (zad J (show w.heap.size+1<u.heap.size by omega) E0.o);have G7:=zaa (zad J H7 KT.o);have D1:=zaa (C8.o.ext (Ext.freshL J));have K0:u.heap.size≤N.heap.size:=J.size;rw[←D6];clear D6 J y0 y1 y2 y3 y4 yf C3 C4 E0 KT C8 D2;obtain⟨B8,I8,D7,H9⟩:=B0.o.role M B6;by_cases hro:j.role M=1
   ·have HE:Hid (zjv j ac=(j,zaq 8)):=by rw[Hid,HW.o,if_pos hro]
    rw[hro]at B8;clear hro HW;go_wp2_with fail;have B2:=B0;have A5:=B1;have KR:=C0;have B4:w.heap.size+1<N.heap.size:=by omega
    refine(zat 8 _).mono ?_;rintro e w2 ⟨rfl,I⟩;have L:=zaa (zad I B4 KR.o);have O:=zaa (B2.o.below I);have Z:=zaa (A5.o.trans (Y:=[]) (ButL.of_below I) A5.o.size (by simp));clear I;obtain⟨⟨y0,y1,y2⟩,yf⟩:=zbo L.o;go_wp2;exact zbe HE.o L.o O.o Z.o A9 B5 fun W u0 u1 u2=>by simp[results,results83,go_sem,u0,u1,u2]
   ·have J7:(j.role M==1)=false:=by simpa using hro
    have B9:Hid (zjv j ac=if j.last<j.freed M then(j,zaq 9) else({j with role:=upd j.role M 2,now:=t},zaq 0)):=by rw[Hid,HW.o,if_neg hro]
    clear hro HW;obtain⟨I1,I5⟩:=B0.o.last;by_cases hfr:j.last<j.freed M
    ·have HE:Hid (zjv j ac=(j,zaq 9)):=by rw[Hid,B9.o,if_pos hfr]
     clear B9;go_wp2_with fail
     go_quiet (fail)
     obtain⟨R,Q⟩:∃R,R=N.drewN nq:=⟨_,rfl⟩;have J:Below N.heap.size N R:=by rw[Q];exact below_drewN (Below.refl _ _) _
     have B2:=zaa (B0.o.below J);have A5:Hid (ButL [B] w.heap.size w R):=B1.o.trans (Y:=[]) (ButL.of_below J) B1.o.size (by simp);have KR:=zaa (zad J (show w.heap.size+1<N.heap.size by omega) C0.o);have J3:N.heap.size≤R.heap.size:=J.size;rw[←Q];clear Q J;have B4:w.heap.size+1<R.heap.size:=by omega
     go_wp2_with fail;refine(zat 9 _).mono ?_;rintro e w2 ⟨rfl,I⟩;have L:=zaa (zad I B4 KR.o);have O:=zaa (B2.o.below I);have Z:=zaa (A5.o.trans (Y:=[]) (ButL.of_below I) A5.o.size (by simp));clear I;obtain⟨⟨y0,y1,y2⟩,yf⟩:=zbo L.o;go_wp2;exact zbe HE.o L.o O.o Z.o A9 B5 fun W u0 u1 u2=>by simp[results,results83,go_sem,u0,u1,u2]
    ·have HE:Hid (zjv j ac=({j with role:=upd j.role M 2,now:=t},zaq 0)):=by rw[Hid,B9.o,if_neg hfr]
     clear B9;go_wp2_with fail
     go_quiet (fail)
     obtain⟨W7,D5⟩:∃W7,W7=N.drewN nq:=⟨_,rfl⟩;have J:Below N.heap.size N W7:=by rw[D5];exact below_drewN (Below.refl _ _) _
     have D9:=zaa (B0.o.below J);have F8:Hid (ButL [B] w.heap.size w W7):=B1.o.trans (Y:=[]) (ButL.of_below J) B1.o.size (by simp);have G2:=zaa (zad J (show w.heap.size+1<N.heap.size by omega) C0.o);have E9:=zaa (zad J (show T<N.heap.size by omega) G7.o);have D8:=zaa (D1.o.ext (Ext.freshL J));have K6:N.heap.size≤W7.heap.size:=J.size;rw[←D5];clear D5 J B8 I8 D7 H9 I1 I5 B0 B1 C0 G7 D1;obtain⟨B8,_,D7,_⟩:=D9.o.role M B6;obtain⟨⟨t0,t1,t2,t3,t4,t5,t6,t7,t8,t9⟩,tf⟩:=zaj E9.o;have K1:¬T=B:=by omega
     have K4:¬B=T:=by omega
     go_wp2_with fail;obtain⟨R,Q⟩:∃R,R=W7.setCell ⟨B,7+M*2,none⟩ (.int .i64 2):=⟨_,rfl⟩;have H3:Hid (JAt R B ((w.heap.size+1)::X) {j with role:=upd j.role M 2}):=by rw[Q];exact D9.o.putRole M B6 2
     have C9:Hid (IsTx (zas R ((w.heap.size+1)::X)) (.agg #[.int .i64 t.seq,.slice p t.info.length m,.slice d t.data.length r,.slice i t.rev.length q,.bool t.h0.on,.int .i64 t.h0.left,.bool t.h1.on,.int .i64 t.h1.left,.bool t.h2.on,.int .i64 t.h2.left]) t):=by rw[Q];exact D8.o.ext (Ext.setL (by simp[B5]) _ _)
     have D4:Hid (ButL [B] w.heap.size w R):=by rw[Q];exact F8.o.set (.inl (by simp)) _ _
     have F2:Hid (R.heap[w.heap.size+1]?=some (.cells #[.int .i64 0,.int .i64 0,.string ⟨#[]⟩] 31 (0,0))):=by rw[Q];exact(Below.heap_setCell _ _ _ _ A9).trans G2.o
     have J3:R.heap.size=W7.heap.size:=by rw[Q];simp[World.setCell]
     rw[←Q];clear Q B8 D7 t0 t1 t2 t3 t4 t5 t6 t7 t8 t9 tf D9 D8 F8 G2 E9;refine(zji B ((w.heap.size+1)::X) _ R H3.o t p m d r i q C9.o G6.o 0).mono ?_;rintro e w2 ⟨rfl,G0,D3⟩;have O:Hid (JAt w2 B ((w.heap.size+1)::X) {j with role:=upd j.role M 2,now:=t}):=G0;have Z:=zaa (D4.o.trans (Y:=[B]) D3 D4.o.size (by simp));have L:=zaa ((D3.block _ (show w.heap.size+1<R.heap.size by omega) (by simpa using A9)).trans F2.o);clear G0 D3 H3 D4 F2 C9;dsimp only[zls,vRp,zaq];obtain⟨⟨y0,y1,y2⟩,yf⟩:=zbo L.o;go_wp2;exact zbe HE.o L.o O.o Z.o A9 B5 fun W u0 u1 u2=>by simp[results,results83,go_sem,u0,u1,u2]
  ·have HE:Hid (zjv j ac=(j,zaq (fillE j.now ac.h ac.b (fitT ac.text)))):=by rw[Hid,zjv,if_neg he]
   have K2:(fillE j.now ac.h ac.b (fitT ac.text) !=0)=true:=by simpa using he
   clear he ht;generalize fillE j.now ac.h ac.b (fitT ac.text)=E at *;go_wp2_with fail;have B2:=C3;have A5:Hid (ButL [B] w.heap.size w u):=ButL.of_below C4.o;have KR:=E0;have B4:w.heap.size+1<u.heap.size:=by omega
   refine(zat E _).mono ?_;rintro e w2 ⟨rfl,I⟩;have L:=zaa (zad I B4 KR.o);have O:=zaa (B2.o.below I);have Z:=zaa (A5.o.trans (Y:=[]) (ButL.of_below I) A5.o.size (by simp));clear I;obtain⟨⟨y0,y1,y2⟩,yf⟩:=zbo L.o;go_wp2;exact zbe HE.o L.o O.o Z.o A9 B5 fun W u0 u1 u2=>by simp[results,results83,go_sem,u0,u1,u2]
 have E2:=zaa C6;clear C6 C5;obtain⟨_,da,dc,db,dd,na,nc,nb,nd,ne,nf,sa,sc,sb,sd,se,sf,ca,cc,fa,fc,ta,tc,h1,hr⟩:=id O.o;have E7:D.cell? ⟨B,31,none⟩=some (.int .i64 j.now.seq):=zak h1 31;have G1:D.cell? ⟨B,32,none⟩=some (.slice na j.now.info.length nc):=zak h1 32;have G9:D.cell? ⟨B,33,none⟩=some (.slice nb j.now.data.length nd):=zak h1 33;have E5:D.cell? ⟨B,34,none⟩=some (.slice ne j.now.rev.length nf):=zak h1 34;have H2:D.cell? ⟨B,35,none⟩=some (.bool j.now.h0.on):=zak h1 35;have F7:D.cell? ⟨B,36,none⟩=some (.int .i64 j.now.h0.left):=zak h1 36;have E4:D.cell? ⟨B,37,none⟩=some (.bool j.now.h1.on):=zak h1 37;have G4:D.cell? ⟨B,38,none⟩=some (.int .i64 j.now.h1.left):=zak h1 38;have G3:D.cell? ⟨B,39,none⟩=some (.bool j.now.h2.on):=zak h1 39;have H1:D.cell? ⟨B,40,none⟩=some (.int .i64 j.now.h2.left):=zak h1 40;have I4:=zaa E7;have H8:=zaa G1;have I9:=zaa G9;have I7:=zaa E5;have J2:=zaa H2;have J5:=zaa F7;have H4:=zaa E4;have I3:=zaa G4;have J4:=zaa G3;have H6:=zaa H1;have F1:=zaa hr.2.1;have I2:=zaa hr.2.2.2.2.2.2.1;clear h1 hr E7 G1 G9 E5 H2 F7 E4 G4 G3 H1;obtain⟨⟨y0,y1,y2,y3,y4⟩,_⟩:=zjn C2.o;have A0:=zaa y0;have A1:=zaa y1;have A2:=zaa y2;have A3:=zaa y3;have A4:=zaa y4;clear y0 y1 y2 y3 y4;refine(show∀A0:Act,A0=_→Code.wp prog _ _ A0 _ from fun A0 hA0=>?_) _ rfl;have K:A0.tmps.size=57:=by rw[hA0];rfl
 have H5:A0.defers=[]:=by rw[hA0]
 have v0:A0.eval (.tmp 0)=.pointer (some ⟨B,0,none⟩):=by rw[hA0];rfl
 have v3:A0.eval (.tmp 3)=.pointer (some ⟨w.heap.size,0,none⟩):=by rw[hA0];rfl
 have v4:A0.eval (.tmp 4)=.pointer (some ⟨w.heap.size+1,0,none⟩):=by rw[hA0];rfl
 have v5:A0.eval (.tmp 5)=undef:=by rw[hA0];rfl
 clear hA0;refine zde 17 5 (zmb D) [9,10,11,12,13,14,15,16,17,18,19,20,8,21,22,5,5] (zgm B w.heap.size j ac ((w.heap.size+1)::X) na nc nb nd ne nf) (by kernel_rfl) (by kernel_rfl) (by kernel_rfl) (by kernel_rfl) (by decide) (⟨(Below.refl _ _).drew,.inl v5⟩) ⟨?_,?_,?_,?_,?_,?_,?_,?_,?_,?_,?_,?_,?_,?_,?_,?_,?_,trivial⟩ ?_
 ·intro a w' C A F;have z0:=(C.other 0 rfl).trans v0;exact zbx _ rfl rfl (by revert z0;generalize a.eval=ρ;intro z0;simp only[execOp];go_simp) C K A rfl
 ·intro a w' C A F;have p9:a.eval (.tmp 9)=.pointer (some ⟨B,0,none⟩):=F ⟨0,.data⟩ (by simp) rfl;exact zbx _ rfl rfl (by revert p9;generalize a.eval=ρ;intro p9;simp only[execOp];go_simp) C K A rfl
 ·intro a w' C A F;have F5:a.eval (.tmp 10)=.pointer (some ⟨B,0,none⟩):=F ⟨1,.data⟩ (by simp) rfl;exact zbx _ rfl rfl (by revert F5;generalize a.eval=ρ;intro F5;simp only[execOp];go_simp) C K A rfl
 ·intro a w' C A F;have E6:a.eval (.tmp 11)=.pointer (some ⟨B,31,none⟩):=F ⟨2,.data⟩ (by simp) rfl;have c0:w'.cell? ⟨B,31,none⟩=some (.int .i64 j.now.seq):=zac A.1 c I4.o;have c1:w'.cell? ⟨B,32,none⟩=some (.slice na j.now.info.length nc):=zac A.1 c H8.o;have c2:w'.cell? ⟨B,33,none⟩=some (.slice nb j.now.data.length nd):=zac A.1 c I9.o;have c3:w'.cell? ⟨B,34,none⟩=some (.slice ne j.now.rev.length nf):=zac A.1 c I7.o;have c4:w'.cell? ⟨B,35,none⟩=some (.bool j.now.h0.on):=zac A.1 c J2.o;have c5:w'.cell? ⟨B,36,none⟩=some (.int .i64 j.now.h0.left):=zac A.1 c J5.o;have c6:w'.cell? ⟨B,37,none⟩=some (.bool j.now.h1.on):=zac A.1 c H4.o;have c7:w'.cell? ⟨B,38,none⟩=some (.int .i64 j.now.h1.left):=zac A.1 c I3.o;have c8:w'.cell? ⟨B,39,none⟩=some (.bool j.now.h2.on):=zac A.1 c J4.o;have c9:w'.cell? ⟨B,40,none⟩=some (.int .i64 j.now.h2.left):=zac A.1 c H6.o;exact zbx _ rfl rfl (by revert E6;generalize a.eval=ρ;intro E6;simp only[execOp];go_simp) C K A rfl
 ·intro a w' C A F;have z3:=(C.other 3 rfl).trans v3;exact zbx _ rfl rfl (by revert z3;generalize a.eval=ρ;intro z3;simp only[execOp];go_simp) C K A rfl
 ·intro a w' C A F;have G8:a.eval (.tmp 13)=.pointer (some ⟨w.heap.size,1,none⟩):=F ⟨4,.data⟩ (by simp) rfl;have c0:w'.cell? ⟨w.heap.size,1,none⟩=some (.int .i64 ac.h):=zac A.1 C1 A1.o;exact zbx _ rfl rfl (by revert G8;generalize a.eval=ρ;intro G8;simp only[execOp];go_simp) C K A rfl
 ·intro a w' C A F;have z3:=(C.other 3 rfl).trans v3;exact zbx _ rfl rfl (by revert z3;generalize a.eval=ρ;intro z3;simp only[execOp];go_simp) C K A rfl
 ·intro a w' C A F;have G5:a.eval (.tmp 15)=.pointer (some ⟨w.heap.size,2,none⟩):=F ⟨6,.data⟩ (by simp) rfl;have c0:w'.cell? ⟨w.heap.size,2,none⟩=some (.int .i64 ac.b):=zac A.1 C1 A2.o;exact zbx _ rfl rfl (by revert G5;generalize a.eval=ρ;intro G5;simp only[execOp];go_simp) C K A rfl
 ·intro a w' C A F;have z3:=(C.other 3 rfl).trans v3;exact zbx _ rfl rfl (by revert z3;generalize a.eval=ρ;intro z3;simp only[execOp];go_simp) C K A rfl
 ·intro a w' C A F;have E3:a.eval (.tmp 17)=.pointer (some ⟨w.heap.size,4,none⟩):=F ⟨8,.data⟩ (by simp) rfl;have c0:w'.cell? ⟨w.heap.size,4,none⟩=some (.string ac.text):=zac A.1 C1 A4.o;exact zbx _ rfl rfl (by revert E3;generalize a.eval=ρ;intro E3;simp only[execOp];go_simp) C K A rfl
 ·intro a w' C A F;have H0:a.eval (.tmp 18)=.string ac.text:=F ⟨9,.data⟩ (by simp) rfl;refine zby 25 #[.string ac.text] rfl rfl (by have pf:=Act.eval_func a 25;revert H0 pf;generalize a.eval=ρ;intro H0 pf;simp only[execOp];go_simp) _ (zgt ac.text _ hsz2) ?_;rintro e w2 ⟨rfl,I⟩;refine⟨_,rfl,_,rfl,?_,?_,?_⟩
  ·show zmb D ((a.put (some 19) _).eval (.tmp 5)) w2;rw[Act.eval_put_ne _ _ _ _ (by decide)];exact zf7 A I
  ·show zgm _ _ _ _ _ _ _ _ _ _ _ _ ((a.put (some 19) _).eval (.tmp 19)) ((a.put (some 19) _).eval (.tmp 5)) w2;rw[zax C K (by decide),Act.eval_put_ne _ _ _ _ (by decide)];exact rfl
  ·intro l x hk h;show zgm _ _ _ _ _ _ _ _ _ _ _ l x ((a.put (some 19) _).eval (.tmp 5)) w2;rw[Act.eval_put_ne _ _ _ _ (by decide)];exact zmg I l x h
 ·intro a w' C A F;have F3:a.eval (.tmp 12)=.agg #[.int .i64 j.now.seq,.slice na j.now.info.length nc,.slice nb j.now.data.length nd,.slice ne j.now.rev.length nf,.bool j.now.h0.on,.int .i64 j.now.h0.left,.bool j.now.h1.on,.int .i64 j.now.h1.left,.bool j.now.h2.on,.int .i64 j.now.h2.left]:=F ⟨3,.data⟩ (by simp) rfl;have F4:a.eval (.tmp 14)=.int .i64 ac.h:=F ⟨5,.data⟩ (by simp) rfl;have F0:a.eval (.tmp 16)=.int .i64 ac.b:=F ⟨7,.data⟩ (by simp) rfl;have E8:a.eval (.tmp 19)=.string (fitT ac.text):=F ⟨10,.data⟩ (by simp) rfl;refine zby 122 #[.agg #[.int .i64 j.now.seq,.slice na j.now.info.length nc,.slice nb j.now.data.length nd,.slice ne j.now.rev.length nf,.bool j.now.h0.on,.int .i64 j.now.h0.left,.bool j.now.h1.on,.int .i64 j.now.h1.left,.bool j.now.h2.on,.int .i64 j.now.h2.left],.int .i64 ac.h,.int .i64 ac.b,.string (fitT ac.text)] rfl rfl (by have pf:=Act.eval_func a 122;revert F3 F4 F0 E8 pf;generalize a.eval=ρ;intro F3 F4 F0 E8 pf;simp only[execOp];go_simp) _ (zxg _ j.now ac.h ac.b (fitT ac.text) _ ((F1.o.ext (Ext.seenL D _)).below A.1) r1 r2) ?_;rintro e w2 ⟨S,rfl,C7,I,I0⟩;refine⟨_,rfl,_,rfl,?_,?_,?_⟩
  ·show zmb D ((a.put (some 20) _).eval (.tmp 5)) w2;rw[Act.eval_put_ne _ _ _ _ (by decide)];exact zf7 A I
  ·show zgm _ _ _ _ _ _ _ _ _ _ _ _ ((a.put (some 20) _).eval (.tmp 20)) ((a.put (some 20) _).eval (.tmp 5)) w2;rw[zax C K (by decide),Act.eval_put_ne _ _ _ _ (by decide)];exact⟨S,rfl,okTx.made J1.o F1.o I2.o A C7 I I0⟩
  ·intro l x hk h;show zgm _ _ _ _ _ _ _ _ _ _ _ l x ((a.put (some 20) _).eval (.tmp 5)) w2;rw[Act.eval_put_ne _ _ _ _ (by decide)];exact zmg I l x h
 ·intro a w' C A F;obtain⟨S,pc,ok⟩:∃S,a.eval (.tmp 20)=.tuple #[S,.int .i64 (fillE j.now ac.h ac.b (fitT ac.text))]∧okTx ((w.heap.size+1)::X) (zao j.now ac.h ac.b (fitT ac.text)) S (a.eval (.tmp 5)) w':=F ⟨11,.data⟩ (by simp) rfl;refine zbb (.tuple #[S,.int .i64 (fillE j.now ac.h ac.b (fitT ac.text))]) rfl rfl (by revert pc;generalize a.eval=ρ;intro pc;simp only[execOp];go_simp) ⟨_,rfl,?_,?_,?_⟩
  ·show zmb D ((a.put (some 8) _).eval (.tmp 5)) w';rw[Act.eval_put_ne _ _ _ _ (by decide)];exact A
  ·show zgm _ _ _ _ _ _ _ _ _ _ _ _ ((a.put (some 8) _).eval (.tmp 8)) ((a.put (some 8) _).eval (.tmp 5)) w';rw[zax C K (by decide),Act.eval_put_ne _ _ _ _ (by decide)];exact⟨S,rfl,ok⟩
  ·intro l x hk h;show zgm _ _ _ _ _ _ _ _ _ _ _ l x ((a.put (some 8) _).eval (.tmp 5)) w';rw[Act.eval_put_ne _ _ _ _ (by decide)];exact h
 ·intro a w' C A F;obtain⟨S,pm,ok⟩:∃S,a.eval (.tmp 8)=.tuple #[S,.int .i64 (fillE j.now ac.h ac.b (fitT ac.text))]∧okTx ((w.heap.size+1)::X) (zao j.now ac.h ac.b (fitT ac.text)) S (a.eval (.tmp 5)) w':=F ⟨12,.data⟩ (by simp) rfl;refine zbb (S) rfl rfl (by revert pm;generalize a.eval=ρ;intro pm;simp only[execOp];go_simp) ⟨_,rfl,?_,?_,?_⟩
  ·show zmb D ((a.put (some 21) _).eval (.tmp 5)) w';rw[Act.eval_put_ne _ _ _ _ (by decide)];exact A
  ·show zgm _ _ _ _ _ _ _ _ _ _ _ _ ((a.put (some 21) _).eval (.tmp 21)) ((a.put (some 21) _).eval (.tmp 5)) w';rw[zax C K (by decide),Act.eval_put_ne _ _ _ _ (by decide)];exact ok
  ·intro l x hk h;show zgm _ _ _ _ _ _ _ _ _ _ _ l x ((a.put (some 21) _).eval (.tmp 5)) w';rw[Act.eval_put_ne _ _ _ _ (by decide)];exact h
 ·intro a w' C A F;obtain⟨S,pm,ok⟩:∃S,a.eval (.tmp 8)=.tuple #[S,.int .i64 (fillE j.now ac.h ac.b (fitT ac.text))]∧okTx ((w.heap.size+1)::X) (zao j.now ac.h ac.b (fitT ac.text)) S (a.eval (.tmp 5)) w':=F ⟨12,.data⟩ (by simp) rfl;exact zbx _ rfl rfl (by revert pm;generalize a.eval=ρ;intro pm;simp only[execOp];go_simp) C K A rfl
 ·intro a w' C A F;refine zgj (.pointer (some ⟨w'.heap.size,0,none⟩)) rfl rfl (w':=w'.alloc (.cells #[.int .i64 0,.slice none 0 0,.slice none 0 0,.slice none 0 0,.bool false,.int .i64 0,.bool false,.int .i64 0,.bool false,.int .i64 0] 40)) (by simp only[execOp];go_simp) ⟨_,rfl,?_,?_,?_⟩
  ·show zmb D ((a.put (some 5) _).eval (.tmp 5)) _;rw[zax C K (by decide)];exact⟨A.1.alloc A.1.size _,.inr ⟨_,rfl,A.1.size,by simp,_,_,_,_,_,_,_,_,_,_,heap_alloc_new _ _⟩⟩
  ·show zgm _ _ _ _ _ _ _ _ _ _ _ _ ((a.put (some 5) _).eval (.tmp 5)) ((a.put (some 5) _).eval (.tmp 5)) _;rw[zax C K (by decide)];exact⟨_,rfl⟩
  ·intro l x hk h;show zgm _ _ _ _ _ _ _ _ _ _ _ l x ((a.put (some 5) _).eval (.tmp 5)) _;rw[zax C K (by decide)];exact zua _ l x h
 ·intro a w' C A F;obtain⟨T,U⟩:∃T,a.eval (.tmp 5)=.pointer (some ⟨T,0,none⟩):=F ⟨15,.data⟩ (by simp) rfl;have ok:okTx ((w.heap.size+1)::X) (zao j.now ac.h ac.b (fitT ac.text)) (a.eval (.tmp 21)) (a.eval (.tmp 5)) w':=F ⟨13,.data⟩ (by simp) rfl
  obtain⟨B3,C7,c0,c1,c2,c3,c4,c5,c6,c7,c8,c9,s⟩:D.heap.size≤T∧T<w'.heap.size∧∃c0 c1 c2 c3 c4 c5 c6 c7 c8 c9,w'.heap[T]?=some (.cells #[c0,c1,c2,c3,c4,c5,c6,c7,c8,c9] 40 (0,0)):=by
   rcases A.2 with h0|⟨T',e,h3,h4,h5⟩
   ·rw[h0]at U;cases U
   ·rw[e]at U;cases U;exact⟨h3,h4,h5⟩
  have z:=ok.2.2 T U;have A7:=ok.2.1;obtain⟨p,m,d,r,i,q,hv,_⟩:=id z;rw[hv]at z A7;obtain⟨⟨t0,t1,t2,t3,t4,t5,t6,t7,t8,t9⟩,tf⟩:=zaj s;refine zcw rfl rfl (w':=((((((((((w'.setCell ⟨T,0,none⟩ (.int .i64 (zao j.now ac.h ac.b (fitT ac.text)).seq)).setCell ⟨T,1,none⟩ (.slice p (zao j.now ac.h ac.b (fitT ac.text)).info.length m)).setCell ⟨T,2,none⟩ (.slice d (zao j.now ac.h ac.b (fitT ac.text)).data.length r)).setCell ⟨T,3,none⟩ (.slice i (zao j.now ac.h ac.b (fitT ac.text)).rev.length q)).setCell ⟨T,4,none⟩ (.bool (zao j.now ac.h ac.b (fitT ac.text)).h0.on)).setCell ⟨T,5,none⟩ (.int .i64 (zao j.now ac.h ac.b (fitT ac.text)).h0.left)).setCell ⟨T,6,none⟩ (.bool (zao j.now ac.h ac.b (fitT ac.text)).h1.on)).setCell ⟨T,7,none⟩ (.int .i64 (zao j.now ac.h ac.b (fitT ac.text)).h1.left)).setCell ⟨T,8,none⟩ (.bool (zao j.now ac.h ac.b (fitT ac.text)).h2.on)).setCell ⟨T,9,none⟩ (.int .i64 (zao j.now ac.h ac.b (fitT ac.text)).h2.left))) (by revert U hv;generalize a.eval=ρ;intro U hv;simp only[execOp];go_simp) ⟨_,rfl,?_,?_,?_⟩
  ·show zmb D (a.eval (.tmp 5)) _;exact⟨Below.set10 A.1 B3 _ _ _ _ _ _ _ _ _ _,.inr ⟨T,U,B3,by simpa[World.setCell] using C7,_,_,_,_,_,_,_,_,_,_,zh2 s _ _ _ _ _ _ _ _ _ _⟩⟩
  ·show zgm _ _ _ _ _ _ _ _ _ _ _ _ (a.eval (.tmp 5)) (a.eval (.tmp 5)) _;exact⟨T,p,m,d,r,i,q,U,zh2 s _ _ _ _ _ _ _ _ _ _,z.ext (zo9 (by simp) w' _ _ _ _ _ _ _ _ _ _),A7⟩
  ·intro l x hk h;show zgm _ _ _ _ _ _ _ _ _ _ _ l x (a.eval (.tmp 5)) _;rw[U]at h⊢;exact zub (fun t x h=>h.store _ _ _ _ _ _ _ _ _ _) l x hk h
 ·intro a W C A F;obtain⟨T,p,m,d,r,i,q,U,s,z,A7⟩:∃T p m d r i q,a.eval (.tmp 5)=.pointer (some ⟨T,0,none⟩)∧W.heap[T]?=some (.cells #[.int .i64 (zao j.now ac.h ac.b (fitT ac.text)).seq,.slice p (zao j.now ac.h ac.b (fitT ac.text)).info.length m,.slice d (zao j.now ac.h ac.b (fitT ac.text)).data.length r,.slice i (zao j.now ac.h ac.b (fitT ac.text)).rev.length q,.bool (zao j.now ac.h ac.b (fitT ac.text)).h0.on,.int .i64 (zao j.now ac.h ac.b (fitT ac.text)).h0.left,.bool (zao j.now ac.h ac.b (fitT ac.text)).h1.on,.int .i64 (zao j.now ac.h ac.b (fitT ac.text)).h1.left,.bool (zao j.now ac.h ac.b (fitT ac.text)).h2.on,.int .i64 (zao j.now ac.h ac.b (fitT ac.text)).h2.left] 40 (0,0))∧IsTx (zas W (T::(w.heap.size+1)::X)) (.agg #[.int .i64 (zao j.now ac.h ac.b (fitT ac.text)).seq,.slice p (zao j.now ac.h ac.b (fitT ac.text)).info.length m,.slice d (zao j.now ac.h ac.b (fitT ac.text)).data.length r,.slice i (zao j.now ac.h ac.b (fitT ac.text)).rev.length q,.bool (zao j.now ac.h ac.b (fitT ac.text)).h0.on,.int .i64 (zao j.now ac.h ac.b (fitT ac.text)).h0.left,.bool (zao j.now ac.h ac.b (fitT ac.text)).h1.on,.int .i64 (zao j.now ac.h ac.b (fitT ac.text)).h1.left,.bool (zao j.now ac.h ac.b (fitT ac.text)).h2.on,.int .i64 (zao j.now ac.h ac.b (fitT ac.text)).h2.left]) (zao j.now ac.h ac.b (fitT ac.text))∧RoomTx (.agg #[.int .i64 (zao j.now ac.h ac.b (fitT ac.text)).seq,.slice p (zao j.now ac.h ac.b (fitT ac.text)).info.length m,.slice d (zao j.now ac.h ac.b (fitT ac.text)).data.length r,.slice i (zao j.now ac.h ac.b (fitT ac.text)).rev.length q,.bool (zao j.now ac.h ac.b (fitT ac.text)).h0.on,.int .i64 (zao j.now ac.h ac.b (fitT ac.text)).h0.left,.bool (zao j.now ac.h ac.b (fitT ac.text)).h1.on,.int .i64 (zao j.now ac.h ac.b (fitT ac.text)).h1.left,.bool (zao j.now ac.h ac.b (fitT ac.text)).h2.on,.int .i64 (zao j.now ac.h ac.b (fitT ac.text)).h2.left]):=F 16 (by decide);have pE:a.eval (.tmp 22)=.int .i64 (fillE j.now ac.h ac.b (fitT ac.text)):=F 14 (by decide)
  have B3:D.heap.size≤T:=by
   rcases A.2 with h0|⟨T',e,h3,h4,h5⟩
   ·rw[h0]at U;cases U
   ·rw[e]at U;cases U;exact h3
  show wpOps prog _ _ [17] a W;rw[wpOps_cons];refine zbb (.int .i64 (fillE j.now ac.h ac.b (fitT ac.text))) rfl rfl (by revert pE;generalize a.eval=ρ;intro pE;simp only[execOp];go_simp) ?_;have F9:a.tmps.size=57:=C.size.trans K;obtain⟨a2,y⟩:∃a2,a2=a.put (some 6) (.int .i64 (fillE j.now ac.h ac.b (fitT ac.text))):=⟨_,rfl⟩;have f6:a2.eval (.tmp 6)=.int .i64 (fillE j.now ac.h ac.b (fitT ac.text)):=by rw[y];exact Act.eval_put_same _ _ _ (by rw[F9];decide)
  have f0:a2.eval (.tmp 0)=.pointer (some ⟨B,0,none⟩):=by rw[y,Act.eval_put_ne _ _ _ _ (by decide)];exact(C.other 0 rfl).trans v0
  have f3:a2.eval (.tmp 3)=.pointer (some ⟨w.heap.size,0,none⟩):=by rw[y,Act.eval_put_ne _ _ _ _ (by decide)];exact(C.other 3 rfl).trans v3
  have f4:a2.eval (.tmp 4)=.pointer (some ⟨w.heap.size+1,0,none⟩):=by rw[y,Act.eval_put_ne _ _ _ _ (by decide)];exact(C.other 4 rfl).trans v4
  have f5:a2.eval (.tmp 5)=.pointer (some ⟨T,0,none⟩):=by rw[y,Act.eval_put_ne _ _ _ _ (by decide)];exact U
  have B7:a2=⟨#[_,_,_,_,_,_,_,_,_,_,_,_,_,_,_,_,_,_,_,_,_,_,_,_,_,_,_,_,_,_,_,_,_,_,_,_,_,_,_,_,_,_,_,_,_,_,_,_,_,_,_,_,_,_,_,_,_],[]⟩:=zci a2 57 (by rw[y,Act.size_put];exact F9) (by rw[y,Act.defers_put'];exact C.defers.trans H5);dsimp only at B7;rw[f0,f3,f4,f5,f6]at B7;show KK (a.put (some 6) (.int .i64 (fillE j.now ac.h ac.b (fitT ac.text)))) _;rw[←y];exact(congrArg (fun x=>KK x _) B7).mpr (E2.o (fun k=>a2.eval (.tmp k)) _ T p m d r i q z A7 s B3 A.1)
def zhi (B:Nat)(D:Nat)(j:Jn)(ac:Ac)(X:List Nat)(na:Option Addr)(nc:Nat)(nb:Option Addr)(nd:Nat)(ne:Option Addr)(nf:Nat):Nat→Value→Value→World→Prop
 |0,v,_,_=>v=.pointer (some ⟨B,0,none⟩)
 |1,v,_,_=>v=.pointer (some ⟨B,0,none⟩)
 |2,v,_,_=>v=.pointer (some ⟨B,31,none⟩)
 |3,v,_,_=>v=.agg #[.int .i64 j.now.seq,.slice na j.now.info.length nc,.slice nb j.now.data.length nd,.slice ne j.now.rev.length nf,.bool j.now.h0.on,.int .i64 j.now.h0.left,.bool j.now.h1.on,.int .i64 j.now.h1.left,.bool j.now.h2.on,.int .i64 j.now.h2.left]
 |4,v,_,_=>v=.pointer (some ⟨D,1,none⟩)
 |5,v,_,_=>v=.int .i64 ac.h
 |6,v,_,_=>v=.pointer (some ⟨D,2,none⟩)
 |7,v,_,_=>v=.int .i64 ac.b
 |8,v,u,w=>∃v2,v=.tuple #[v2,.int .i64 (revokeE j.now ac.h ac.b)]∧okTx X (zag j.now ac.h ac.b) v2 u w
 |9,v,u,w=>∃v2,v=.tuple #[v2,.int .i64 (revokeE j.now ac.h ac.b)]∧okTx X (zag j.now ac.h ac.b) v2 u w
 |10,v,u,w=>okTx X (zag j.now ac.h ac.b) v u w
 |11,v,_,_=>v=.int .i64 (revokeE j.now ac.h ac.b)
 |12,v,_,_=>∃T,v=.pointer (some ⟨T,0,none⟩)
 |13,v,_,w=>∃T ua uc ub ud ue uf,v=.pointer (some ⟨T,0,none⟩)∧w.heap[T]?=some (.cells #[.int .i64 (zag j.now ac.h ac.b).seq,.slice ua (zag j.now ac.h ac.b).info.length uc,.slice ub (zag j.now ac.h ac.b).data.length ud,.slice ue (zag j.now ac.h ac.b).rev.length uf,.bool (zag j.now ac.h ac.b).h0.on,.int .i64 (zag j.now ac.h ac.b).h0.left,.bool (zag j.now ac.h ac.b).h1.on,.int .i64 (zag j.now ac.h ac.b).h1.left,.bool (zag j.now ac.h ac.b).h2.on,.int .i64 (zag j.now ac.h ac.b).h2.left] 40 (0,0))∧IsTx (zas w (T::X)) (.agg #[.int .i64 (zag j.now ac.h ac.b).seq,.slice ua (zag j.now ac.h ac.b).info.length uc,.slice ub (zag j.now ac.h ac.b).data.length ud,.slice ue (zag j.now ac.h ac.b).rev.length uf,.bool (zag j.now ac.h ac.b).h0.on,.int .i64 (zag j.now ac.h ac.b).h0.left,.bool (zag j.now ac.h ac.b).h1.on,.int .i64 (zag j.now ac.h ac.b).h1.left,.bool (zag j.now ac.h ac.b).h2.on,.int .i64 (zag j.now ac.h ac.b).h2.left]) (zag j.now ac.h ac.b)∧RoomTx (.agg #[.int .i64 (zag j.now ac.h ac.b).seq,.slice ua (zag j.now ac.h ac.b).info.length uc,.slice ub (zag j.now ac.h ac.b).data.length ud,.slice ue (zag j.now ac.h ac.b).rev.length uf,.bool (zag j.now ac.h ac.b).h0.on,.int .i64 (zag j.now ac.h ac.b).h0.left,.bool (zag j.now ac.h ac.b).h1.on,.int .i64 (zag j.now ac.h ac.b).h1.left,.bool (zag j.now ac.h ac.b).h2.on,.int .i64 (zag j.now ac.h ac.b).h2.left])
 |_,_,_,_=>True
theorem zuc{B:Nat}{D:Nat}{j:Jn}{ac:Ac}{X:List Nat}{na:Option Addr}{nc:Nat}{nb:Option Addr}{nd:Nat}{ne:Option Addr}{nf:Nat}{u:Value}{w w':World}(hb:Below w.heap.size w w'):∀kk x,zhi B D j ac X na nc nb nd ne nf kk x u w→zhi B D j ac X na nc nb nd ne nf kk x u w':=by
 intro kk x h
 match kk,h with
 |0,h|1,h|2,h|3,h|4,h|5,h|6,h|7,h=>exact h
 |8,⟨v2,h1,h2⟩=>exact⟨v2,h1,h2.below hb⟩
 |9,⟨v2,h1,h2⟩=>exact⟨v2,h1,h2.below hb⟩
 |10,h=>exact h.below hb
 |11,h|12,h=>exact h
 |13,⟨T,ua,uc,ub,ud,ue,uf,h1,h2,h3,h4⟩=>exact⟨T,ua,uc,ub,ud,ue,uf,h1,zad hb (Array.getElem?_eq_some_iff.1 h2).1 h2,h3.ext (Ext.freshL hb),h4⟩
 |_+14,_=>exact trivial
theorem zud{B:Nat}{D:Nat}{j:Jn}{ac:Ac}{X:List Nat}{na:Option Addr}{nc:Nat}{nb:Option Addr}{nd:Nat}{ne:Option Addr}{nf:Nat}{u:Value}{w:World}(o:Obj):∀kk x,zhi B D j ac X na nc nb nd ne nf kk x u w→zhi B D j ac X na nc nb nd ne nf kk x (.pointer (some ⟨w.heap.size,0,none⟩)) (w.alloc o):=by
 intro kk x h
 match kk,h with
 |0,h|1,h|2,h|3,h|4,h|5,h|6,h|7,h=>exact h
 |8,⟨v2,h1,h2⟩=>exact⟨v2,h1,h2.alloc o⟩
 |9,⟨v2,h1,h2⟩=>exact⟨v2,h1,h2.alloc o⟩
 |10,h=>exact h.alloc o
 |11,h|12,h=>exact h
 |13,⟨T,ua,uc,ub,ud,ue,uf,h1,h2,h3,h4⟩=>exact⟨T,ua,uc,ub,ud,ue,uf,h1,zad (zab _ _) (Array.getElem?_eq_some_iff.1 h2).1 h2,h3.ext (Ext.freshL (zab _ _)),h4⟩
 |_+14,_=>exact trivial
theorem zue{B:Nat}{D:Nat}{j:Jn}{ac:Ac}{X:List Nat}{na:Option Addr}{nc:Nat}{nb:Option Addr}{nd:Nat}{ne:Option Addr}{nf:Nat}{u:Value}{w w':World}(hs:∀t x,okTx X t x u w→okTx X t x u w'):∀kk x,kk≠13→zhi B D j ac X na nc nb nd ne nf kk x u w→zhi B D j ac X na nc nb nd ne nf kk x u w':=by
 intro kk x A h
 match kk,h with
 |0,h|1,h|2,h|3,h|4,h|5,h|6,h|7,h=>exact h
 |8,⟨y,h1,h2⟩=>exact⟨y,h1,hs _ _ h2⟩
 |9,⟨y,h1,h2⟩=>exact⟨y,h1,hs _ _ h2⟩
 |10,h=>exact hs _ _ h
 |11,h|12,h=>exact h
 |13,_=>exact absurd rfl A
 |_+14,_=>exact trivial
theorem zuf(B:Nat)(X:List Nat)(j:Jn)(w:World)(h:JAt w B X j)(hX:∀x∈X,x<w.heap.size)(ac:Ac)(r1:j.now.info.length*24≤140737488355328)(r2:j.now.data.length*24≤140737488355328):
  Calls prog 84 #[.pointer (some ⟨B,0,none⟩),.agg #[.int .i64 ac.kind,.int .i64 ac.h,.int .i64 ac.b,.int .i64 ac.n,.string ac.text]] w (zdj w B X (ze6 j ac)):=by
 have HJ:=zaa h;have I9:=h.lt;have B0:=h.1;have HX:=zaa hX;clear h hX;go_enter func84,ntmps84;go_wp2;rename_i KK B7;obtain⟨D,s⟩:∃D,D=(w.alloc (.cells #[.int .i64 ac.kind,.int .i64 ac.h,.int .i64 ac.b,.int .i64 ac.n,.string ac.text] 23)).alloc (.cells #[.int .i64 0,.int .i64 0,.string ⟨#[]⟩] 31):=⟨_,rfl⟩;have E7:(w.alloc (.cells #[.int .i64 ac.kind,.int .i64 ac.h,.int .i64 ac.b,.int .i64 ac.n,.string ac.text] 23)).heap.size=w.heap.size+1:=by simp
 have i:Hid (JAt D B ((w.heap.size+1)::X) j):=by rw[s];exact(HJ.o.below (zab _ _)).more (zab _ _) (by omega)
 have p:Hid (Below w.heap.size w D):=by rw[s];exact zae (zab _ _) (zab _ _)
 have L:Hid (D.heap[w.heap.size+1]?=some (.cells #[.int .i64 0,.int .i64 0,.string ⟨#[]⟩] 31 (0,0))):=by rw[s,←E7];exact heap_alloc_new _ _
 have B4:Hid (D.heap[w.heap.size]?=some (.cells #[.int .i64 ac.kind,.int .i64 ac.h,.int .i64 ac.b,.int .i64 ac.n,.string ac.text] 23 (0,0))):=by rw[s];exact zad (zab _ _) (by omega) (heap_alloc_new _ _)
 have I5:D.heap.size=w.heap.size+2:=by rw[s];simp
 have H7:Hid (∀x∈((w.heap.size+1)::X),x<D.heap.size):=fun x hx=>by
  rcases List.mem_cons.1 hx with rfl|hx
  ·omega
  ·have:=HX.o x hx;omega
 rw[←s];clear s E7;have O:B<D.heap.size:=by omega
 have D4:w.heap.size<D.heap.size:=by omega
 have B8:∀(g:Nat→Value) (l:World) (T:Nat) (U:Option Addr) (S:Nat) (Q:Option Addr) (c:Nat) (R:Option Addr) (Z:Nat),IsTx (zas l (T::((w.heap.size+1)::X))) (.agg #[.int .i64 (zag j.now ac.h ac.b).seq,.slice U (zag j.now ac.h ac.b).info.length S,.slice Q (zag j.now ac.h ac.b).data.length c,.slice R (zag j.now ac.h ac.b).rev.length Z,.bool (zag j.now ac.h ac.b).h0.on,.int .i64 (zag j.now ac.h ac.b).h0.left,.bool (zag j.now ac.h ac.b).h1.on,.int .i64 (zag j.now ac.h ac.b).h1.left,.bool (zag j.now ac.h ac.b).h2.on,.int .i64 (zag j.now ac.h ac.b).h2.left]) (zag j.now ac.h ac.b)→RoomTx (.agg #[.int .i64 (zag j.now ac.h ac.b).seq,.slice U (zag j.now ac.h ac.b).info.length S,.slice Q (zag j.now ac.h ac.b).data.length c,.slice R (zag j.now ac.h ac.b).rev.length Z,.bool (zag j.now ac.h ac.b).h0.on,.int .i64 (zag j.now ac.h ac.b).h0.left,.bool (zag j.now ac.h ac.b).h1.on,.int .i64 (zag j.now ac.h ac.b).h1.left,.bool (zag j.now ac.h ac.b).h2.on,.int .i64 (zag j.now ac.h ac.b).h2.left])→l.heap[T]?=some (.cells #[.int .i64 (zag j.now ac.h ac.b).seq,.slice U (zag j.now ac.h ac.b).info.length S,.slice Q (zag j.now ac.h ac.b).data.length c,.slice R (zag j.now ac.h ac.b).rev.length Z,.bool (zag j.now ac.h ac.b).h0.on,.int .i64 (zag j.now ac.h ac.b).h0.left,.bool (zag j.now ac.h ac.b).h1.on,.int .i64 (zag j.now ac.h ac.b).h1.left,.bool (zag j.now ac.h ac.b).h2.on,.int .i64 (zag j.now ac.h ac.b).h2.left] 40 (0,0))→D.heap.size≤T→Below D.heap.size D l→KK ⟨#[.pointer (some ⟨B,0,none⟩),g 1,g 2,.pointer (some ⟨w.heap.size,0,none⟩),.pointer (some ⟨w.heap.size+1,0,none⟩),.pointer (some ⟨T,0,none⟩),.int .i64 (revokeE j.now ac.h ac.b),g 7,g 8,g 9,g 10,g 11,g 12,g 13,g 14,g 15,g 16,g 17,g 18,g 19,g 20,g 21,g 22,g 23,g 24,g 25,g 26,g 27,g 28,g 29,g 30,g 31,g 32,g 33,g 34,g 35,g 36,g 37,g 38,g 39,g 40,g 41,g 42,g 43],[]⟩ l:=by
  intro g l T U S Q c R Z q z d A9 A6;apply B7;clear B7;have C0:=zaa (q.ext (Ext.lessL T));have F5:=zaa z;have KT:=zaa d;have B5:=zaa (i.o.below A6);have B6:=zaa (zae p.o A6);have D2:=zaa (zad A6 (show w.heap.size+1<D.heap.size by omega) L.o);have C3:=zaa (zad A6 D4 B4.o);have J1:D.heap.size≤l.heap.size:=A6.size;have G5:T<l.heap.size:=(Array.getElem?_eq_some_iff.1 d).1;clear q z d A6 i p L B4;obtain⟨t,ht⟩:∃t,t=zag j.now ac.h ac.b:=⟨_,rfl⟩;rw[←ht]at C0 F5 KT;have A7:w.heap.size+1≠B:=by omega
  by_cases he:revokeE j.now ac.h ac.b=0
  ·obtain⟨H6,H2⟩:=zrj he;obtain⟨J,D3⟩:∃J:Nat,ac.b=(J:Int):=⟨ac.b.toNat,by omega⟩;have B1:J<12:=by omega
   have HW:Hid (ze6 j ac=if j.role J=0 then(j,zaq 8) else({j with role:=upd j.role J 0,freed:=upd j.freed J t.seq,now:=t},zaq 0)):=by
    rw[Hid,ze6,if_pos he,←ht,D3,Int.toNat_natCast]
   rw[he];rw[D3]at C3;clear he ht D3 H6 H2;obtain⟨⟨y0,y1,y2,y3,y4⟩,yf⟩:=zjn C3.o;have I4:(0:Int)≤(J:Int):=by omega
   have I2:(J:Int)<12:=by omega
   go_wp2
   go_quiet (fail)
   obtain⟨W5,C8⟩:∃W5,W5=l.drewN nq:=⟨_,rfl⟩;have A5:Below l.heap.size l W5:=by rw[C8];exact below_drewN (Below.refl _ _) _
   have B3:=zaa (B5.o.below A5);have C4:Hid (ButL [B] w.heap.size w W5):=ButL.of_below (zae B6.o A5);have C9:=zaa (zad A5 (show w.heap.size+1<l.heap.size by omega) D2.o);have F6:=zaa (zad A5 G5 KT.o);have C2:=zaa (C0.o.ext (Ext.freshL A5));have I6:l.heap.size≤W5.heap.size:=A5.size;rw[←C8];clear C8 A5 y0 y1 y2 y3 y4 yf B5 B6 D2 KT C0 C3;obtain⟨E6,H4,H8,G7⟩:=B3.o.role J B1;by_cases hro:j.role J=0
   ·have HE:Hid (ze6 j ac=(j,zaq 8)):=by rw[Hid,HW.o,if_pos hro]
    rw[hro]at E6;clear hro HW;go_wp2_with fail;have C6:=B3;have A8:=C4;have KR:=C9;have D1:w.heap.size+1<W5.heap.size:=by omega
    refine(zat 8 _).mono ?_;rintro e w2 ⟨rfl,K⟩;have L:=zaa (zad K D1 KR.o);have i:=zaa (C6.o.below K);have p:=zaa (A8.o.trans (Y:=[]) (ButL.of_below K) A8.o.size (by simp));clear K;obtain⟨⟨y0,y1,y2⟩,yf⟩:=zbo L.o;go_wp2;exact zbe HE.o L.o i.o p.o A7 B0 fun W u0 u1 u2=>by simp[results,results84,go_sem,u0,u1,u2]
   ·have HE:Hid (ze6 j ac=({j with role:=upd j.role J 0,freed:=upd j.freed J t.seq,now:=t},zaq 0)):=by rw[Hid,HW.o,if_neg hro]
    have I3:(j.role J==0)=false:=by simpa using hro
    clear hro HW;obtain⟨⟨t0,t1,t2,t3,t4,t5,t6,t7,t8,t9⟩,tf⟩:=zaj F6.o;have I7:¬T=B:=by omega
    have J0:¬B=T:=by omega
    go_wp2_with fail;obtain⟨W6,u⟩:∃W6,W6=(W5.setCell ⟨B,7+J*2,none⟩ (.int .i64 0)).setCell ⟨B,7+J*2+1,none⟩ (.int .i64 t.seq):=⟨_,rfl⟩;have G1:Hid (JAt W6 B ((w.heap.size+1)::X) {j with role:=upd j.role J 0,freed:=upd j.freed J t.seq}):=by rw[u,show 7+J*2+1=8+J*2 by omega];exact(B3.o.putRole J B1 0).putFreed J B1 t.seq
    have C1:Hid (IsTx (zas W6 ((w.heap.size+1)::X)) (.agg #[.int .i64 t.seq,.slice U t.info.length S,.slice Q t.data.length c,.slice R t.rev.length Z,.bool t.h0.on,.int .i64 t.h0.left,.bool t.h1.on,.int .i64 t.h1.left,.bool t.h2.on,.int .i64 t.h2.left]) t):=by rw[u];exact(C2.o.ext (Ext.setL (by simp[B0]) _ _)).ext (Ext.setL (by simp[B0]) _ _)
    have C7:Hid (ButL [B] w.heap.size w W6):=by rw[u];exact(C4.o.set (.inl (by simp)) _ _).set (.inl (by simp)) _ _
    have E2:Hid (W6.heap[w.heap.size+1]?=some (.cells #[.int .i64 0,.int .i64 0,.string ⟨#[]⟩] 31 (0,0))):=by rw[u];exact(Below.heap_setCell _ _ _ _ A7).trans ((Below.heap_setCell _ _ _ _ A7).trans C9.o)
    have J2:W6.heap.size=W5.heap.size:=by rw[u];simp[World.setCell]
    rw[←u];clear u E6 H8 H4 G7 t0 t1 t2 t3 t4 t5 t6 t7 t8 t9 tf B3 C2 C4 C9 F6;refine(zji B ((w.heap.size+1)::X) _ W6 G1.o t U S Q c R Z C1.o F5.o 0).mono ?_;rintro e w2 ⟨rfl,F0,C5⟩;have i:Hid (JAt w2 B ((w.heap.size+1)::X) {j with role:=upd j.role J 0,freed:=upd j.freed J t.seq,now:=t}):=F0;have p:=zaa (C7.o.trans (Y:=[B]) C5 C7.o.size (by simp));have L:=zaa ((C5.block _ (show w.heap.size+1<W6.heap.size by omega) (by simpa using A7)).trans E2.o);clear F0 C5 G1 C7 E2 C1;dsimp only[zls,vRp,zaq];obtain⟨⟨y0,y1,y2⟩,yf⟩:=zbo L.o;go_wp2;exact zbe HE.o L.o i.o p.o A7 B0 fun W u0 u1 u2=>by simp[results,results84,go_sem,u0,u1,u2]
  ·have HE:Hid (ze6 j ac=(j,zaq (revokeE j.now ac.h ac.b))):=by rw[Hid,ze6,if_neg he]
   have I8:(revokeE j.now ac.h ac.b !=0)=true:=by simpa using he
   clear he ht;generalize revokeE j.now ac.h ac.b=E at *;go_wp2_with fail;have C6:=B5;have A8:Hid (ButL [B] w.heap.size w l):=ButL.of_below B6.o;have KR:=D2;have D1:w.heap.size+1<l.heap.size:=by omega
   refine(zat E _).mono ?_;rintro e w2 ⟨rfl,K⟩;have L:=zaa (zad K D1 KR.o);have i:=zaa (C6.o.below K);have p:=zaa (A8.o.trans (Y:=[]) (ButL.of_below K) A8.o.size (by simp));clear K;obtain⟨⟨y0,y1,y2⟩,yf⟩:=zbo L.o;go_wp2;exact zbe HE.o L.o i.o p.o A7 B0 fun W u0 u1 u2=>by simp[results,results84,go_sem,u0,u1,u2]
 have D5:=zaa B8;clear B8 B7;obtain⟨_,da,dc,db,dd,na,nc,nb,nd,ne,nf,sa,sc,sb,sd,se,sf,ca,cc,fa,fc,ta,tc,y,hr⟩:=id i.o;have D9:D.cell? ⟨B,31,none⟩=some (.int .i64 j.now.seq):=zak y 31;have F1:D.cell? ⟨B,32,none⟩=some (.slice na j.now.info.length nc):=zak y 32;have F8:D.cell? ⟨B,33,none⟩=some (.slice nb j.now.data.length nd):=zak y 33;have D7:D.cell? ⟨B,34,none⟩=some (.slice ne j.now.rev.length nf):=zak y 34;have G0:D.cell? ⟨B,35,none⟩=some (.bool j.now.h0.on):=zak y 35;have E8:D.cell? ⟨B,36,none⟩=some (.int .i64 j.now.h0.left):=zak y 36;have D6:D.cell? ⟨B,37,none⟩=some (.bool j.now.h1.on):=zak y 37;have F3:D.cell? ⟨B,38,none⟩=some (.int .i64 j.now.h1.left):=zak y 38;have F2:D.cell? ⟨B,39,none⟩=some (.bool j.now.h2.on):=zak y 39;have F9:D.cell? ⟨B,40,none⟩=some (.int .i64 j.now.h2.left):=zak y 40;have H1:=zaa D9;have G6:=zaa F1;have H5:=zaa F8;have H3:=zaa D7;have H9:=zaa G0;have I1:=zaa E8;have G2:=zaa D6;have H0:=zaa F3;have I0:=zaa F2;have G4:=zaa F9;have E1:=zaa hr.2.1;have G9:=zaa hr.2.2.2.2.2.2.1;clear y hr D9 F1 F8 D7 G0 E8 D6 F3 F2 F9;obtain⟨⟨y0,y1,y2,y3,y4⟩,_⟩:=zjn B4.o;have A0:=zaa y0;have A1:=zaa y1;have A2:=zaa y2;have A3:=zaa y3;have A4:=zaa y4;clear y0 y1 y2 y3 y4;refine(show∀A0:Act,A0=_→Code.wp prog _ _ A0 _ from fun A0 hA0=>?_) _ rfl;have I:A0.tmps.size=44:=by rw[hA0];rfl
 have G3:A0.defers=[]:=by rw[hA0]
 have v0:A0.eval (.tmp 0)=.pointer (some ⟨B,0,none⟩):=by rw[hA0];rfl
 have v3:A0.eval (.tmp 3)=.pointer (some ⟨w.heap.size,0,none⟩):=by rw[hA0];rfl
 have v4:A0.eval (.tmp 4)=.pointer (some ⟨w.heap.size+1,0,none⟩):=by rw[hA0];rfl
 have v5:A0.eval (.tmp 5)=undef:=by rw[hA0];rfl
 clear hA0;refine zde 14 5 (zmb D) [9,10,11,12,13,14,15,16,17,8,18,19,5,5] (zhi B w.heap.size j ac ((w.heap.size+1)::X) na nc nb nd ne nf) (by kernel_rfl) (by kernel_rfl) (by kernel_rfl) (by kernel_rfl) (by decide) (⟨(Below.refl _ _).drew,.inl v5⟩) ⟨?_,?_,?_,?_,?_,?_,?_,?_,?_,?_,?_,?_,?_,?_,trivial⟩ ?_
 ·intro a w' C A F;have z0:=(C.other 0 rfl).trans v0;exact zbx _ rfl rfl (by revert z0;generalize a.eval=ρ;intro z0;simp only[execOp];go_simp) C I A rfl
 ·intro a w' C A F;have p9:a.eval (.tmp 9)=.pointer (some ⟨B,0,none⟩):=F ⟨0,.data⟩ (by simp) rfl;exact zbx _ rfl rfl (by revert p9;generalize a.eval=ρ;intro p9;simp only[execOp];go_simp) C I A rfl
 ·intro a w' C A F;have E5:a.eval (.tmp 10)=.pointer (some ⟨B,0,none⟩):=F ⟨1,.data⟩ (by simp) rfl;exact zbx _ rfl rfl (by revert E5;generalize a.eval=ρ;intro E5;simp only[execOp];go_simp) C I A rfl
 ·intro a w' C A F;have D8:a.eval (.tmp 11)=.pointer (some ⟨B,31,none⟩):=F ⟨2,.data⟩ (by simp) rfl;have c0:w'.cell? ⟨B,31,none⟩=some (.int .i64 j.now.seq):=zac A.1 O H1.o;have c1:w'.cell? ⟨B,32,none⟩=some (.slice na j.now.info.length nc):=zac A.1 O G6.o;have c2:w'.cell? ⟨B,33,none⟩=some (.slice nb j.now.data.length nd):=zac A.1 O H5.o;have c3:w'.cell? ⟨B,34,none⟩=some (.slice ne j.now.rev.length nf):=zac A.1 O H3.o;have c4:w'.cell? ⟨B,35,none⟩=some (.bool j.now.h0.on):=zac A.1 O H9.o;have c5:w'.cell? ⟨B,36,none⟩=some (.int .i64 j.now.h0.left):=zac A.1 O I1.o;have c6:w'.cell? ⟨B,37,none⟩=some (.bool j.now.h1.on):=zac A.1 O G2.o;have c7:w'.cell? ⟨B,38,none⟩=some (.int .i64 j.now.h1.left):=zac A.1 O H0.o;have c8:w'.cell? ⟨B,39,none⟩=some (.bool j.now.h2.on):=zac A.1 O I0.o;have c9:w'.cell? ⟨B,40,none⟩=some (.int .i64 j.now.h2.left):=zac A.1 O G4.o;exact zbx _ rfl rfl (by revert D8;generalize a.eval=ρ;intro D8;simp only[execOp];go_simp) C I A rfl
 ·intro a w' C A F;have z3:=(C.other 3 rfl).trans v3;exact zbx _ rfl rfl (by revert z3;generalize a.eval=ρ;intro z3;simp only[execOp];go_simp) C I A rfl
 ·intro a w' C A F;have F7:a.eval (.tmp 13)=.pointer (some ⟨w.heap.size,1,none⟩):=F ⟨4,.data⟩ (by simp) rfl;have c0:w'.cell? ⟨w.heap.size,1,none⟩=some (.int .i64 ac.h):=zac A.1 D4 A1.o;exact zbx _ rfl rfl (by revert F7;generalize a.eval=ρ;intro F7;simp only[execOp];go_simp) C I A rfl
 ·intro a w' C A F;have z3:=(C.other 3 rfl).trans v3;exact zbx _ rfl rfl (by revert z3;generalize a.eval=ρ;intro z3;simp only[execOp];go_simp) C I A rfl
 ·intro a w' C A F;have F4:a.eval (.tmp 15)=.pointer (some ⟨w.heap.size,2,none⟩):=F ⟨6,.data⟩ (by simp) rfl;have c0:w'.cell? ⟨w.heap.size,2,none⟩=some (.int .i64 ac.b):=zac A.1 D4 A2.o;exact zbx _ rfl rfl (by revert F4;generalize a.eval=ρ;intro F4;simp only[execOp];go_simp) C I A rfl
 ·intro a w' C A F;have E3:a.eval (.tmp 12)=.agg #[.int .i64 j.now.seq,.slice na j.now.info.length nc,.slice nb j.now.data.length nd,.slice ne j.now.rev.length nf,.bool j.now.h0.on,.int .i64 j.now.h0.left,.bool j.now.h1.on,.int .i64 j.now.h1.left,.bool j.now.h2.on,.int .i64 j.now.h2.left]:=F ⟨3,.data⟩ (by simp) rfl;have E4:a.eval (.tmp 14)=.int .i64 ac.h:=F ⟨5,.data⟩ (by simp) rfl;have E0:a.eval (.tmp 16)=.int .i64 ac.b:=F ⟨7,.data⟩ (by simp) rfl;refine zby 123 #[.agg #[.int .i64 j.now.seq,.slice na j.now.info.length nc,.slice nb j.now.data.length nd,.slice ne j.now.rev.length nf,.bool j.now.h0.on,.int .i64 j.now.h0.left,.bool j.now.h1.on,.int .i64 j.now.h1.left,.bool j.now.h2.on,.int .i64 j.now.h2.left],.int .i64 ac.h,.int .i64 ac.b] rfl rfl (by have pf:=Act.eval_func a 123;revert E3 E4 E0 pf;generalize a.eval=ρ;intro E3 E4 E0 pf;simp only[execOp];go_simp) _ (zrh _ j.now ac.h ac.b _ ((E1.o.ext (Ext.seenL D _)).below A.1) r1 r2) ?_;rintro e w2 ⟨M,rfl,B9,K,G8⟩;refine⟨_,rfl,_,rfl,?_,?_,?_⟩
  ·show zmb D ((a.put (some 17) _).eval (.tmp 5)) w2;rw[Act.eval_put_ne _ _ _ _ (by decide)];exact zf7 A K
  ·show zhi _ _ _ _ _ _ _ _ _ _ _ _ ((a.put (some 17) _).eval (.tmp 17)) ((a.put (some 17) _).eval (.tmp 5)) w2;rw[zax C I (by decide),Act.eval_put_ne _ _ _ _ (by decide)];exact⟨M,rfl,okTx.made H7.o E1.o G9.o A B9 K G8⟩
  ·intro r x hk h;show zhi _ _ _ _ _ _ _ _ _ _ _ r x ((a.put (some 17) _).eval (.tmp 5)) w2;rw[Act.eval_put_ne _ _ _ _ (by decide)];exact zuc K r x h
 ·intro a w' C A F;obtain⟨M,pc,ok⟩:∃M,a.eval (.tmp 17)=.tuple #[M,.int .i64 (revokeE j.now ac.h ac.b)]∧okTx ((w.heap.size+1)::X) (zag j.now ac.h ac.b) M (a.eval (.tmp 5)) w':=F ⟨8,.data⟩ (by simp) rfl;refine zbb (.tuple #[M,.int .i64 (revokeE j.now ac.h ac.b)]) rfl rfl (by revert pc;generalize a.eval=ρ;intro pc;simp only[execOp];go_simp) ⟨_,rfl,?_,?_,?_⟩
  ·show zmb D ((a.put (some 8) _).eval (.tmp 5)) w';rw[Act.eval_put_ne _ _ _ _ (by decide)];exact A
  ·show zhi _ _ _ _ _ _ _ _ _ _ _ _ ((a.put (some 8) _).eval (.tmp 8)) ((a.put (some 8) _).eval (.tmp 5)) w';rw[zax C I (by decide),Act.eval_put_ne _ _ _ _ (by decide)];exact⟨M,rfl,ok⟩
  ·intro r x hk h;show zhi _ _ _ _ _ _ _ _ _ _ _ r x ((a.put (some 8) _).eval (.tmp 5)) w';rw[Act.eval_put_ne _ _ _ _ (by decide)];exact h
 ·intro a w' C A F;obtain⟨M,pm,ok⟩:∃M,a.eval (.tmp 8)=.tuple #[M,.int .i64 (revokeE j.now ac.h ac.b)]∧okTx ((w.heap.size+1)::X) (zag j.now ac.h ac.b) M (a.eval (.tmp 5)) w':=F ⟨9,.data⟩ (by simp) rfl;refine zbb (M) rfl rfl (by revert pm;generalize a.eval=ρ;intro pm;simp only[execOp];go_simp) ⟨_,rfl,?_,?_,?_⟩
  ·show zmb D ((a.put (some 18) _).eval (.tmp 5)) w';rw[Act.eval_put_ne _ _ _ _ (by decide)];exact A
  ·show zhi _ _ _ _ _ _ _ _ _ _ _ _ ((a.put (some 18) _).eval (.tmp 18)) ((a.put (some 18) _).eval (.tmp 5)) w';rw[zax C I (by decide),Act.eval_put_ne _ _ _ _ (by decide)];exact ok
  ·intro r x hk h;show zhi _ _ _ _ _ _ _ _ _ _ _ r x ((a.put (some 18) _).eval (.tmp 5)) w';rw[Act.eval_put_ne _ _ _ _ (by decide)];exact h
 ·intro a w' C A F;obtain⟨M,pm,ok⟩:∃M,a.eval (.tmp 8)=.tuple #[M,.int .i64 (revokeE j.now ac.h ac.b)]∧okTx ((w.heap.size+1)::X) (zag j.now ac.h ac.b) M (a.eval (.tmp 5)) w':=F ⟨9,.data⟩ (by simp) rfl;exact zbx _ rfl rfl (by revert pm;generalize a.eval=ρ;intro pm;simp only[execOp];go_simp) C I A rfl
 ·intro a w' C A F;refine zgj (.pointer (some ⟨w'.heap.size,0,none⟩)) rfl rfl (w':=w'.alloc (.cells #[.int .i64 0,.slice none 0 0,.slice none 0 0,.slice none 0 0,.bool false,.int .i64 0,.bool false,.int .i64 0,.bool false,.int .i64 0] 40)) (by simp only[execOp];go_simp) ⟨_,rfl,?_,?_,?_⟩
  ·show zmb D ((a.put (some 5) _).eval (.tmp 5)) _;rw[zax C I (by decide)];exact⟨A.1.alloc A.1.size _,.inr ⟨_,rfl,A.1.size,by simp,_,_,_,_,_,_,_,_,_,_,heap_alloc_new _ _⟩⟩
  ·show zhi _ _ _ _ _ _ _ _ _ _ _ _ ((a.put (some 5) _).eval (.tmp 5)) ((a.put (some 5) _).eval (.tmp 5)) _;rw[zax C I (by decide)];exact⟨_,rfl⟩
  ·intro r x hk h;show zhi _ _ _ _ _ _ _ _ _ _ _ r x ((a.put (some 5) _).eval (.tmp 5)) _;rw[zax C I (by decide)];exact zud _ r x h
 ·intro a w' C A F;obtain⟨T,N⟩:∃T,a.eval (.tmp 5)=.pointer (some ⟨T,0,none⟩):=F ⟨12,.data⟩ (by simp) rfl;have ok:okTx ((w.heap.size+1)::X) (zag j.now ac.h ac.b) (a.eval (.tmp 18)) (a.eval (.tmp 5)) w':=F ⟨10,.data⟩ (by simp) rfl
  obtain⟨A9,B9,c0,c1,c2,c3,c4,c5,c6,c7,c8,c9,d⟩:D.heap.size≤T∧T<w'.heap.size∧∃c0 c1 c2 c3 c4 c5 c6 c7 c8 c9,w'.heap[T]?=some (.cells #[c0,c1,c2,c3,c4,c5,c6,c7,c8,c9] 40 (0,0)):=by
   rcases A.2 with h0|⟨T',e,h3,h4,h5⟩
   ·rw[h0]at N;cases N
   ·rw[e]at N;cases N;exact⟨h3,h4,h5⟩
  have q:=ok.2.2 T N;have z:=ok.2.1;obtain⟨U,S,Q,c,R,Z,hv,_⟩:=id q;rw[hv]at q z;obtain⟨⟨t0,t1,t2,t3,t4,t5,t6,t7,t8,t9⟩,tf⟩:=zaj d;refine zcw rfl rfl (w':=((((((((((w'.setCell ⟨T,0,none⟩ (.int .i64 (zag j.now ac.h ac.b).seq)).setCell ⟨T,1,none⟩ (.slice U (zag j.now ac.h ac.b).info.length S)).setCell ⟨T,2,none⟩ (.slice Q (zag j.now ac.h ac.b).data.length c)).setCell ⟨T,3,none⟩ (.slice R (zag j.now ac.h ac.b).rev.length Z)).setCell ⟨T,4,none⟩ (.bool (zag j.now ac.h ac.b).h0.on)).setCell ⟨T,5,none⟩ (.int .i64 (zag j.now ac.h ac.b).h0.left)).setCell ⟨T,6,none⟩ (.bool (zag j.now ac.h ac.b).h1.on)).setCell ⟨T,7,none⟩ (.int .i64 (zag j.now ac.h ac.b).h1.left)).setCell ⟨T,8,none⟩ (.bool (zag j.now ac.h ac.b).h2.on)).setCell ⟨T,9,none⟩ (.int .i64 (zag j.now ac.h ac.b).h2.left))) (by revert N hv;generalize a.eval=ρ;intro N hv;simp only[execOp];go_simp) ⟨_,rfl,?_,?_,?_⟩
  ·show zmb D (a.eval (.tmp 5)) _;exact⟨Below.set10 A.1 A9 _ _ _ _ _ _ _ _ _ _,.inr ⟨T,N,A9,by simpa[World.setCell] using B9,_,_,_,_,_,_,_,_,_,_,zh2 d _ _ _ _ _ _ _ _ _ _⟩⟩
  ·show zhi _ _ _ _ _ _ _ _ _ _ _ _ (a.eval (.tmp 5)) (a.eval (.tmp 5)) _;exact⟨T,U,S,Q,c,R,Z,N,zh2 d _ _ _ _ _ _ _ _ _ _,q.ext (zo9 (by simp) w' _ _ _ _ _ _ _ _ _ _),z⟩
  ·intro r x hk h;show zhi _ _ _ _ _ _ _ _ _ _ _ r x (a.eval (.tmp 5)) _;rw[N]at h⊢;exact zue (fun t x h=>h.store _ _ _ _ _ _ _ _ _ _) r x hk h
 ·intro a W C A F;obtain⟨T,U,S,Q,c,R,Z,N,d,q,z⟩:∃T U S Q c R Z,a.eval (.tmp 5)=.pointer (some ⟨T,0,none⟩)∧W.heap[T]?=some (.cells #[.int .i64 (zag j.now ac.h ac.b).seq,.slice U (zag j.now ac.h ac.b).info.length S,.slice Q (zag j.now ac.h ac.b).data.length c,.slice R (zag j.now ac.h ac.b).rev.length Z,.bool (zag j.now ac.h ac.b).h0.on,.int .i64 (zag j.now ac.h ac.b).h0.left,.bool (zag j.now ac.h ac.b).h1.on,.int .i64 (zag j.now ac.h ac.b).h1.left,.bool (zag j.now ac.h ac.b).h2.on,.int .i64 (zag j.now ac.h ac.b).h2.left] 40 (0,0))∧IsTx (zas W (T::(w.heap.size+1)::X)) (.agg #[.int .i64 (zag j.now ac.h ac.b).seq,.slice U (zag j.now ac.h ac.b).info.length S,.slice Q (zag j.now ac.h ac.b).data.length c,.slice R (zag j.now ac.h ac.b).rev.length Z,.bool (zag j.now ac.h ac.b).h0.on,.int .i64 (zag j.now ac.h ac.b).h0.left,.bool (zag j.now ac.h ac.b).h1.on,.int .i64 (zag j.now ac.h ac.b).h1.left,.bool (zag j.now ac.h ac.b).h2.on,.int .i64 (zag j.now ac.h ac.b).h2.left]) (zag j.now ac.h ac.b)∧RoomTx (.agg #[.int .i64 (zag j.now ac.h ac.b).seq,.slice U (zag j.now ac.h ac.b).info.length S,.slice Q (zag j.now ac.h ac.b).data.length c,.slice R (zag j.now ac.h ac.b).rev.length Z,.bool (zag j.now ac.h ac.b).h0.on,.int .i64 (zag j.now ac.h ac.b).h0.left,.bool (zag j.now ac.h ac.b).h1.on,.int .i64 (zag j.now ac.h ac.b).h1.left,.bool (zag j.now ac.h ac.b).h2.on,.int .i64 (zag j.now ac.h ac.b).h2.left]):=F 13 (by decide);have pE:a.eval (.tmp 19)=.int .i64 (revokeE j.now ac.h ac.b):=F 11 (by decide)
  have A9:D.heap.size≤T:=by
   rcases A.2 with h0|⟨T',e,h3,h4,h5⟩
   ·rw[h0]at N;cases N
   ·rw[e]at N;cases N;exact h3
  show wpOps prog _ _ [14] a W;rw[wpOps_cons];refine zbb (.int .i64 (revokeE j.now ac.h ac.b)) rfl rfl (by revert pE;generalize a.eval=ρ;intro pE;simp only[execOp];go_simp) ?_;have E9:a.tmps.size=44:=C.size.trans I;obtain⟨a2,m⟩:∃a2,a2=a.put (some 6) (.int .i64 (revokeE j.now ac.h ac.b)):=⟨_,rfl⟩;have f6:a2.eval (.tmp 6)=.int .i64 (revokeE j.now ac.h ac.b):=by rw[m];exact Act.eval_put_same _ _ _ (by rw[E9];decide)
  have f0:a2.eval (.tmp 0)=.pointer (some ⟨B,0,none⟩):=by rw[m,Act.eval_put_ne _ _ _ _ (by decide)];exact(C.other 0 rfl).trans v0
  have f3:a2.eval (.tmp 3)=.pointer (some ⟨w.heap.size,0,none⟩):=by rw[m,Act.eval_put_ne _ _ _ _ (by decide)];exact(C.other 3 rfl).trans v3
  have f4:a2.eval (.tmp 4)=.pointer (some ⟨w.heap.size+1,0,none⟩):=by rw[m,Act.eval_put_ne _ _ _ _ (by decide)];exact(C.other 4 rfl).trans v4
  have f5:a2.eval (.tmp 5)=.pointer (some ⟨T,0,none⟩):=by rw[m,Act.eval_put_ne _ _ _ _ (by decide)];exact N
  have B2:a2=⟨#[_,_,_,_,_,_,_,_,_,_,_,_,_,_,_,_,_,_,_,_,_,_,_,_,_,_,_,_,_,_,_,_,_,_,_,_,_,_,_,_,_,_,_,_],[]⟩:=zci a2 44 (by rw[m,Act.size_put];exact E9) (by rw[m,Act.defers_put'];exact C.defers.trans G3);dsimp only at B2;rw[f0,f3,f4,f5,f6]at B2;show KK (a.put (some 6) (.int .i64 (revokeE j.now ac.h ac.b))) _;rw[←m];exact(congrArg (fun x=>KK x _) B2).mpr (D5.o (fun k=>a2.eval (.tmp k)) _ T U S Q c R Z q z d A9 A.1)
def zve (j:Jn)(d2:Dk)(B:Nat)(e1:Option Addr)(e2:Nat)(e3:Option Addr)(e4:Nat):Nat→Value→World→Prop
 |0,v,_=>v=.pointer (some ⟨B,0,none⟩)
 |1,v,_=>v=.pointer (some ⟨B,0,none⟩)
 |2,v,_=>v=.pointer (some ⟨B,0,none⟩)
 |3,v,_=>v=.pointer (some ⟨B,0,none⟩)
 |4,v,_=>v=.int .i64 j.acts
 |5,v,_=>v=.agg #[.slice e1 d2.safe.length e2,.slice e3 d2.wr.length e4]
 |6,v,_=>v=.pointer (some ⟨B,0,none⟩)
 |7,v,_=>v=.pointer (some ⟨B,0,none⟩)
 |8,v,_=>v=.pointer (some ⟨B,5,none⟩)
 |9,v,_=>v=.int .i64 j.last
 |10,v,_=>v=.agg #[.int .i64 j.acts,.slice e1 d2.safe.length e2,.slice e3 d2.wr.length e4,.int .i64 0,.int .i64 0,.int .i64 j.last,.bool true,.int .i64 0,.int .i64 0,.int .i64 0,.int .i64 0,.int .i64 0,.int .i64 0,.int .i64 0,.int .i64 0,.int .i64 0,.int .i64 0,.int .i64 0,.int .i64 0,.int .i64 0,.int .i64 0,.int .i64 0,.int .i64 0,.int .i64 0,.int .i64 0,.int .i64 0,.int .i64 0,.int .i64 0,.int .i64 0,.int .i64 0,.int .i64 0,.int .i64 0,.slice none 0 0,.slice none 0 0,.slice none 0 0,.bool false,.int .i64 0,.bool false,.int .i64 0,.bool false,.int .i64 0,.int .i64 0,.slice none 0 0,.slice none 0 0,.slice none 0 0,.bool false,.int .i64 0,.bool false,.int .i64 0,.bool false,.int .i64 0,.slice none 0 0,.slice none 0 0,.int .i64 0,.int .i64 0,.int .i64 0,.slice none 0 0]
 |11,v,_=>v=.pointer (some ⟨B,0,none⟩)
 |_,_,_=>True
theorem ziq(j:Jn)(d2:Dk)(e1:Option Addr)(e2:Nat)(e3:Option Addr)(e4:Nat):#[.int .i64 j.acts,.slice e1 d2.safe.length e2,.slice e3 d2.wr.length e4,.int .i64 0,.int .i64 0,.int .i64 j.last,.bool true,.int .i64 0,.int .i64 0,.int .i64 0,.int .i64 0,.int .i64 0,.int .i64 0,.int .i64 0,.int .i64 0,.int .i64 0,.int .i64 0,.int .i64 0,.int .i64 0,.int .i64 0,.int .i64 0,.int .i64 0,.int .i64 0,.int .i64 0,.int .i64 0,.int .i64 0,.int .i64 0,.int .i64 0,.int .i64 0,.int .i64 0,.int .i64 0,.int .i64 0,.slice none 0 0,.slice none 0 0,.slice none 0 0,.bool false,.int .i64 0,.bool false,.int .i64 0,.bool false,.int .i64 0,.int .i64 0,.slice none 0 0,.slice none 0 0,.slice none 0 0,.bool false,.int .i64 0,.bool false,.int .i64 0,.bool false,.int .i64 0,.slice none 0 0,.slice none 0 0,.int .i64 0,.int .i64 0,.int .i64 0,.slice none 0 0]=zbu (⟨j.acts,d2,0,0,j.last,true,fun _=>0,fun _=>0,zc5 0,zc5 0,[],[],0,0,0,[]⟩:Jn) e1 e2 e3 e4 none 0 none 0 none 0 none 0 none 0 none 0 none 0 none 0 none 0:=by kernel_rfl
theorem zx2(B:Nat)(X:List Nat)(j:Jn)(w:World)(h:JAt w B X j)(hX:∀x∈X,x<w.heap.size)(q:Int)(hq:q≤9223372036854775807):
  Calls prog 45 #[.pointer (some ⟨B,0,none⟩),.int .i64 q] w (zdj w B X (zjb j q)):=by
 have HJ:=zaa h;have C3:=h.lt;have A7:=h.1;have HX:=zaa hX;have B1:Hid (JAt (w.alloc (.cells #[.int .i64 0,.int .i64 0,.string ⟨#[]⟩] 31)) B (w.heap.size::X) j):=h.more (zab _ _) (Nat.le_refl _);obtain⟨_,da,dc,db,dd,na,nc,nb,nd,ne,nf,sa,sc,sb,sd,se,sf,ca,cc,fa,fc,ta,tc,b,hr⟩:=h;have c1:w.cell? ⟨B,1,none⟩=some (.slice da j.disk.safe.length dc):=zak b 1;have c2:w.cell? ⟨B,2,none⟩=some (.slice db j.disk.wr.length dd):=zak b 2;have B3:=zaa (hr.1.ext (Ext.seenL w X));have B6:=zaa hr.1;clear b hr hX;go_enter func45,ntmps45;go_wp2_with fail;refine(zwn _ j.disk q _ (B3.o.below (zab _ _)) hq).mono ?_;rintro e Q ⟨v1,rfl,U,_,l,B4⟩;have s:=zaa (z3v l);have R:=zaa (B1.o.below l);have y:=zaa (zae (zab w (.cells #[.int .i64 0,.int .i64 0,.string ⟨#[]⟩] 31)) l)
 have A2:Hid (IsDk (zas Q (w.heap.size::X)) v1 (crashK j.disk q)):=by
  rcases B4 with e|m
  ·have hd:=B6.o.ext (Ext.newL y.o (Nat.le_refl _));rw[e];rw[e]at U;exact hd.asDisk U
  ·exact U.hideF m (fun x hx=>by
    rcases List.mem_cons.1 hx with rfl|hx
    ·simp
    ·have:=HX.o x hx;simp;omega)
 have A1:w.heap.size<Q.heap.size:=by have:=l.size;simp at this;omega
 clear c1 c2 B3 B6 B1 l B4;obtain⟨D,u⟩:∃D,D=crashK j.disk q:=⟨_,rfl⟩;rw[←u]at A2 U;by_cases he:crashE j.disk q=0
 ·have HE:Hid (zjb j q=((⟨j.acts,D,0,0,j.last,true,fun _=>0,fun _=>0,zc5 0,zc5 0,[],[],0,0,0,[]⟩:Jn),zaq 0)):=by rw[Hid,zjb,if_pos he,u]
  rw[he];clear he u;obtain⟨L,K,N,M,rfl,_,_,_,_⟩:=U;go_wp2;rename_i KK A3;obtain⟨C,O⟩:∃C,C=Q.alloc (.cells #[.slice L D.safe.length K,.slice N D.wr.length M] 46):=⟨_,rfl⟩;have A:Below Q.heap.size Q C:=by rw[O];exact zab _ _
  have i:=zaa (R.o.below A);have C2:=zaa (A2.o.ext (Ext.freshL A));have S:=zaa (zad A A1 s.o);have Z:=zaa (zae y.o A);have B8:w.heap.size<C.heap.size:=Nat.lt_of_lt_of_le A1 A.size;have KD:C.heap[Q.heap.size]?=some (.cells #[.slice L D.safe.length K,.slice N D.wr.length M] 46 (0,0)):=by rw[O];exact heap_alloc_new _ _
  obtain⟨⟨y0,y1⟩,_⟩:=zgr KD;have Y0:=zaa y0;have Y1:=zaa y1;rw[←O];clear O A y0 y1 KD R A2 s y;obtain⟨_,da,dc,db,dd,na,nc,nb,nd,ne,nf,sa,sc,sb,sd,se,sf,ca,cc,fa,fc,ta,tc,b,_⟩:=id i.o;have c0:C.cell? ⟨B,0,none⟩=some (.int .i64 j.acts):=zak b 0;have c5:C.cell? ⟨B,5,none⟩=some (.int .i64 j.last):=zak b 5;have C0:=zaa c0;have C5:=zaa c5;clear c0 c5
  have A5:∀(g:Nat→Value) (r:World),r=({C with drawn:=C.drawn+1}:World).setRow B #[.int .i64 j.acts,.slice L D.safe.length K,.slice N D.wr.length M,.int .i64 0,.int .i64 0,.int .i64 j.last,.bool true,.int .i64 0,.int .i64 0,.int .i64 0,.int .i64 0,.int .i64 0,.int .i64 0,.int .i64 0,.int .i64 0,.int .i64 0,.int .i64 0,.int .i64 0,.int .i64 0,.int .i64 0,.int .i64 0,.int .i64 0,.int .i64 0,.int .i64 0,.int .i64 0,.int .i64 0,.int .i64 0,.int .i64 0,.int .i64 0,.int .i64 0,.int .i64 0,.int .i64 0,.slice none 0 0,.slice none 0 0,.slice none 0 0,.bool false,.int .i64 0,.bool false,.int .i64 0,.bool false,.int .i64 0,.int .i64 0,.slice none 0 0,.slice none 0 0,.slice none 0 0,.bool false,.int .i64 0,.bool false,.int .i64 0,.bool false,.int .i64 0,.slice none 0 0,.slice none 0 0,.int .i64 0,.int .i64 0,.int .i64 0,.slice none 0 0]→KK ⟨#[.pointer (some ⟨B,0,none⟩),g 1,g 2,g 3,.pointer (some ⟨w.heap.size,0,none⟩),g 5,g 6,g 7,g 8,g 9,g 10,g 11,g 12,g 13,g 14,g 15,g 16,g 17,g 18,g 19,g 20,g 21,g 22,g 23,g 24,g 25,g 26,g 27,g 28,g 29,g 30,g 31,g 32],[]⟩ r:=by
   intro g r d;apply A3;clear A3;have A8:Below C.heap.size C {C with drawn:=C.drawn+1}:=(Below.refl _ _).drew
   have B0:Hid (JAt r B (w.heap.size::X) (⟨j.acts,D,0,0,j.last,true,fun _=>0,fun _=>0,zc5 0,zc5 0,[],[],0,0,0,[]⟩:Jn)):=by
    rw[d,ziq];exact JAt.putAll (w:={C with drawn:=C.drawn+1}) (by simp[A7]) b _ _ _ _ _ _ _ _ _ _ _ _ _ _ _ _ _ _ _ _ _ _ ⟨C2.o.ext (Ext.freshL A8),zq6 _ _,zq6 _ _,.inl rfl,.inl rfl,.inl rfl,z24 _,Nat.le_refl _,Nat.le_refl _,Nat.le_refl _⟩
   have B2:Hid (ButL [B] w.heap.size w r):=by
    rw[d];exact(ButL.of_below (Z.o.trans (A8.mono Z.o.size))).setRow (.inl (by simp)) _
   have B5:Hid (r.heap[w.heap.size]?=some (.cells #[.int .i64 0,.int .i64 0,.string ⟨#[]⟩] 31 (0,0))):=by
    rw[d,setRow_other _ _ _ _ (by omega)];exact S.o
   have B9:w.heap.size<r.heap.size:=by rw[d];simpa[World.setRow] using B8
   have R:=B0;have c:=B2;have KR:=B5;have A4:=B9;have A6:w.heap.size≠B:=by omega
   clear d A8 B0 B2 B5 b;go_wp2_with fail;refine(zat 0 _).mono ?_;rintro e w2 ⟨rfl,A⟩;have S:=zaa (zad A A4 KR.o);have i:=zaa (R.o.below A);have Z:=zaa (c.o.trans (Y:=[]) (ButL.of_below A) c.o.size (by simp));clear A;obtain⟨⟨y0,y1,y2⟩,yf⟩:=zbo S.o;go_wp2;exact zbe HE.o S.o i.o Z.o A6 A7 fun W u0 u1 u2=>by simp[results,results45,go_sem,u0,u1,u2]
  have A9:=zaa A5;clear A5 A3;refine(show∀A0:Act,A0=_→Code.wp prog _ _ A0 _ from fun A0 hA0=>?_) _ rfl;have F:A0.tmps.size=33:=by rw[hA0];rfl
  have B7:A0.defers=[]:=by rw[hA0]
  have v0:A0.eval (.tmp 0)=.pointer (some ⟨B,0,none⟩):=by rw[hA0];rfl
  have v4:A0.eval (.tmp 4)=.pointer (some ⟨w.heap.size,0,none⟩):=by rw[hA0];rfl
  have v5:A0.eval (.tmp 5)=.pointer (some ⟨Q.heap.size,0,none⟩):=by rw[hA0];rfl
  clear hA0;refine zbi 12 (fun J=>J={C with drawn:=C.drawn+1}) [20,21,22,23,24,25,26,27,28,29,30,31] (zve j D B L K N M) (by kernel_rfl) (by kernel_rfl) (by kernel_rfl) (by kernel_rfl) (by decide) (rfl) ⟨?_,?_,?_,?_,?_,?_,?_,?_,?_,?_,?_,?_,trivial⟩ ?_
  ·exact zbh v0 F (fun _=>rfl) fun ρ J I z=>by simp only[execOp];go_simp
  ·exact zbh v0 F (fun _=>rfl) fun ρ J I z=>by simp only[execOp];go_simp
  ·exact zam 1 21 F (fun _ _ h=>h) (fun _=>rfl) fun ρ J I p=>by simp only[execOp];go_simp
  ·exact zam 2 22 F (fun _ _ h=>h) (fun _=>rfl) fun ρ J I p=>by simp only[execOp];go_simp
  ·exact zam 3 23 F (fun _ _ h=>h) (fun _=>rfl) fun ρ J I p=>by have c0:C.cell? ⟨B,0,none⟩=some (.int .i64 j.acts):=C0.o;simp only[execOp];go_simp
  ·exact zbh v5 F (fun _=>rfl) fun ρ J I z=>by have c0:C.cell? ⟨Q.heap.size,0,none⟩=some (.slice L D.safe.length K):=Y0.o;have c1:C.cell? ⟨Q.heap.size,1,none⟩=some (.slice N D.wr.length M):=Y1.o;simp only[execOp];go_simp
  ·exact zbh v0 F (fun _=>rfl) fun ρ J I z=>by simp only[execOp];go_simp
  ·exact zam 6 26 F (fun _ _ h=>h) (fun _=>rfl) fun ρ J I p=>by simp only[execOp];go_simp
  ·exact zam 7 27 F (fun _ _ h=>h) (fun _=>rfl) fun ρ J I p=>by simp only[execOp];go_simp
  ·exact zam 8 28 F (fun _ _ h=>h) (fun _=>rfl) fun ρ J I p=>by have c0:C.cell? ⟨B,5,none⟩=some (.int .i64 j.last):=C5.o;simp only[execOp];go_simp
  ·intro a J m I hp;have C1:a.eval (.tmp 24)=.int .i64 j.acts:=hp ⟨4,.data⟩ (by simp) rfl;have p25:a.eval (.tmp 25)=.agg #[.slice L D.safe.length K,.slice N D.wr.length M]:=hp ⟨5,.data⟩ (by simp) rfl;have p29:a.eval (.tmp 29)=.int .i64 j.last:=hp ⟨9,.data⟩ (by simp) rfl;refine z23 93 _ [(0,.int .i64 j.acts),(1,.agg #[.slice L D.safe.length K,.slice N D.wr.length M]),(3,.int .i64 j.last),(4,.bool true)] #[.int .i64 j.acts,.slice L D.safe.length K,.slice N D.wr.length M,.int .i64 0,.int .i64 0,.int .i64 j.last,.bool true,.int .i64 0,.int .i64 0,.int .i64 0,.int .i64 0,.int .i64 0,.int .i64 0,.int .i64 0,.int .i64 0,.int .i64 0,.int .i64 0,.int .i64 0,.int .i64 0,.int .i64 0,.int .i64 0,.int .i64 0,.int .i64 0,.int .i64 0,.int .i64 0,.int .i64 0,.int .i64 0,.int .i64 0,.int .i64 0,.int .i64 0,.int .i64 0,.int .i64 0,.slice none 0 0,.slice none 0 0,.slice none 0 0,.bool false,.int .i64 0,.bool false,.int .i64 0,.bool false,.int .i64 0,.int .i64 0,.slice none 0 0,.slice none 0 0,.slice none 0 0,.bool false,.int .i64 0,.bool false,.int .i64 0,.bool false,.int .i64 0,.slice none 0 0,.slice none 0 0,.int .i64 0,.int .i64 0,.int .i64 0,.slice none 0 0] rfl rfl rfl ?_ (by kernel_rfl) ⟨_,rfl,I,?_,fun _ _ _ h=>h⟩
   ·simp[C1,p25,p29,Act.eval_const]
   ·show zve _ _ _ _ _ _ _ _ ((a.put (some 30) _).eval (.tmp 30)) J;rw[zax m F (by decide)];exact rfl
  ·exact zam 0 20 F (fun _ _ h=>h) (fun _=>rfl) fun ρ J I p=>by simp only[execOp];go_simp
  ·intro a W m I hp;have p30:a.eval (.tmp 30)=.agg #[.int .i64 j.acts,.slice L D.safe.length K,.slice N D.wr.length M,.int .i64 0,.int .i64 0,.int .i64 j.last,.bool true,.int .i64 0,.int .i64 0,.int .i64 0,.int .i64 0,.int .i64 0,.int .i64 0,.int .i64 0,.int .i64 0,.int .i64 0,.int .i64 0,.int .i64 0,.int .i64 0,.int .i64 0,.int .i64 0,.int .i64 0,.int .i64 0,.int .i64 0,.int .i64 0,.int .i64 0,.int .i64 0,.int .i64 0,.int .i64 0,.int .i64 0,.int .i64 0,.int .i64 0,.slice none 0 0,.slice none 0 0,.slice none 0 0,.bool false,.int .i64 0,.bool false,.int .i64 0,.bool false,.int .i64 0,.int .i64 0,.slice none 0 0,.slice none 0 0,.slice none 0 0,.bool false,.int .i64 0,.bool false,.int .i64 0,.bool false,.int .i64 0,.slice none 0 0,.slice none 0 0,.int .i64 0,.int .i64 0,.int .i64 0,.slice none 0 0]:=hp 10 (by decide);have p31:a.eval (.tmp 31)=.pointer (some ⟨B,0,none⟩):=hp 11 (by decide);show wpOps prog _ _ [12] a W;rw[wpOps_cons];refine zkk 93 (.tmp 31) (.tmp 30) B #[.int .i64 j.acts,.slice L D.safe.length K,.slice N D.wr.length M,.int .i64 0,.int .i64 0,.int .i64 j.last,.bool true,.int .i64 0,.int .i64 0,.int .i64 0,.int .i64 0,.int .i64 0,.int .i64 0,.int .i64 0,.int .i64 0,.int .i64 0,.int .i64 0,.int .i64 0,.int .i64 0,.int .i64 0,.int .i64 0,.int .i64 0,.int .i64 0,.int .i64 0,.int .i64 0,.int .i64 0,.int .i64 0,.int .i64 0,.int .i64 0,.int .i64 0,.int .i64 0,.int .i64 0,.slice none 0 0,.slice none 0 0,.slice none 0 0,.bool false,.int .i64 0,.bool false,.int .i64 0,.bool false,.int .i64 0,.int .i64 0,.slice none 0 0,.slice none 0 0,.slice none 0 0,.bool false,.int .i64 0,.bool false,.int .i64 0,.bool false,.int .i64 0,.slice none 0 0,.slice none 0 0,.int .i64 0,.int .i64 0,.int .i64 0,.slice none 0 0] rfl rfl rfl p31 p30 93 (zbu j da dc db dd na nc nb nd ne nf sa sc sb sd se sf ca cc fa fc ta tc) (by rw[I];exact b) (by rw[ziq];exact z25 _ _ _ _ _ _ _ _ _ _ _ _ _ _ _ _ _ _ _ _ _ _ _) (by kernel_rfl) (by rw[ziq];exact zh1 _ _ _ _ _ _ _ _ _ _ _ _ _ _ _ _ _ _ _ _ _ _ _) ?_
   have f0:=(m.other 0 rfl).trans v0;have f4:=(m.other 4 rfl).trans v4;have n:a=⟨#[_,_,_,_,_,_,_,_,_,_,_,_,_,_,_,_,_,_,_,_,_,_,_,_,_,_,_,_,_,_,_,_,_],[]⟩:=zci a 33 (m.size.trans F) (m.defers.trans B7);dsimp only at n;rw[f0,f4]at n;exact(congrArg (fun x=>KK x (W.setRow B #[.int .i64 j.acts,.slice L D.safe.length K,.slice N D.wr.length M,.int .i64 0,.int .i64 0,.int .i64 j.last,.bool true,.int .i64 0,.int .i64 0,.int .i64 0,.int .i64 0,.int .i64 0,.int .i64 0,.int .i64 0,.int .i64 0,.int .i64 0,.int .i64 0,.int .i64 0,.int .i64 0,.int .i64 0,.int .i64 0,.int .i64 0,.int .i64 0,.int .i64 0,.int .i64 0,.int .i64 0,.int .i64 0,.int .i64 0,.int .i64 0,.int .i64 0,.int .i64 0,.int .i64 0,.slice none 0 0,.slice none 0 0,.slice none 0 0,.bool false,.int .i64 0,.bool false,.int .i64 0,.bool false,.int .i64 0,.int .i64 0,.slice none 0 0,.slice none 0 0,.slice none 0 0,.bool false,.int .i64 0,.bool false,.int .i64 0,.bool false,.int .i64 0,.slice none 0 0,.slice none 0 0,.int .i64 0,.int .i64 0,.int .i64 0,.slice none 0 0])) n).mpr (A9.o (fun k=>a.eval (.tmp k)) _ (by rw[I]))
 ·have HE:Hid (zjb j q=(j,zaq (crashE j.disk q))):=by rw[Hid,zjb,if_neg he]
  have C4:(crashE j.disk q !=0)=true:=by simpa using he
  clear he u;generalize crashE j.disk q=E at *;obtain⟨L,K,N,M,rfl,_,_,_,_⟩:=U;go_wp2_with fail;obtain⟨C,O⟩:∃C,C=Q.alloc (.cells #[.slice L D.safe.length K,.slice N D.wr.length M] 46):=⟨_,rfl⟩;have A:Below Q.heap.size Q C:=by rw[O];exact zab _ _
  have KR:=zaa (zad A A1 s.o);have c:Hid (ButL [B] w.heap.size w C):=ButL.of_below (zae y.o A);have A4:w.heap.size<C.heap.size:=Nat.lt_of_lt_of_le A1 A.size;have A6:w.heap.size≠B:=by omega
  replace R:=zaa (R.o.below A)
  rw[←O];clear O A s;refine(zat E _).mono ?_;rintro e w2 ⟨rfl,A⟩;have S:=zaa (zad A A4 KR.o);have i:=zaa (R.o.below A);have Z:=zaa (c.o.trans (Y:=[]) (ButL.of_below A) c.o.size (by simp));clear A;obtain⟨⟨y0,y1,y2⟩,yf⟩:=zbo S.o;go_wp2;exact zbe HE.o S.o i.o Z.o A6 A7 fun W u0 u1 u2=>by simp[results,results45,go_sem,u0,u1,u2]
