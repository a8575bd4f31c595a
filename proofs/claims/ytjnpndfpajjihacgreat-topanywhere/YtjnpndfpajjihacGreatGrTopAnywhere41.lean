/-
  
-/
import Derived.Test.YtjnpndfpajjihacGreatGrTopAnywhere32
import Derived.Test.YtjnpndfpajjihacGreatGrTopAnywhere40
import Derived.Test.YtjnpndfpajjihacGreatXNewest
set_option maxRecDepth 100000
set_option maxHeartbeats 40000000
namespace Go.Proofs.YtjnpndfpajjihacGreat
open Go.RowKit
theorem zre(W:World)(q:Int):IsTx W (.agg #[.int .i64 q,.slice none 0 0,.slice none 0 0,.slice none 0 0,.bool false,.int .i64 0,.bool false,.int .i64 0,.bool false,.int .i64 0]) (zct q):=
 ⟨none,0,none,0,none,0,rfl,.inl rfl,.inl rfl,.inl rfl,Nat.zero_le _,Nat.zero_le _,Nat.zero_le _⟩
theorem z3j(q:Int):RoomTx (.agg #[.int .i64 q,.slice none 0 0,.slice none 0 0,.slice none 0 0,.bool false,.int .i64 0,.bool false,.int .i64 0,.bool false,.int .i64 0]):=
 ⟨_,_,_,_,_,_,_,_,_,_,_,_,_,_,_,_,rfl,Nat.le_refl _,Nat.le_refl _,Nat.le_refl _⟩
theorem ButL.setRow{X:List Nat}{base:Nat}{w w1:World}(h:ButL X base w w1){b:Nat}(hb:b∈X∨base≤b)(cs:Array Value):ButL X base w (w1.setRow b cs):=
 ⟨h.os,h.tape,h.output,by simpa[World.setRow] using h.size,fun j hj hn=>(setRow_other _ _ _ _ (by intro e;subst e;rcases hb with h1|h1;exact hn h1;omega)).trans (h.block j hj hn)⟩
theorem JAt.putAll{w:World}{B:Nat}{X:List Nat}{j:Jn}{old:Array Value}(hB:B∈X)(hg:w.heap[B]?=some (.cells old 93 (0,0)))(da:Option Addr)(dc:Nat)(db:Option Addr)(dd:Nat)(na:Option Addr)(nc:Nat)(nb:Option Addr)(nd:Nat)(ne:Option Addr)(nf:Nat)(sa:Option Addr)(sc:Nat)(sb:Option Addr)(sd:Nat)(se:Option Addr)(sf:Nat)(ca:Option Addr)(cc:Nat)(fa:Option Addr)(fc:Nat)(ta:Option Addr)(tc:Nat)(hr:RowsJ w X j da dc db dd na nc nb nd ne nf sa sc sb sd se sf ca cc fa fc ta tc):JAt (w.setRow B (zbs j da dc db dd na nc nb nd ne nf sa sc sb sd se sf ca cc fa fc ta tc)) B X j:=
 ⟨hB,da,dc,db,dd,na,nc,nb,nd,ne,nf,sa,sc,sb,sd,se,sf,ca,cc,fa,fc,ta,tc,setRow_heap w B old _ _ _ hg,hr.ext (Ext.butL ((ButL.refl X _ w).setRow (.inl hB) _))⟩
theorem zh2(j:Jn)(da:Option Addr)(dc:Nat)(db:Option Addr)(dd:Nat)(na:Option Addr)(nc:Nat)(nb:Option Addr)(nd:Nat)(ne:Option Addr)(nf:Nat)(sa:Option Addr)(sc:Nat)(sb:Option Addr)(sd:Nat)(se:Option Addr)(sf:Nat)(ca:Option Addr)(cc:Nat)(fa:Option Addr)(fc:Nat)(ta:Option Addr)(tc:Nat):(zbs j da dc db dd na nc nb nd ne nf sa sc sb sd se sf ca cc fa fc ta tc).all (·.oneCell')=true:=by kernel_rfl
theorem z3k(j:Jn)(da:Option Addr)(dc:Nat)(db:Option Addr)(dd:Nat)(na:Option Addr)(nc:Nat)(nb:Option Addr)(nd:Nat)(ne:Option Addr)(nf:Nat)(sa:Option Addr)(sc:Nat)(sb:Option Addr)(sd:Nat)(se:Option Addr)(sf:Nat)(ca:Option Addr)(cc:Nat)(fa:Option Addr)(fc:Nat)(ta:Option Addr)(tc:Nat):(Tryz.prog.info? 93).map (·.size)=some (zbs j da dc db dd na nc nb nd ne nf sa sc sb sd se sf ca cc fa fc ta tc).size:=by kernel_rfl
theorem zph{X:List Nat}{B:Nat}(hB:B∈X)(w:World)(v0 v1 v2 v3 v4 v5 v6 v7 v8 v9:Value):Ext (zas w X) (zas ((((((((((w.setCell ⟨B,0,none⟩ (v0)).setCell ⟨B,1,none⟩ (v1)).setCell ⟨B,2,none⟩ (v2)).setCell ⟨B,3,none⟩ (v3)).setCell ⟨B,4,none⟩ (v4)).setCell ⟨B,5,none⟩ (v5)).setCell ⟨B,6,none⟩ (v6)).setCell ⟨B,7,none⟩ (v7)).setCell ⟨B,8,none⟩ (v8)).setCell ⟨B,9,none⟩ (v9)) X):=
 Ext.butL (((((((((((ButL.refl X _ w).set (.inl hB) 0 v0).set (.inl hB) 1 v1).set (.inl hB) 2 v2).set (.inl hB) 3 v3).set (.inl hB) 4 v4).set (.inl hB) 5 v5).set (.inl hB) 6 v6).set (.inl hB) 7 v7).set (.inl hB) 8 v8).set (.inl hB) 9 v9)
theorem zir{t:Tx}{h b:Int}(e:reachE t h b=0):0≤b∧b≤11:=by
 unfold reachE at e;split at e
 ·cases e
 ·split at e
  ·cases e
  ·rename_i hx;omega
theorem zrq{t:Tx}{h b:Int}{s:ByteArray}(e:changeE t h b s=0):0≤b∧b≤11:=by
 unfold changeE at e;split at e
 ·rename_i A;exact absurd e A
 ·rename_i A;exact zir (by simpa using A)
theorem zxk{t:Tx}{h b:Int}{s:ByteArray}(e:fillE t h b s=0):0≤b∧b≤11:=by
 unfold fillE at e;split at e
 ·rename_i A;exact absurd e A
 ·rename_i A;exact zir (by simpa using A)
theorem zrr{t:Tx}{h b:Int}(e:revokeE t h b=0):0≤b∧b≤11:=by
 unfold revokeE at e;split at e
 ·rename_i A;exact absurd e A
 ·rename_i A;exact zir (by simpa using A)
section
variable {w:World} {X:List Nat} {n:Nat}
theorem IsTx.hideF{v:Value}{t:Tx}(h:IsTx w v t)(hF:zpe n v t)(hX:∀x∈X,x<n):IsTx (zas w X) v t:=by
 obtain⟨a,c,D,J,r,d,rfl,F,E,C,I⟩:=h;obtain⟨b0,b1,b2,b3,b4,b5,e,f1,B,A⟩:=hF;simp only[Value.agg.injEq]at e
 injection e with e
 simp only[List.cons.injEq,Value.slice.injEq,true_and,and_true]at e;obtain⟨⟨rfl,rfl⟩,⟨rfl,rfl⟩,rfl,rfl⟩:=e;exact⟨a,c,D,J,r,d,rfl,F.hideF f1 hX,E.hideF B hX,C.hideF A hX,I⟩
theorem SegW.as{a:Option Addr}{l l2:List (Int×ByteArray)}(h:SegW (zas w X) a l)(h2:SegW w a l2)(e:l.length=l2.length):SegW (zas w X) a l2:=by
 rcases h2 with t|⟨x,off,rfl,hlt,hc⟩
 ·exact .inl t
 ·rcases h with s|⟨y,off',he,hlt',hc'⟩
  ·exact .inl (List.eq_nil_of_length_eq_zero (by rw[←e,s];rfl))
  ·cases he;by_cases h0:l2.length=0
   ·exact .inl (List.eq_nil_of_length_eq_zero h0)
   ·have A:=(zbv (hc' 0 (by omega)).1).1;exact .inr ⟨x,off,rfl,by rw[zbi];exact hlt,fun i hi=>⟨zbz A (hc i hi).1,zbz A (hc i hi).2⟩⟩
theorem SegI.as{a:Option Addr}{l l2:List Int}(h:SegI (zas w X) a l)(h2:SegI w a l2)(e:l.length=l2.length):SegI (zas w X) a l2:=by
 rcases h2 with t|⟨x,off,rfl,hlt,hc⟩
 ·exact .inl t
 ·rcases h with s|⟨y,off',he,hlt',hc'⟩
  ·exact .inl (List.eq_nil_of_length_eq_zero (by rw[←e,s];rfl))
  ·cases he;by_cases h0:l2.length=0
   ·exact .inl (List.eq_nil_of_length_eq_zero h0)
   ·have A:=(zbv (hc' 0 (by omega))).1;exact .inr ⟨x,off,rfl,by rw[zbi];exact hlt,fun i hi=>zbz A (hc i hi)⟩
theorem IsTx.asTx{v:Value}{t t2:Tx}(h:IsTx (zas w X) v t)(h2:IsTx w v t2):IsTx (zas w X) v t2:=by
 obtain⟨a,c,I,O,r,d,rfl,J,B,L,_⟩:=h;obtain⟨b0,b1,b2,b3,b4,b5,e,D,A,N,E⟩:=h2;have C:=e;simp only[Value.agg.injEq]at e
 injection e with e
 simp only[List.cons.injEq,Value.slice.injEq,and_true]at e;obtain⟨_,⟨rfl,F,rfl⟩,⟨rfl,M,rfl⟩,⟨rfl,K,rfl⟩,_⟩:=e;exact⟨a,c,I,O,r,d,C,J.as D F,B.as A M,L.as N K,E⟩
end
def zmi (W:World)(u:Value)(w:World):Prop:=Below W.heap.size W w∧(u=undef∨∃T,u=.pointer (some ⟨T,0,none⟩)∧W.heap.size≤T∧T<w.heap.size∧∃c0 c1 c2 c3 c4 c5 c6 c7 c8 c9,w.heap[T]?=some (.cells #[c0,c1,c2,c3,c4,c5,c6,c7,c8,c9] 40 (0,0)))
theorem zfy{W:World}{u:Value}{w w':World}(h:zmi W u w)(hb:Below w.heap.size w w'):zmi W u w':=
 ⟨zae h.1 hb,h.2.imp id fun⟨T,h1,h2,h3,c0,c1,c2,c3,c4,c5,c6,c7,c8,c9,h4⟩=>⟨T,h1,h2,Nat.lt_of_lt_of_le h3 hb.size,c0,c1,c2,c3,c4,c5,c6,c7,c8,c9,zad hb h3 h4⟩⟩
def okTx (X:List Nat)(t:Tx)(v2 u:Value)(w:World):Prop:=IsTx (zas w X) v2 t∧RoomTx v2∧∀T,u=.pointer (some ⟨T,0,none⟩)→IsTx (zas w (T::X)) v2 t
theorem okTx.below{X:List Nat}{t:Tx}{v2 u:Value}{w w':World}(h:okTx X t v2 u w)(hb:Below w.heap.size w w'):okTx X t v2 u w':=
 ⟨h.1.ext (Ext.freshL hb),h.2.1,fun T e=>(h.2.2 T e).ext (Ext.freshL hb)⟩
theorem okTx.alloc{X:List Nat}{t:Tx}{v2 u:Value}{w:World}(h:okTx X t v2 u w)(o:Obj):okTx X t v2 (.pointer (some ⟨w.heap.size,0,none⟩)) (w.alloc o):=
 ⟨h.1.ext (Ext.freshL (zab _ _)),h.2.1,fun T e=>by cases e;exact h.1.ext (Ext.newL (zab _ _) (Nat.le_refl _))⟩
theorem okTx.store{X:List Nat}{t:Tx}{x:Value}{T:Nat}{w:World}(h:okTx X t x (.pointer (some ⟨T,0,none⟩)) w)(v0 v1 v2 v3 v4 v5 v6 v7 v8 v9:Value):okTx X t x (.pointer (some ⟨T,0,none⟩)) ((((((((((w.setCell ⟨T,0,none⟩ (v0)).setCell ⟨T,1,none⟩ (v1)).setCell ⟨T,2,none⟩ (v2)).setCell ⟨T,3,none⟩ (v3)).setCell ⟨T,4,none⟩ (v4)).setCell ⟨T,5,none⟩ (v5)).setCell ⟨T,6,none⟩ (v6)).setCell ⟨T,7,none⟩ (v7)).setCell ⟨T,8,none⟩ (v8)).setCell ⟨T,9,none⟩ (v9)):=by
 have k:=(h.2.2 T rfl).ext (zph (X:=T::X) (B:=T) (by simp) w v0 v1 v2 v3 v4 v5 v6 v7 v8 v9);exact⟨k.ext (Ext.lessL T),h.2.1,fun T' e=>by cases e;exact k⟩
theorem okTx.made{X:List Nat}{t t2:Tx}{v v2 u:Value}{W w w2:World}(hX:∀x∈X,x<W.heap.size)(hT:IsTx (zas W X) v t)(hR:RoomTx v)(hB:zmi W u w)(h2:IsTx w2 v2 t2)(hb:Below w.heap.size w w2)(hv:v2=v∨za2 w.heap.size v2 t2):okTx X t2 v2 u w2:=by
 have B:=zae hB.1 hb
 have A:∀T,u=.pointer (some ⟨T,0,none⟩)→W.heap.size≤T∧T<w.heap.size:=by
  intro T e;rcases hB.2 with h0|⟨T',e',h3,h4,_⟩
  ·rw[h0]at e;cases e
  ·rw[e']at e;cases e;exact⟨h3,h4⟩
 rcases hv with rfl|hv
 ·exact⟨(hT.ext (Ext.freshL B)).asTx h2,hR,fun T e=>(hT.ext (Ext.newL B (A T e).1)).asTx h2⟩
 ·have hs:=hB.1.size
  exact⟨h2.hideF hv.1 (fun x hx=>by have:=hX x hx;omega),hv.2,fun T e=>h2.hideF hv.1 (fun x hx=>by
   rcases List.mem_cons.1 hx with rfl|hx
   ·exact(A _ e).2
   ·have:=hX x hx;omega)⟩
theorem JAt.role{w:World}{B:Nat}{X:List Nat}{j:Jn}(h:JAt w B X j)(b:Nat)(hb:b<12):w.cell? ⟨B,7+b*2,none⟩=some (.int .i64 (j.role b))∧w.cell? ⟨B,7+b*2+1,none⟩=some (.int .i64 (j.freed b))∧w.frozen? ⟨B,7+b*2,none⟩=false∧w.frozen? ⟨B,7+b*2+1,none⟩=false:=by
 obtain⟨_,da,dc,db,dd,na,nc,nb,nd,ne,nf,sa,sc,sb,sd,se,sf,ca,cc,fa,fc,ta,tc,A,_⟩:=h;have D:=zak A (7+b*2);have C:=zak A (7+b*2+1);refine⟨D.trans ?_,C.trans ?_,frozen_of_row w _ _ _ _ A,frozen_of_row w _ _ _ _ A⟩
 ·match b,hb with
  |0,_=>rfl
  |1,_=>rfl
  |2,_=>rfl
  |3,_=>rfl
  |4,_=>rfl
  |5,_=>rfl
  |6,_=>rfl
  |7,_=>rfl
  |8,_=>rfl
  |9,_=>rfl
  |10,_=>rfl
  |11,_=>rfl
  |n+12,hb=>omega
 ·match b,hb with
  |0,_=>rfl
  |1,_=>rfl
  |2,_=>rfl
  |3,_=>rfl
  |4,_=>rfl
  |5,_=>rfl
  |6,_=>rfl
  |7,_=>rfl
  |8,_=>rfl
  |9,_=>rfl
  |10,_=>rfl
  |11,_=>rfl
  |n+12,hb=>omega
open Go.Proofs.Tryz
def zia (b:Int):List (Option Addr×Nat×List (Int×ByteArray))→Option ByteArray
 |[]=>none
 |x::r=>match zai b x.2.2 with
  |some s=>some s
  |none=>zia b r
theorem ztu{b:Int}{L:List (Option Addr×Nat×List (Int×ByteArray))}{k:Nat}{x:Option Addr×Nat×List (Int×ByteArray)}(h:L[k]?=some x):zia b (L.drop k)=match zai b x.2.2 with|some s=>some s|none=>zia b (L.drop (k+1)):=by
 have A:=(List.getElem?_eq_some_iff.1 h).1;rw[List.drop_eq_getElem_cons A,(List.getElem?_eq_some_iff.1 h).2,zia]
theorem ztv(j:Jn)(b:Int)(na nb sa sb ya:Option Addr)(nc nd sc sd yc:Nat):textJ j b=match zia b [(na,nc,j.now.info),(nb,nd,j.now.data),(sa,sc,j.sealed.info),(sb,sd,j.sealed.data),(ya,yc,newestL j.done)] with|some s=>(s,0)|none=>(zam j.disk (25+b),readE j.disk (25+b)):=by
 simp only[textJ,zia]
 cases zai b j.now.info with
 |some s=>rfl
 |none=>
  cases zai b j.now.data with
  |some s=>rfl
  |none=>
   cases zai b j.sealed.info with
   |some s=>rfl
   |none=>
    cases zai b j.sealed.data with
    |some s=>rfl
    |none=>cases zai b (newestL j.done)<;>rfl
def zrs (B:Nat)(j:Jn)(na:Option Addr)(nc:Nat)(nb:Option Addr)(nd:Nat)(sa:Option Addr)(sc:Nat)(sb:Option Addr)(sd:Nat)(ca:Option Addr)(cc:Nat):Nat→Value→World→Prop
 |0,v,_=>v=.pointer (some ⟨B,0,none⟩)
 |1,v,_=>v=.pointer (some ⟨B,0,none⟩)
 |2,v,_=>v=.pointer (some ⟨B,31,none⟩)
 |3,v,_=>v=.pointer (some ⟨B,32,none⟩)
 |4,v,_=>v=.slice na j.now.info.length nc
 |5,v,_=>v=.pointer (some ⟨B,0,none⟩)
 |6,v,_=>v=.pointer (some ⟨B,0,none⟩)
 |7,v,_=>v=.pointer (some ⟨B,31,none⟩)
 |8,v,_=>v=.pointer (some ⟨B,33,none⟩)
 |9,v,_=>v=.slice nb j.now.data.length nd
 |10,v,_=>v=.pointer (some ⟨B,0,none⟩)
 |11,v,_=>v=.pointer (some ⟨B,0,none⟩)
 |12,v,_=>v=.pointer (some ⟨B,41,none⟩)
 |13,v,_=>v=.pointer (some ⟨B,42,none⟩)
 |14,v,_=>v=.slice sa j.sealed.info.length sc
 |15,v,_=>v=.pointer (some ⟨B,0,none⟩)
 |16,v,_=>v=.pointer (some ⟨B,0,none⟩)
 |17,v,_=>v=.pointer (some ⟨B,41,none⟩)
 |18,v,_=>v=.pointer (some ⟨B,43,none⟩)
 |19,v,_=>v=.slice sb j.sealed.data.length sd
 |20,v,_=>v=.pointer (some ⟨B,0,none⟩)
 |21,v,_=>v=.pointer (some ⟨B,0,none⟩)
 |22,v,_=>v=.pointer (some ⟨B,51,none⟩)
 |23,v,_=>v=.slice ca j.done.length cc
 |24,v,w=>∃(ya:Option Addr) (yc:Nat),v=.slice ya (newestL j.done).length yc∧SegW w ya (newestL j.done)
 |25,v,w=>∃(Bx:Nat) (ya:Option Addr) (yc:Nat),v=.slice (some ⟨Bx,0,none⟩) 5 5∧w.heap[Bx]?=some (.cells #[.slice na j.now.info.length nc,.slice nb j.now.data.length nd,.slice sa j.sealed.info.length sc,.slice sb j.sealed.data.length sd,.slice ya (newestL j.done).length yc] 34 (0,0))∧SegW w ya (newestL j.done)
 |26,v,_=>v=.int .i64 5
 |27,v,_=>v=.int .i64 0
 |_,_,_=>True
theorem zkq{B:Nat}{j:Jn}{na:Option Addr}{nc:Nat}{nb:Option Addr}{nd:Nat}{sa:Option Addr}{sc:Nat}{sb:Option Addr}{sd:Nat}{ca:Option Addr}{cc:Nat}{w w':World}(hb:Below w.heap.size w w'){i:Nat}:∀kk uu,kk≠i→zrs B j na nc nb nd sa sc sb sd ca cc kk uu w→zrs B j na nc nb nd sa sc sb sd ca cc kk uu w':=by
 intro kk uu _ h
 match kk,h with
 |0,h|1,h|2,h|3,h|4,h|5,h|6,h|7,h|8,h|9,h|10,h|11,h|12,h|13,h|14,h|15,h|16,h|17,h|18,h|19,h|20,h|21,h|22,h|23,h=>exact h
 |24,⟨ya,yc,h1,h2⟩=>exact⟨ya,yc,h1,h2.below hb⟩
 |25,⟨Bx,ya,yc,h1,h2,h3⟩=>exact⟨Bx,ya,yc,h1,zad hb (Array.getElem?_eq_some_iff.1 h2).1 h2,h3.below hb⟩
 |26,h|27,h=>exact h
 |_+28,_=>exact trivial
theorem z0h(B:Nat)(X:List Nat)(j:Jn)(w:World)(b:Int)(h:JAt w B X j)(hn:j.done.length≤maxLen)(hb0:0≤b)(hb1:b≤11):
  Calls prog 127 #[.pointer (some ⟨B,0,none⟩),.int .i64 b] w fun e w'=>e=.returned (.tuple #[.string (textJ j b).1,.int .i64 (textJ j b).2])∧Below w.heap.size w w':=by
 have HJ:=zaa h;have M:=h.lt;have HN:=zaa hn;obtain⟨_,da,dc,db,dd,O,U,Q,R,ne,nf,S,Z,Y,N,se,sf,ca,cc,fa,fc,ta,tc,q,hr⟩:=id h;have c1:w.cell? ⟨B,1,none⟩=some (.slice da j.disk.safe.length dc):=zak q 1;have c2:w.cell? ⟨B,2,none⟩=some (.slice db j.disk.wr.length dd):=zak q 2;have B4:w.cell? ⟨B,32,none⟩=some (.slice O j.now.info.length U):=zak q 32;have B5:w.cell? ⟨B,33,none⟩=some (.slice Q j.now.data.length R):=zak q 33;have C5:w.cell? ⟨B,42,none⟩=some (.slice S j.sealed.info.length Z):=zak q 42;have C4:w.cell? ⟨B,43,none⟩=some (.slice Y j.sealed.data.length N):=zak q 43;have B7:w.cell? ⟨B,51,none⟩=some (.slice ca j.done.length cc):=zak q 51;have D9:=zaa B4;have D2:=zaa B5;have D8:=zaa C5;have D5:=zaa C4;have D1:=zaa B7;have C8:=zaa (hr.2.2.2.1.ext (Ext.seenL w X));have A3:=zaa (hr.2.1.ext (Ext.seenL w X)).rows;have A6:=zaa (hr.2.2.1.ext (Ext.seenL w X)).rows;have D3:=zaa (hr.1.ext (Ext.seenL w X));clear h hn q hr B4 B5 C5 C4 B7;go_enter func127,ntmps127;go_wp2;rename_i KK A9
 have B1:∀(g:Nat→Value) (I:World) (Bx:Nat) (D:Option Addr) (F:Nat),I.heap[Bx]?=some (.cells #[.slice O j.now.info.length U,.slice Q j.now.data.length R,.slice S j.sealed.info.length Z,.slice Y j.sealed.data.length N,.slice D (newestL j.done).length F] 34 (0,0))→SegW I D (newestL j.done)→Below w.heap.size w I→KK ⟨#[.pointer (some ⟨B,0,none⟩),.int .i64 b,g 2,g 3,.string ⟨#[]⟩,.int .i64 0,g 6,g 7,g 8,g 9,g 10,g 11,g 12,g 13,g 14,g 15,g 16,g 17,g 18,g 19,g 20,g 21,g 22,g 23,g 24,g 25,g 26,g 27,g 28,g 29,g 30,g 31,g 32,g 33,g 34,.slice (some ⟨Bx,0,none⟩) 5 5,.int .i64 5,.int .i64 0,g 38,g 39,g 40,g 41,g 42,g 43,g 44,g 45,g 46,g 47,g 48,g 49,g 50,g 51,g 52,g 53,g 54,g 55,g 56,g 57,g 58],[]⟩ I:=by
  intro g I Bx D F J A1 d;apply A9;clear A9;have A2:=zaa (ztv j b O Q S Y D U R Z N F);obtain⟨l,A8⟩:∃l,l=[(O,U,j.now.info),(Q,R,j.now.data),(S,Z,j.sealed.info),(Y,N,j.sealed.data),(D,F,newestL j.done)]:=⟨_,rfl⟩;rw[←A8]at A2
  have B0:Hid (∀k x,l[k]?=some x→I.cell? ⟨Bx,k,none⟩=some (.slice x.1 x.2.2.length x.2.1)∧SegW I x.1 x.2.2∧x.2.2.length≤maxLen):=by
   intro k x E;rw[A8]at E
   match k,E with
   |0,E=>cases E;exact⟨(cell_of_row I _ 0 _ _ _ J).trans rfl,A3.o.1.below d,A3.o.2.2.2.1⟩
   |1,E=>cases E;exact⟨(cell_of_row I _ 1 _ _ _ J).trans rfl,A3.o.2.1.below d,A3.o.2.2.2.2.1⟩
   |2,E=>cases E;exact⟨(cell_of_row I _ 2 _ _ _ J).trans rfl,A6.o.1.below d,A6.o.2.2.2.1⟩
   |3,E=>cases E;exact⟨(cell_of_row I _ 3 _ _ _ J).trans rfl,A6.o.2.1.below d,A6.o.2.2.2.2.1⟩
   |4,E=>cases E;exact⟨(cell_of_row I _ 4 _ _ _ J).trans rfl,A1,by have E1:(newestL j.done).length≤12:=zem _ _;unfold maxLen;show(newestL j.done).length≤_;omega⟩
   |k+5,E=>simp at E
  have C0:Hid (l.length=5):=by rw[Hid,A8];rfl
  have C7:Bx<I.heap.size:=(Array.getElem?_eq_some_iff.1 J).1;have C2:=zaa d;clear A8 J A1 d;go_wp2
  go_loopw [37] (fun i wr=>∃k:Nat,k≤5∧i=.int .i64 k∧Hid (zia b l=zia b (l.drop k))∧Hid (Below I.heap.size I wr)) (fun i _=>5 - (intOf i).toNat)
  case atStart=>exact⟨0,by omega,rfl,rfl,Below.refl _ _⟩
  case round=>
   obtain⟨k,hk,rfl,A7,u⟩:=hrel;by_cases hk5:k<5
   ·have E0:(k:Int)<5:=by omega
    obtain⟨x,E⟩:∃x,l[k]?=some x:=⟨_,List.getElem?_eq_getElem (by have:=C0.o;omega)⟩;obtain⟨r1,r2,r3⟩:=B0.o k x E;have c:=zac u.o C7 r1;have HS:=zaa (r2.below u.o);have HM:=zaa r3;have n:=zaa (ztu (b:=b) E);obtain⟨xa,xc,xl⟩:=x;dsimp only at c HS HM n;clear r1 r2 r3 E;go_wp2_with fail;refine(zlc xa xc xl b _ HS.o HM.o).mono ?_;rintro e wq ⟨rfl,m⟩;have A4:=zaa (zae u.o m);clear m c HS u
    cases ht:zai b xl with
    |some s=>
     have HT:Hid (textJ j b=(s,0)):=by
      have h2:=n.o;rw[ht]at h2;rw[Hid,A2.o,A7.o,h2]
     have B9:((some s:Option ByteArray).getD ⟨#[]⟩)=s:=rfl;have r:(some s:Option ByteArray).isSome=true:=rfl;rw[B9,r];clear ht B9 r n;go_wp2;refine bodyPost_ret (results_tmp2 rfl _ _ _) rfl ⟨by rw[HT.o];rfl,zae C2.o A4.o⟩
    |none=>
     have D7:Hid (zia b l=zia b (l.drop (k+1))):=by
      have h2:=n.o;rw[ht]at h2;rw[Hid,A7.o,h2]
     have r:(none:Option ByteArray).isSome=false:=rfl;rw[r];clear ht r n;go_wp2
     go_roundw
     case rel=>exact⟨k+1,by omega,by go_num,D7,A4⟩
     case measure=>first|(simp[intOf];omega)|simp[intOf]
   ·have e:k=5:=by omega
    subst e
    have HT:Hid (textJ j b=(zam j.disk (25+b),readE j.disk (25+b))):=by
     rw[Hid,A2.o,A7.o,List.drop_of_length_le (by have:=C0.o;omega)];rfl
    have A5:=zaa (zae C2.o u.o);have d1:=zac A5.o M c1;have d2:=zac A5.o M c2;have HD:=zaa (D3.o.below A5.o);have E2:IntKind.i64.wrap (25+b)=25+b:=by rw[IntKind.wrap_i64];omega
    clear A7 A2 B0;go_wp2_with fail;refine(zk2 _ j.disk (25+b) _ HD.o).mono ?_;rintro e wq ⟨rfl,m⟩;have A4:=zaa (zae A5.o m);clear m d1 d2;go_wp2;refine bodyPost_ret (results_tmp2 rfl _ _ _) rfl ⟨by rw[HT.o];rfl,A4.o⟩
 have B2:=zaa B1;clear B1 A9;refine(show∀A0:Act,A0=_→Code.wp prog _ _ A0 _ from fun A0 hA0=>?_) _ rfl;have A:A0.tmps.size=59:=by rw[hA0];rfl
 have D4:A0.defers=[]:=by rw[hA0]
 have v0:A0.eval (.tmp 0)=.pointer (some ⟨B,0,none⟩):=by rw[hA0];rfl
 have v1:A0.eval (.tmp 1)=.int .i64 b:=by rw[hA0];rfl
 have v4:A0.eval (.tmp 4)=.string ⟨#[]⟩:=by rw[hA0];rfl
 have v5:A0.eval (.tmp 5)=.int .i64 0:=by rw[hA0];rfl
 clear hA0;refine ze2 (fun w'=>Below w.heap.size w w') [10,11,12,13,14,15,16,17,18,19,20,21,22,23,24,25,26,27,28,29,30,31,32,33,34,35,36,37] (zrs B j O U Q R S Z Y N ca cc) (by kernel_rfl) (by kernel_rfl) (by kernel_rfl) ((Below.refl _ _).drew) ⟨?_,?_,?_,?_,?_,?_,?_,?_,?_,?_,?_,?_,?_,?_,?_,?_,?_,?_,?_,?_,?_,?_,?_,?_,?_,?_,?_,?_,trivial⟩ ?_
 ·exact zbd v0 A (fun _=>rfl) fun ρ w' C z=>by simp only[execOp];go_simp
 ·exact zal 0 10 A (fun _ _ h=>h) (fun _=>rfl) fun ρ w' C p=>by simp only[execOp];go_simp
 ·exact zal 1 11 A (fun _ _ h=>h) (fun _=>rfl) fun ρ w' C p=>by simp only[execOp];go_simp
 ·exact zal 2 12 A (fun _ _ h=>h) (fun _=>rfl) fun ρ w' C p=>by simp only[execOp];go_simp
 ·exact zal 3 13 A (fun _ _ h=>h) (fun _=>rfl) fun ρ w' C p=>by have c0:w'.cell? ⟨B,32,none⟩=some (.slice O j.now.info.length U):=zac C M D9.o;simp only[execOp];go_simp
 ·exact zbd v0 A (fun _=>rfl) fun ρ w' C z=>by simp only[execOp];go_simp
 ·exact zal 5 15 A (fun _ _ h=>h) (fun _=>rfl) fun ρ w' C p=>by simp only[execOp];go_simp
 ·exact zal 6 16 A (fun _ _ h=>h) (fun _=>rfl) fun ρ w' C p=>by simp only[execOp];go_simp
 ·exact zal 7 17 A (fun _ _ h=>h) (fun _=>rfl) fun ρ w' C p=>by simp only[execOp];go_simp
 ·exact zal 8 18 A (fun _ _ h=>h) (fun _=>rfl) fun ρ w' C p=>by have c0:w'.cell? ⟨B,33,none⟩=some (.slice Q j.now.data.length R):=zac C M D2.o;simp only[execOp];go_simp
 ·exact zbd v0 A (fun _=>rfl) fun ρ w' C z=>by simp only[execOp];go_simp
 ·exact zal 10 20 A (fun _ _ h=>h) (fun _=>rfl) fun ρ w' C p=>by simp only[execOp];go_simp
 ·exact zal 11 21 A (fun _ _ h=>h) (fun _=>rfl) fun ρ w' C p=>by simp only[execOp];go_simp
 ·exact zal 12 22 A (fun _ _ h=>h) (fun _=>rfl) fun ρ w' C p=>by simp only[execOp];go_simp
 ·exact zal 13 23 A (fun _ _ h=>h) (fun _=>rfl) fun ρ w' C p=>by have c0:w'.cell? ⟨B,42,none⟩=some (.slice S j.sealed.info.length Z):=zac C M D8.o;simp only[execOp];go_simp
 ·exact zbd v0 A (fun _=>rfl) fun ρ w' C z=>by simp only[execOp];go_simp
 ·exact zal 15 25 A (fun _ _ h=>h) (fun _=>rfl) fun ρ w' C p=>by simp only[execOp];go_simp
 ·exact zal 16 26 A (fun _ _ h=>h) (fun _=>rfl) fun ρ w' C p=>by simp only[execOp];go_simp
 ·exact zal 17 27 A (fun _ _ h=>h) (fun _=>rfl) fun ρ w' C p=>by simp only[execOp];go_simp
 ·exact zal 18 28 A (fun _ _ h=>h) (fun _=>rfl) fun ρ w' C p=>by have c0:w'.cell? ⟨B,43,none⟩=some (.slice Y j.sealed.data.length N):=zac C M D5.o;simp only[execOp];go_simp
 ·exact zbd v0 A (fun _=>rfl) fun ρ w' C z=>by simp only[execOp];go_simp
 ·exact zal 20 30 A (fun _ _ h=>h) (fun _=>rfl) fun ρ w' C p=>by simp only[execOp];go_simp
 ·exact zal 21 31 A (fun _ _ h=>h) (fun _=>rfl) fun ρ w' C p=>by simp only[execOp];go_simp
 ·exact zal 22 32 A (fun _ _ h=>h) (fun _=>rfl) fun ρ w' C p=>by have c0:w'.cell? ⟨B,51,none⟩=some (.slice ca j.done.length cc):=zac C M D1.o;simp only[execOp];go_simp
 ·intro a w' L C K;have p33:a.eval (.tmp 33)=.slice ca j.done.length cc:=K ⟨23,.data⟩ (by simp) rfl;refine zbo 126 #[.slice ca j.done.length cc] rfl rfl (by have pf:=Act.eval_func a 126;revert p33 pf;generalize a.eval=ρ;intro p33 pf;simp only[execOp];go_simp) _ (zmj ca cc j.done _ (C8.o.below C) HN.o) ?_;rintro e w2 ⟨v7,rfl,C6,C3⟩;obtain⟨D,F,rfl,D6,_⟩:=SegC.of_owns C6;refine⟨_,rfl,_,rfl,zae C C3,?_,zkq C3⟩;show zrs _ _ _ _ _ _ _ _ _ _ _ _ _ ((a.put (some 34) _).eval (.tmp 34)) w2;rw[zaq L A (by decide)];exact⟨D,F,rfl,D6⟩
 ·intro a w' L C K;have C1:a.eval (.tmp 14)=.slice O j.now.info.length U:=K ⟨4,.data⟩ (by simp) rfl;have B3:a.eval (.tmp 19)=.slice Q j.now.data.length R:=K ⟨9,.data⟩ (by simp) rfl;have B8:a.eval (.tmp 24)=.slice S j.sealed.info.length Z:=K ⟨14,.data⟩ (by simp) rfl;have p29:a.eval (.tmp 29)=.slice Y j.sealed.data.length N:=K ⟨19,.data⟩ (by simp) rfl;obtain⟨D,F,p34,hS⟩:∃(D:Option Addr) (F:Nat),a.eval (.tmp 34)=.slice D (newestL j.done).length F∧SegW w' D (newestL j.done):=K ⟨24,.data⟩ (by simp) rfl;refine zfk (.slice (some ⟨w'.heap.size,0,none⟩) 5 5) rfl rfl (w':=w'.alloc (.cells #[.slice O j.now.info.length U,.slice Q j.now.data.length R,.slice S j.sealed.info.length Z,.slice Y j.sealed.data.length N,.slice D (newestL j.done).length F] 34)) (by revert C1 B3 B8 p29 p34;generalize a.eval=ρ;intro C1 B3 B8 p29 p34;simp only[execOp];go_simp) ⟨_,rfl,C.alloc C.size _,?_,zkq (zab _ _)⟩;show zrs _ _ _ _ _ _ _ _ _ _ _ _ _ ((a.put (some 35) _).eval (.tmp 35)) _;rw[zaq L A (by decide)];exact⟨_,D,F,rfl,heap_alloc_new _ _,hS.below (zab _ _)⟩
 ·intro a w' L C K;obtain⟨Bx,D,F,p35,_⟩:∃(Bx:Nat) (D:Option Addr) (F:Nat),a.eval (.tmp 35)=.slice (some ⟨Bx,0,none⟩) 5 5∧w'.heap[Bx]?=some (.cells #[.slice O j.now.info.length U,.slice Q j.now.data.length R,.slice S j.sealed.info.length Z,.slice Y j.sealed.data.length N,.slice D (newestL j.done).length F] 34 (0,0))∧SegW w' D (newestL j.done):=K ⟨25,.data⟩ (by simp) rfl;exact zgm _ rfl rfl (by revert p35;generalize a.eval=ρ;intro p35;simp only[execOp];go_simp) L A C rfl
 ·intro a w' L C K;exact zgm _ rfl rfl (by have B6:=Act.eval_const a (.int .i64 0);revert B6;generalize a.eval=ρ;intro B6;simp only[execOp];go_simp) L A C rfl
 ·intro a W L C K;obtain⟨Bx,D,F,p35,J,A1⟩:∃(Bx:Nat) (D:Option Addr) (F:Nat),a.eval (.tmp 35)=.slice (some ⟨Bx,0,none⟩) 5 5∧W.heap[Bx]?=some (.cells #[.slice O j.now.info.length U,.slice Q j.now.data.length R,.slice S j.sealed.info.length Z,.slice Y j.sealed.data.length N,.slice D (newestL j.done).length F] 34 (0,0))∧SegW W D (newestL j.done):=K 25 (by decide);have p36:a.eval (.tmp 36)=.int .i64 5:=K 26 (by decide);have p37:a.eval (.tmp 37)=.int .i64 0:=K 27 (by decide);have C9:a.tmps.size=59:=L.size.trans A;have f0:a.eval (.tmp 0)=.pointer (some ⟨B,0,none⟩):=(L.other 0 rfl).trans v0;have f1:a.eval (.tmp 1)=.int .i64 b:=(L.other 1 rfl).trans v1;have f4:a.eval (.tmp 4)=.string ⟨#[]⟩:=(L.other 4 rfl).trans v4;have f5:a.eval (.tmp 5)=.int .i64 0:=(L.other 5 rfl).trans v5;have y:a=⟨#[_,_,_,_,_,_,_,_,_,_,_,_,_,_,_,_,_,_,_,_,_,_,_,_,_,_,_,_,_,_,_,_,_,_,_,_,_,_,_,_,_,_,_,_,_,_,_,_,_,_,_,_,_,_,_,_,_,_,_],[]⟩:=zb9 a 59 C9 (L.defers.trans D4);dsimp only at y;rw[f0,f1,f4,f5,p35,p36,p37]at y;show KK a _;exact(congrArg (fun x=>KK x _) y).mpr (B2.o (fun k=>a.eval (.tmp k)) _ Bx D F J A1 C)
theorem z0i(B:Nat)(X:List Nat)(j:Jn)(w:World)(b:Int)(h:JAt w B X j)(hn:j.done.length≤maxLen):
  Calls prog 87 #[.pointer (some ⟨B,0,none⟩),.int .i64 b] w (zdg w B X (j,zjy j b)):=by
 have x:=zaa h;have A3:=h.lt;have N:=h.1;have y:=zaa hn;clear h hn;have A1:¬w.heap.size=B:=by omega
 have O:w.heap.size≠B:=by omega
 obtain⟨L,J⟩:∃L,L=w.alloc (.cells #[.int .i64 0,.int .i64 0,.string ⟨#[]⟩] 31):=⟨_,rfl⟩;have K:Hid (JAt L B (w.heap.size::X) j):=by rw[J];exact x.o.more (zab _ _) (Nat.le_refl _)
 have D:Hid (ButL [B] w.heap.size w L):=by rw[J];exact ButL.of_below (zab _ _)
 have R:Hid (L.heap[w.heap.size]?=some (.cells #[.int .i64 0,.int .i64 0,.string ⟨#[]⟩] 31 (0,0))):=by rw[J];exact heap_alloc_new _ _
 have M:w.heap.size<L.heap.size:=by rw[J];simp
 have a:=zaa J;clear J;by_cases h0:b<0
 ·have U:Hid ((j,zjy j b)=(j,zat 4)):=by rw[Hid,zjy,if_pos (.inl h0)]
  go_enter func87,ntmps87;go_wp2_with fail;rw[←a.o];clear h0;refine(zau 4 _).mono ?_;rintro e c ⟨rfl,A⟩;have C:=zaa (zad A M R.o);have F:=zaa (K.o.below A);have I:=zaa (D.o.trans (Y:=[]) (ButL.of_below A) D.o.size (by simp));clear A;obtain⟨⟨r,q,p⟩,m⟩:=zbl C.o;go_wp2;exact zbg U.o C.o F.o I.o O N fun W u0 u1 u2=>by simp[results,results87,go_sem,u0,u1,u2]
 ·by_cases h12:11<b
  ·have U:Hid ((j,zjy j b)=(j,zat 4)):=by rw[Hid,zjy,if_pos (.inr h12)]
   have S:b≥12:=by omega
   go_enter func87,ntmps87;go_wp2_with fail;rw[←a.o];clear h0 h12 S;refine(zau 4 _).mono ?_;rintro e c ⟨rfl,A⟩;have C:=zaa (zad A M R.o);have F:=zaa (K.o.below A);have I:=zaa (D.o.trans (Y:=[]) (ButL.of_below A) D.o.size (by simp));clear A;obtain⟨⟨r,q,p⟩,m⟩:=zbl C.o;go_wp2;exact zbg U.o C.o F.o I.o O N fun W u0 u1 u2=>by simp[results,results87,go_sem,u0,u1,u2]
  ·have Q:Hid (zjy j b=if(textJ j b).2=0 then⟨0,j.role b.toNat,(textJ j b).1⟩ else zat (textJ j b).2):=by rw[Hid,zjy,if_neg (by omega)]
   have s:0≤b:=by omega
   have u:b≤11:=by omega
   have S:¬(b≥12):=by omega
   have A0:b<12:=by omega
   go_enter func87,ntmps87;go_wp2_with fail;rw[←a.o];refine(z0h B (w.heap.size::X) j L b K.o y.o s u).mono ?_;rintro e c ⟨rfl,A⟩;have Z:=zaa (K.o.below A);have i:Hid (ButL [B] w.heap.size w c):=D.o.trans (Y:=[]) (ButL.of_below A) D.o.size (by simp);have l:=zaa (zad A M R.o);have A4:L.heap.size≤c.heap.size:=A.size;have n:w.heap.size<c.heap.size:=by omega
   clear A;by_cases he:(textJ j b).2=0
   ·have d:Hid ((j,zjy j b)=(j,⟨0,j.role b.toNat,(textJ j b).1⟩)):=by rw[Hid,Q.o,if_pos he]
    rw[he];clear he Q;generalize (textJ j b).1=TT at *;obtain⟨k,rfl⟩:∃k:Nat,b=(k:Int):=⟨b.toNat,by omega⟩;obtain⟨e1,_,_,_⟩:=Z.o.role k (by omega);rw[Int.toNat_natCast]at d;have C:=l;have F:=Z;have I:=i;obtain⟨⟨r,q,p⟩,m⟩:=zbl C.o;go_wp2;exact zbg d.o C.o F.o I.o O N fun W u0 u1 u2=>by simp[results,results87,go_sem,u0,u1,u2]
   ·have U:Hid ((j,zjy j b)=(j,zat (textJ j b).2)):=by rw[Hid,Q.o,if_neg he]
    have A2:((textJ j b).2 !=0)=true:=by simpa using he
    clear he Q;generalize (textJ j b).2=E at *;have K:=Z;have D:=i;have R:=l;have M:=n;go_wp2_with fail;refine(zau E _).mono ?_;rintro e w3 ⟨rfl,A⟩;have C:=zaa (zad A M R.o);have F:=zaa (K.o.below A);have I:=zaa (D.o.trans (Y:=[]) (ButL.of_below A) D.o.size (by simp));clear A;obtain⟨⟨r,q,p⟩,m⟩:=zbl C.o;go_wp2;exact zbg U.o C.o F.o I.o O N fun W u0 u1 u2=>by simp[results,results87,go_sem,u0,u1,u2]
theorem zty(t:Tx)(ua:Option Addr)(uc:Nat)(ub:Option Addr)(ud:Nat)(ue:Option Addr)(uf:Nat)(w:World):
  Calls prog 124 #[.agg #[.int .i64 t.seq,.slice ua t.info.length uc,.slice ub t.data.length ud,.slice ue t.rev.length uf,.bool t.h0.on,.int .i64 t.h0.left,.bool t.h1.on,.int .i64 t.h1.left,.bool t.h2.on,.int .i64 t.h2.left]] w fun e w'=>e=.returned (.bool (zfd t))∧Below w.heap.size w w':=by
 by_cases h1:t.info.length=0
 ·by_cases h2:t.data.length=0
  ·by_cases h3:t.rev.length=0
   ·have A:Hid (zfd t=true):=by simp[Hid,zfd,h1,h2,h3]
    rw[h1,h2,h3];clear h1 h2 h3;go_enter func124,ntmps124;go_wp2;go_ret;exact⟨by rw[A.o];rfl,zab _ _⟩
   ·have A:Hid (zfd t=false):=by simp[Hid,zfd,h1,h2,h3]
    have A2:(t.rev.length==0)=false:=by simpa using h3
    have A3:((t.rev.length:Int)==0)=false:=by simpa using h3
    rw[h1,h2];clear h1 h2 h3;go_enter func124,ntmps124;go_wp2;go_ret;exact⟨by rw[A.o];rfl,zab _ _⟩
  ·have A:Hid (zfd t=false):=by simp[Hid,zfd,h1,h2]
   have A4:(t.data.length==0)=false:=by simpa using h2
   have A5:((t.data.length:Int)==0)=false:=by simpa using h2
   rw[h1];clear h1 h2;go_enter func124,ntmps124;go_wp2;go_ret;exact⟨by rw[A.o];rfl,zab _ _⟩
 ·have A:Hid (zfd t=false):=by simp[Hid,zfd,h1]
  have A1:(t.info.length==0)=false:=by simpa using h1
  have A0:((t.info.length:Int)==0)=false:=by simpa using h1
  clear h1;go_enter func124,ntmps124;go_wp2;go_ret;exact⟨by rw[A.o];rfl,zab _ _⟩
theorem zhf{w:World}{X:List Nat}{base:Nat}{e:TypeId}{size:Nat}{v:Value}{n:Nat}{xs:List Value}(h:w.ownsRow base e size v n xs)(hX:∀x∈X,x<base):(zas w X).ownsRow base e size v n xs:=by
 refine⟨h.1,?_⟩;rcases h.2 with h0|⟨g,cap,cur,hv,hg,hh,r⟩
 ·exact .inl h0
 ·exact .inr ⟨g,cap,cur,hv,hg,(zln (zpz hX hg)).trans hh,r⟩
theorem ScPost.foundH{w w':World}{d:Dk}{e:Ending}(h:ScPost w w' d e){X:List Nat}(hX:∀x∈X,x<w.heap.size):∃va vc,e=.returned (.tuple #[.agg #[.slice va (fndL d).length vc,.int .i64 (fndN d),.int .i64 (fndP d)],.int .i64 (scanE d)])∧SegTx (zas w' X) va (fndL d)∧Below w.heap.size w w':=by
 obtain⟨v,rfl,hb,Q,O⟩:=h;by_cases hE:scanE d=0
 ·obtain⟨q,va,vc,rfl,D,K,B⟩:=O hE;have I:=zhf K hX
  have E:∀x∈q,OwnR (zas w' X) w.heap.size x:=fun x hx=>by
   obtain⟨L,N,M⟩:=B x hx;exact⟨zhf L hX,zhf N hX,zhf M hX⟩
  obtain⟨a,c,F,J,_⟩:=SegTx.of_owns I E;simp only[Value.slice.injEq]at F;obtain⟨rfl,_,rfl⟩:=F;have C:fndL d=q.map (·.t):=by rw[fndL,if_pos hE,D]
  have A:q.length=(zbw d).1.length:=by rw[←D,List.length_map]
  refine⟨va,vc,?_,by rw[C];exact J,hb⟩;rw[C,fndN,fndP,if_pos hE,if_pos hE,List.length_map,A]
 ·rw[Q hE];refine⟨none,0,?_,.inl (by rw[fndL,if_neg hE]),hb⟩;rw[fndL,fndN,fndP,if_neg hE,if_neg hE,if_neg hE];rfl
def zpk (B:Nat)(D:Nat)(va:Option Addr)(vc:Nat)(d:Dk)(cs:List (Int×ByteArray)):Nat→Value→World→Prop
 |0,v,_=>v=.pointer (some ⟨B,0,none⟩)
 |1,v,_=>v=.pointer (some ⟨D,0,none⟩)
 |2,v,_=>v=.slice va (fndL d).length vc
 |3,v,w=>∃a c,v=.slice a cs.length c∧SegW w a cs
 |4,v,_=>v=.pointer (some ⟨D,2,none⟩)
 |5,v,_=>v=.int .i64 (fndP d)
 |6,v,_=>v=.pointer (some ⟨D,1,none⟩)
 |7,v,_=>v=.int .i64 (fndN d)
 |_,_,_=>True
theorem zpl{B:Nat}{D:Nat}{va:Option Addr}{vc:Nat}{d:Dk}{cs:List (Int×ByteArray)}{w w':World}(hb:Below w.heap.size w w'){i:Nat}:∀kk uu,kk≠i→zpk B D va vc d cs kk uu w→zpk B D va vc d cs kk uu w':=by
 intro kk uu _ h
 match kk,h with
 |0,h|1,h|2,h=>exact h
 |3,⟨a,c,h1,h2⟩=>exact⟨a,c,h1,h2.below hb⟩
 |4,h|5,h|6,h|7,h=>exact h
 |_+8,_=>exact trivial
theorem z0l(B:Nat)(X:List Nat)(j:Jn)(w:World)(h:JAt w B X j)(hX:∀x∈X,x<w.heap.size)(hFew0:j.down=true→j.steps=[]→∀t∈fndL j.disk,Few t):
  Calls prog 46 #[.pointer (some ⟨B,0,none⟩)] w (zdg w B X (zb3 j)):=by
 have HJ:=zaa h;have F2:=h.lt;have r:=h.1;have HX:=zaa hX;obtain⟨_,da,dc,db,dd,na,nc,nb,nd,ne,nf,sa,sc,sb,sd,se,sf,ca,cc,fa,fc,ta,tc,N,hr⟩:=h;have c1:w.cell? ⟨B,1,none⟩=some (.slice da j.disk.safe.length dc):=zak N 1;have c2:w.cell? ⟨B,2,none⟩=some (.slice db j.disk.wr.length dd):=zak N 2;have c6:w.cell? ⟨B,6,none⟩=some (.bool j.down):=zak N 6;have E5:=zaa (hr.1.ext (Ext.seenL w X));clear N hr hX;have F3:¬w.heap.size=B:=by omega
 cases hd:j.down with
 |false=>
  have HE:Hid (zb3 j=(j,zat 9)):=by rw[Hid,zb3,if_pos (.inl hd)]
  rw[hd]at c6;clear hd;go_enter func46,ntmps46;go_wp2_with fail;obtain⟨Z,I⟩:∃Z,Z=w.alloc (.cells #[.int .i64 0,.int .i64 0,.string ⟨#[]⟩] 31):=⟨_,rfl⟩;have J:Hid (JAt Z B (w.heap.size::X) j):=by rw[I];exact HJ.o.more (zab _ _) (Nat.le_refl _)
  have C:Hid (ButL [B] w.heap.size w Z):=by rw[I];exact ButL.of_below (zab _ _)
  have n:Hid (Z.heap[w.heap.size]?=some (.cells #[.int .i64 0,.int .i64 0,.string ⟨#[]⟩] 31 (0,0))):=by rw[I];exact heap_alloc_new _ _
  have F:w.heap.size<Z.heap.size:=by rw[I];simp
  have Q:w.heap.size≠B:=by omega
  rw[←I];clear I;refine(zau 9 _).mono ?_;rintro e w2 ⟨rfl,A⟩;have D:=zaa (zad A F n.o);have S:=zaa (J.o.below A);have U:=zaa (C.o.trans (Y:=[]) (ButL.of_below A) C.o.size (by simp));clear A;obtain⟨⟨y0,y1,y2⟩,yf⟩:=zbl D.o;go_wp2;exact zbg HE.o D.o S.o U.o Q r fun W u0 u1 u2=>by simp[results,results46,go_sem,u0,u1,u2]
 |true=>
  rw[hd]at c6;go_enter func46,ntmps46;go_wp2_with fail;obtain⟨Z,I⟩:∃Z,Z=w.alloc (.cells #[.int .i64 0,.int .i64 0,.string ⟨#[]⟩] 31):=⟨_,rfl⟩;have J:Hid (JAt Z B (w.heap.size::X) j):=by rw[I];exact HJ.o.more (zab _ _) (Nat.le_refl _)
  have C:Hid (ButL [B] w.heap.size w Z):=by rw[I];exact ButL.of_below (zab _ _)
  have n:Hid (Z.heap[w.heap.size]?=some (.cells #[.int .i64 0,.int .i64 0,.string ⟨#[]⟩] 31 (0,0))):=by rw[I];exact heap_alloc_new _ _
  have F:w.heap.size<Z.heap.size:=by rw[I];simp
  have Q:w.heap.size≠B:=by omega
  rw[←I];clear I;refine(zfl B (w.heap.size::X) j Z J.o).mono ?_;rintro e M ⟨rfl,rfl⟩;by_cases hs:0<j.steps.length
  ·have HE:Hid (zb3 j=(j,zat 9)):=by rw[Hid,zb3,if_pos (.inr (by intro e;rw[e]at hs;simp at hs))]
   have A3:decide (0<j.steps.length)=true:=by simpa using hs
   rw[A3];clear hs A3 hd;go_wp2_with fail;refine(zau 9 _).mono ?_;rintro e w2 ⟨rfl,A⟩;have D:=zaa (zad A F n.o);have S:=zaa (J.o.below A);have U:=zaa (C.o.trans (Y:=[]) (ButL.of_below A) C.o.size (by simp));clear A;obtain⟨⟨y0,y1,y2⟩,yf⟩:=zbl D.o;go_wp2;exact zbg HE.o D.o S.o U.o Q r fun W u0 u1 u2=>by simp[results,results46,go_sem,u0,u1,u2]
  ·have A3:decide (0<j.steps.length)=false:=by simpa using hs
   have C1:j.steps=[]:=List.eq_nil_of_length_eq_zero (by omega);have D1:¬(j.down=false∨j.steps≠[]):=by simp[hd,C1]
   have B7:=hFew0 hd C1;clear hFew0;have D2:=zaa D1;rw[A3];clear hs A3 hd C1 D1 c1 c2 c6;obtain⟨_,ka,kc,kb,kd,na,nc,nb,nd,ne,nf,sa,sc,sb,sd,se,sf,ca,cc,fa,fc,ta,tc,N,hr⟩:=id J.o;have c1:M.cell? ⟨B,1,none⟩=some (.slice ka j.disk.safe.length kc):=zak N 1;have c2:M.cell? ⟨B,2,none⟩=some (.slice kb j.disk.wr.length kd):=zak N 2;have D3:=zaa (hr.1.ext (Ext.seenL M _));clear N hr E5;go_wp2_with fail;refine(z2j _ _ _ _ j.disk _ D3.o).mono ?_;intro e K hP
   obtain⟨va,vc,rfl,C5,A4⟩:=hP.foundH (X:=w.heap.size::X) (fun x hx=>by
    rcases List.mem_cons.1 hx with rfl|hx
    ·exact F
    ·have:=HX.o x hx;omega)
   have A7:=zaa C5;have A2:=zaa (J.o.below A4);have A9:=zaa (zad A4 F n.o);have u:=zaa (C.o.trans (Y:=[]) (ButL.of_below A4) C.o.size (by simp));have B1:w.heap.size<K.heap.size:=Nat.lt_of_lt_of_le F A4.size;clear hP C5 A4 J n C c1 c2 D3 F HJ;obtain⟨d,hd⟩:∃d,d=j.disk:=⟨_,rfl⟩;rw[←hd]at A7 B7⊢;have C3:=zaa hd;clear hd
   have E8:Hid (∀x∈w.heap.size::X,x<K.heap.size):=fun x hx=>by
    rcases List.mem_cons.1 hx with rfl|hx
    ·exact B1
    ·have:=HX.o x hx;omega
   by_cases hE:scanE d=0
   ·have A8:Hid (zb3 j=if checkE (newestL (fndL d)) (fndP d) (fndN d)=0 then({j with work:=11,steps:=checkS (newestL (fndL d)) (fndP d) (fndN d),fL:=fndL d,fN:=fndN d,fP:=fndP d},zat 0) else(j,zat (checkE (newestL (fndL d)) (fndP d) (fndN d)))):=by
     rw[Hid,zb3,if_neg D2.o,←C3.o,if_pos hE]
    rw[hE];clear hE;go_wp2;rename_i KK B2;obtain⟨O,b⟩:∃O,O=K.alloc (.cells #[.slice va (fndL d).length vc,.int .i64 (fndN d),.int .i64 (fndP d)] 90):=⟨_,rfl⟩;have A:Below K.heap.size K O:=by rw[b];exact zab _ _
    have B8:=zaa (A7.o.ext (Ext.freshL A));have C7:=zaa (A2.o.below A);have D5:=zaa (zad A B1 A9.o);have B6:=zaa (u.o.trans (Y:=[]) (ButL.of_below A) u.o.size (by simp));have KF:Hid (O.heap[K.heap.size]?=some (.cells #[.slice va (fndL d).length vc,.int .i64 (fndN d),.int .i64 (fndP d)] 90 (0,0))):=by rw[b];exact heap_alloc_new _ _
    have B0:K.heap.size<O.heap.size:=by rw[b];simp
    obtain⟨⟨y0,y1,y2⟩,_⟩:=zbl KF.o;have Y0:=zaa y0;have Y1:=zaa y1;have Y2:=zaa y2;have F0:B<K.heap.size:=A2.o.lt;rw[←b];clear b A y0 y1 y2 A7 A2 A9 u
    have B9:∀(g:Nat→Value) (R:World),JAt R B (w.heap.size::X) (zdx j 11 (newestL (fndL d)) (fndP d) (fndN d)).1→ButL [B] O.heap.size O R→KK ⟨#[.pointer (some ⟨B,0,none⟩),g 1,.pointer (some ⟨w.heap.size,0,none⟩),.pointer (some ⟨K.heap.size,0,none⟩),.int .i64 (zdx j 11 (newestL (fndL d)) (fndP d) (fndN d)).2,g 5,g 6,g 7,g 8,g 9,g 10,g 11,g 12,g 13,g 14,g 15,g 16,g 17,g 18,g 19,g 20,g 21,g 22,g 23,g 24,g 25,g 26,g 27,g 28,g 29,g 30,g 31,g 32,g 33,g 34,g 35,g 36,g 37,g 38,g 39,g 40,g 41,g 42,g 43],[]⟩ R:=by
     intro g R hJ y;apply B2;clear B2;have C0:=zaa ((y.block _ (show w.heap.size<O.heap.size by omega) (by simp;omega)).trans D5.o);have C8:=zaa ((y.block _ B0 (by simp;omega)).trans KF.o);have D4:=zaa (B8.o.ext (Ext.butL (y.wider (Y:=w.heap.size::X) (by simp[r]))));have B5:=zaa (B6.o.trans (Y:=[B]) y B6.o.size (by simp));have A5:w.heap.size<R.heap.size:=by have:=y.size;omega
     have Q:w.heap.size≠B:=by omega
     have i:=zaa hJ;clear hJ y Y0 Y1 Y2 B8 C7 D5 B6 KF;by_cases hc:checkE (newestL (fndL d)) (fndP d) (fndN d)=0
     ·have A1:zdx j 11 (newestL (fndL d)) (fndP d) (fndN d)=({j with work:=11,steps:=checkS (newestL (fndL d)) (fndP d) (fndN d)},0):=by rw[zdx,if_pos hc]
      have HE:Hid (zb3 j=({j with work:=11,steps:=checkS (newestL (fndL d)) (fndP d) (fndN d),fL:=fndL d,fN:=fndN d,fP:=fndP d},zat 0)):=by rw[Hid,A8.o,if_pos hc]
      rw[A1]at i⊢;clear A1 hc A8;dsimp only at i⊢;obtain⟨_,da,dc,db,dd,na,nc,nb,nd,ne,nf,sa,sc,sb,sd,se,sf,ca,cc,fa,fc,ta,tc,N,_⟩:=id i.o;have E6:R.cell? ⟨B,52,none⟩=some (.slice fa j.fL.length fc):=zak N 52;have E9:R.cell? ⟨B,53,none⟩=some (.int .i64 j.fN):=zak N 53;have E1:R.cell? ⟨B,54,none⟩=some (.int .i64 j.fP):=zak N 54;have D9:R.frozen? ⟨B,52,none⟩=false:=frozen_of_row R _ _ _ _ N;have D7:R.frozen? ⟨B,53,none⟩=false:=frozen_of_row R _ _ _ _ N;have D8:R.frozen? ⟨B,54,none⟩=false:=frozen_of_row R _ _ _ _ N;clear N;obtain⟨⟨y0,y1,y2⟩,yf⟩:=zbl C8.o;go_wp2_with fail;obtain⟨W4,s⟩:∃W4,W4=((R.setCell ⟨B,52,none⟩ (.slice va (fndL d).length vc)).setCell ⟨B,53,none⟩ (.int .i64 (fndN d))).setCell ⟨B,54,none⟩ (.int .i64 (fndP d)):=⟨_,rfl⟩;have J:Hid (JAt W4 B (w.heap.size::X) {j with work:=11,steps:=checkS (newestL (fndL d)) (fndP d) (fndN d),fL:=fndL d,fN:=fndN d,fP:=fndP d}):=by rw[s];exact i.o.putFound (fndN d) (fndP d) D4.o
      have C:Hid (ButL [B] w.heap.size w W4):=by rw[s];exact((B5.o.set (.inl (by simp)) 52 _).set (.inl (by simp)) 53 _).set (.inl (by simp)) 54 _
      have n:Hid (W4.heap[w.heap.size]?=some (.cells #[.int .i64 0,.int .i64 0,.string ⟨#[]⟩] 31 (0,0))):=by rw[s];exact(Below.heap_setCell _ _ _ _ Q).trans ((Below.heap_setCell _ _ _ _ Q).trans ((Below.heap_setCell _ _ _ _ Q).trans C0.o))
      have F:w.heap.size<W4.heap.size:=by rw[s];simpa[World.setCell] using A5
      rw[←s];clear s y0 y1 y2 yf E6 E9 E1 D9 D7 D8 C0 C8 D4 B5 i A5;refine(zau 0 _).mono ?_;rintro e w2 ⟨rfl,A⟩;have D:=zaa (zad A F n.o);have S:=zaa (J.o.below A);have U:=zaa (C.o.trans (Y:=[]) (ButL.of_below A) C.o.size (by simp));clear A;obtain⟨⟨y0,y1,y2⟩,yf⟩:=zbl D.o;go_wp2;exact zbg HE.o D.o S.o U.o Q r fun W u0 u1 u2=>by simp[results,results46,go_sem,u0,u1,u2]
     ·have A1:zdx j 11 (newestL (fndL d)) (fndP d) (fndN d)=(j,checkE (newestL (fndL d)) (fndP d) (fndN d)):=by rw[zdx,if_neg hc]
      have HE:Hid (zb3 j=(j,zat (checkE (newestL (fndL d)) (fndP d) (fndN d)))):=by rw[Hid,A8.o,if_neg hc]
      rw[A1]at i⊢;dsimp only at i⊢;have F4:(checkE (newestL (fndL d)) (fndP d) (fndN d)==0)=false:=by simpa using hc
      clear A1 hc A8;generalize checkE (newestL (fndL d)) (fndP d) (fndN d)=E at *;go_wp2_with fail;have J:=i;have C:=B5;have n:=C0;have F:=A5;refine(zau E _).mono ?_;rintro e w2 ⟨rfl,A⟩;have D:=zaa (zad A F n.o);have S:=zaa (J.o.below A);have U:=zaa (C.o.trans (Y:=[]) (ButL.of_below A) C.o.size (by simp));clear A;obtain⟨⟨y0,y1,y2⟩,yf⟩:=zbl D.o;go_wp2;exact zbg HE.o D.o S.o U.o Q r fun W u0 u1 u2=>by simp[results,results46,go_sem,u0,u1,u2]
    have C2:=zaa B9;clear B9 B2;refine(show∀A0:Act,A0=_→Code.wp prog _ _ A0 _ from fun A0 hA0=>?_) _ rfl;have c:A0.tmps.size=44:=by rw[hA0];rfl
    have E7:A0.defers=[]:=by rw[hA0]
    have v0:A0.eval (.tmp 0)=.pointer (some ⟨B,0,none⟩):=by rw[hA0];rfl
    have v2:A0.eval (.tmp 2)=.pointer (some ⟨w.heap.size,0,none⟩):=by rw[hA0];rfl
    have v3:A0.eval (.tmp 3)=.pointer (some ⟨K.heap.size,0,none⟩):=by rw[hA0];rfl
    clear hA0;refine zbb 8 (fun M=>Below O.heap.size O M) [27,28,29,30,31,32,33,34] (zpk B K.heap.size va vc d (newestL (fndL d))) (by kernel_rfl) (by kernel_rfl) (by kernel_rfl) (by kernel_rfl) (by decide) ((Below.refl _ _).drew) ⟨?_,?_,?_,?_,?_,?_,?_,?_,trivial⟩ ?_
    ·exact zbd v0 c (fun _=>rfl) fun ρ M L z=>by simp only[execOp];go_simp
    ·exact zbd v3 c (fun _=>rfl) fun ρ M L z=>by simp only[execOp];go_simp
    ·exact zal 1 28 c (fun _ _ h=>h) (fun _=>rfl) fun ρ M L p=>by have c0:M.cell? ⟨K.heap.size,0,none⟩=some (.slice va (fndL d).length vc):=zac L B0 Y0.o;simp only[execOp];go_simp
    ·intro a M hF L hp;have p29:a.eval (.tmp 29)=.slice va (fndL d).length vc:=hp ⟨2,.data⟩ (by simp) rfl;refine zbo 78 #[.slice va (fndL d).length vc] rfl rfl (by have pf:=Act.eval_func a 78;revert p29 pf;generalize a.eval=ρ;intro p29 pf;simp only[execOp];go_simp) _ (zxt va vc (fndL d) _ ((B8.o.ext (Ext.seenL O (w.heap.size::X))).below L) (by have:=zot d;omega) B7) ?_;rintro e w2 ⟨v7,rfl,E4,C9⟩;obtain⟨ya,yc,rfl,B4,_⟩:=SegC.of_owns E4;refine⟨_,rfl,_,rfl,zae L C9,?_,zpl C9⟩;show zpk _ _ _ _ _ _ _ ((a.put (some 30) _).eval (.tmp 30)) w2;rw[zaq hF c (by decide)];exact⟨ya,yc,rfl,B4⟩
    ·exact zbd v3 c (fun _=>rfl) fun ρ M L z=>by simp only[execOp];go_simp
    ·exact zal 4 31 c (fun _ _ h=>h) (fun _=>rfl) fun ρ M L p=>by have c0:M.cell? ⟨K.heap.size,2,none⟩=some (.int .i64 (fndP d)):=zac L B0 Y2.o;simp only[execOp];go_simp
    ·exact zbd v3 c (fun _=>rfl) fun ρ M L z=>by simp only[execOp];go_simp
    ·exact zal 6 33 c (fun _ _ h=>h) (fun _=>rfl) fun ρ M L p=>by have c0:M.cell? ⟨K.heap.size,1,none⟩=some (.int .i64 (fndN d)):=zac L B0 Y1.o;simp only[execOp];go_simp
    ·intro a W hF L hp;have p0:a.eval (.tmp 27)=.pointer (some ⟨B,0,none⟩):=hp 0 (by decide);obtain⟨ya,yc,p3,B4⟩:∃ya yc,a.eval (.tmp 30)=.slice ya (newestL (fndL d)).length yc∧SegW W ya (newestL (fndL d)):=hp 3 (by decide);have p5:a.eval (.tmp 32)=.int .i64 (fndP d):=hp 5 (by decide);have p7:a.eval (.tmp 34)=.int .i64 (fndN d):=hp 7 (by decide);show wpOps prog _ _ [8,9] a W;rw[wpOps_cons];refine zbo 77 #[.pointer (some ⟨B,0,none⟩),.int .i64 11,.slice ya (newestL (fndL d)).length yc,.int .i64 (fndP d),.int .i64 (fndN d)] rfl rfl (by have pf:=Act.eval_func a 77;have C4:=Act.eval_const a (.int .i64 11);revert p0 p3 p5 p7 pf C4;generalize a.eval=ρ;intro p0 p3 p5 p7 pf C4;simp only[execOp];go_simp) _ (zrd B (w.heap.size::X) j W (C7.o.below L) (fun x hx=>Nat.lt_of_lt_of_le (E8.o x hx) (by have:=L.size;omega)) 11 ya yc (newestL (fndL d)) B4 (by have:=zem (newestF (fndL d)) 12;unfold newestL;omega) (fndP d) (fndN d)) ?_;rintro e w5 ⟨rfl,E2,E3⟩;refine⟨_,rfl,?_⟩;rw[wpOps_cons];have C6:a.tmps.size=44:=hF.size.trans c;obtain⟨m,l⟩:∃m,m=a.put (some 35) (.int .i64 (zdx j 11 (newestL (fndL d)) (fndP d) (fndN d)).2):=⟨_,rfl⟩;have D6:m.eval (.tmp 35)=.int .i64 (zdx j 11 (newestL (fndL d)) (fndP d) (fndN d)).2:=by rw[l];exact Act.eval_put_same _ _ _ (by rw[C6];decide)
     have B3:m.tmps.size=44:=by rw[l,Act.size_put];exact C6
     have E0:m.defers=[]:=by rw[l,Act.defers_put'];exact hF.defers.trans E7
     have o0:m.eval (.tmp 0)=.pointer (some ⟨B,0,none⟩):=by rw[l,Act.eval_put_ne _ _ _ _ (by decide)];exact(hF.other 0 rfl).trans v0
     have o2:m.eval (.tmp 2)=.pointer (some ⟨w.heap.size,0,none⟩):=by rw[l,Act.eval_put_ne _ _ _ _ (by decide)];exact(hF.other 2 rfl).trans v2
     have o3:m.eval (.tmp 3)=.pointer (some ⟨K.heap.size,0,none⟩):=by rw[l,Act.eval_put_ne _ _ _ _ (by decide)];exact(hF.other 3 rfl).trans v3
     show wpOp prog _ _ _ _ (a.put (some 35) (.int .i64 (zdx j 11 (newestL (fndL d)) (fndP d) (fndN d)).2)) w5;rw[←l];clear l;refine zay (.int .i64 (zdx j 11 (newestL (fndL d)) (fndP d) (fndN d)).2) rfl rfl (by revert D6;generalize m.eval=ρ;intro D6;simp only[execOp];go_simp) ?_;obtain⟨a2,q⟩:∃a2,a2=m.put (some 4) (.int .i64 (zdx j 11 (newestL (fndL d)) (fndP d) (fndN d)).2):=⟨_,rfl⟩;have f4:a2.eval (.tmp 4)=.int .i64 (zdx j 11 (newestL (fndL d)) (fndP d) (fndN d)).2:=by rw[q];exact Act.eval_put_same _ _ _ (by rw[B3];decide)
     have f0:a2.eval (.tmp 0)=.pointer (some ⟨B,0,none⟩):=by rw[q,Act.eval_put_ne _ _ _ _ (by decide)];exact o0
     have f2:a2.eval (.tmp 2)=.pointer (some ⟨w.heap.size,0,none⟩):=by rw[q,Act.eval_put_ne _ _ _ _ (by decide)];exact o2
     have f3:a2.eval (.tmp 3)=.pointer (some ⟨K.heap.size,0,none⟩):=by rw[q,Act.eval_put_ne _ _ _ _ (by decide)];exact o3
     have A6:a2=⟨#[_,_,_,_,_,_,_,_,_,_,_,_,_,_,_,_,_,_,_,_,_,_,_,_,_,_,_,_,_,_,_,_,_,_,_,_,_,_,_,_,_,_,_,_],[]⟩:=zb9 a2 44 (by rw[q,Act.size_put];exact B3) (by rw[q,Act.defers_put'];exact E0);dsimp only at A6;rw[f0,f2,f3,f4]at A6;show KK (m.put (some 4) (.int .i64 (zdx j 11 (newestL (fndL d)) (fndP d) (fndN d)).2)) w5;rw[←q];exact(congrArg (fun x=>KK x w5) A6).mpr (C2.o (fun k=>a2.eval (.tmp k)) w5 E2 ((ButL.of_below L).trans (Y:=[B]) E3 L.size (by simp)))
   ·have HE:Hid (zb3 j=(j,zat (scanE d))):=by rw[Hid,zb3,if_neg D2.o,←C3.o,if_neg hE]
    have F1:(scanE d !=0)=true:=by simpa using hE
    clear hE;generalize scanE d=E at *;go_wp2_with fail;obtain⟨O,b⟩:∃O,O=K.alloc (.cells #[.slice va (fndL d).length vc,.int .i64 (fndN d),.int .i64 (fndP d)] 90):=⟨_,rfl⟩;have A:Below K.heap.size K O:=by rw[b];exact zab _ _
    have J:=zaa (A2.o.below A);have n:=zaa (zad A B1 A9.o);have C:=zaa (u.o.trans (Y:=[]) (ButL.of_below A) u.o.size (by simp));have F:w.heap.size<O.heap.size:=Nat.lt_of_lt_of_le B1 A.size;rw[←b];clear b A A2 A9 u;refine(zau E _).mono ?_;rintro e w2 ⟨rfl,A⟩;have D:=zaa (zad A F n.o);have S:=zaa (J.o.below A);have U:=zaa (C.o.trans (Y:=[]) (ButL.of_below A) C.o.size (by simp));clear A;obtain⟨⟨y0,y1,y2⟩,yf⟩:=zbl D.o;go_wp2;exact zbg HE.o D.o S.o U.o Q r fun W u0 u1 u2=>by simp[results,results46,go_sem,u0,u1,u2]
def zvf (B:Nat)(ca:Option Addr)(cc:Nat)(j:Jn):Nat→Value→World→Prop
 |0,v,_=>v=.pointer (some ⟨B,0,none⟩)
 |1,v,_=>v=.pointer (some ⟨B,0,none⟩)
 |2,v,_=>v=.pointer (some ⟨B,0,none⟩)
 |3,v,_=>v=.pointer (some ⟨B,51,none⟩)
 |4,v,_=>v=.slice ca j.done.length cc
 |5,v,w=>∃a c,v=.slice a (newestL j.done).length c∧SegW w a (newestL j.done)
 |6,v,_=>v=.pointer (some ⟨B,0,none⟩)
 |7,v,_=>v=.pointer (some ⟨B,0,none⟩)
 |8,v,_=>v=.pointer (some ⟨B,3,none⟩)
 |9,v,_=>v=.pointer (some ⟨B,3,none⟩)
 |10,v,_=>v=.int .i64 j.rh
 |11,v,_=>v=.pointer (some ⟨B,0,none⟩)
 |12,v,_=>v=.pointer (some ⟨B,0,none⟩)
 |13,v,_=>v=.pointer (some ⟨B,5,none⟩)
 |14,v,_=>v=.int .i64 j.last
 |15,v,_=>v=.int .i64 (j.last+1)
 |_,_,_=>True
theorem zr6{B:Nat}{ca:Option Addr}{cc:Nat}{j:Jn}{w w':World}(hb:Below w.heap.size w w'){i:Nat}:∀kk uu,kk≠i→zvf B ca cc j kk uu w→zvf B ca cc j kk uu w':=by
 intro kk uu _ h
 match kk,h with
 |0,h|1,h|2,h|3,h|4,h=>exact h
 |5,⟨a,c,h1,h2⟩=>exact⟨a,c,h1,h2.below hb⟩
 |6,h|7,h|8,h|9,h|10,h|11,h|12,h|13,h|14,h|15,h=>exact h
 |_+16,_=>exact trivial
theorem zxz(B:Nat)(X:List Nat)(j:Jn)(w:World)(h:JAt w B X j)(hX:∀x∈X,x<w.heap.size)(hN:j.done.length≤maxLen)(hwp:IntKind.i64.wrap (j.last+1)=j.last+1):
  Calls prog 86 #[.pointer (some ⟨B,0,none⟩)] w (zdg w B X (zg6 j)):=by
 have HJ:=zaa h;have D9:=h.lt;have A3:=h.1;have HX:=zaa hX;have D5:=zaa hwp;clear h hX hwp;have D8:¬w.heap.size=B:=by omega
 go_enter func86,ntmps86;go_wp2_with fail;obtain⟨r,N⟩:∃r,r=w.alloc (.cells #[.int .i64 0,.int .i64 0,.string ⟨#[]⟩] 31):=⟨_,rfl⟩;have i:Hid (JAt r B (w.heap.size::X) j):=by rw[N];exact HJ.o.more (zab _ _) (Nat.le_refl _)
 have O:Hid (ButL [B] w.heap.size w r):=by rw[N];exact ButL.of_below (zab _ _)
 have KR:Hid (r.heap[w.heap.size]?=some (.cells #[.int .i64 0,.int .i64 0,.string ⟨#[]⟩] 31 (0,0))):=by rw[N];exact heap_alloc_new _ _
 have u:w.heap.size<r.heap.size:=by rw[N];simp
 have s:w.heap.size≠B:=by omega
 rw[←N];clear N;refine(zfl B (w.heap.size::X) j r i.o).mono ?_;rintro e w' ⟨rfl,rfl⟩;by_cases hs:0<j.steps.length
 ·have HE:Hid (zg6 j=(j,zat 9)):=by rw[Hid,zg6,if_pos (by intro e;rw[e]at hs;simp at hs)]
  have S:decide (0<j.steps.length)=true:=by simpa using hs
  rw[S];clear hs S;go_wp2_with fail;refine(zau 9 _).mono ?_;rintro e w2 ⟨rfl,D⟩;have Z:=zaa (zad D u KR.o);have J:=zaa (i.o.below D);have U:=zaa (O.o.trans (Y:=[]) (ButL.of_below D) O.o.size (by simp));clear D;obtain⟨⟨y0,y1,y2⟩,yf⟩:=zbl Z.o;go_wp2;exact zbg HE.o Z.o J.o U.o s A3 fun W u0 u1 u2=>by simp[results,results86,go_sem,u0,u1,u2]
 ·have S:decide (0<j.steps.length)=false:=by simpa using hs
  have y:j.steps=[]:=List.eq_nil_of_length_eq_zero (by omega);rw[S];clear hs S;obtain⟨_,da,dc,db,dd,na,nc,nb,nd,ne,nf,sa,sc,sb,sd,se,sf,q,n,fa,fc,ta,tc,h1,hr⟩:=id i.o;have D1:w'.cell? ⟨B,51,none⟩=some (.slice q j.done.length n):=zak h1 51;have C3:Hid (w'.cell? ⟨B,3,none⟩=some (.int .i64 j.rh)):=zak h1 3;have C5:Hid (w'.cell? ⟨B,5,none⟩=some (.int .i64 j.last)):=zak h1 5;have D2:Hid (w'.cell? ⟨B,51,none⟩=some (.slice q j.done.length n)):=zak h1 51;have C8:=zaa hr.2.2.2.1;clear h1 hr;by_cases hd:j.done=[]
  ·have HE:Hid (zg6 j=(j,zat 4)):=by rw[Hid,zg6,if_neg (by simp[y]),if_pos hd]
   have hl:j.done.length=0:=by rw[hd];rfl
   clear hd y;go_wp2_with fail;refine(zau 4 _).mono ?_;rintro e w2 ⟨rfl,D⟩;have Z:=zaa (zad D u KR.o);have J:=zaa (i.o.below D);have U:=zaa (O.o.trans (Y:=[]) (ButL.of_below D) O.o.size (by simp));clear D;obtain⟨⟨y0,y1,y2⟩,yf⟩:=zbl Z.o;go_wp2;exact zbg HE.o Z.o J.o U.o s A3 fun W u0 u1 u2=>by simp[results,results86,go_sem,u0,u1,u2]
  ·have HE:Hid (zg6 j=((zdx j 7 (newestL j.done) j.rh (j.last+1)).1,zat (zdx j 7 (newestL j.done) j.rh (j.last+1)).2)):=by rw[Hid,zg6,if_neg (by simp[y]),if_neg hd]
   have hl:((j.done.length:Int)==0)=false:=by
    have:=mt List.eq_nil_of_length_eq_zero hd;simp only[beq_eq_false_iff_ne];omega
   clear hd y;go_wp2;rename_i KK A2;clear D1 hl;obtain⟨F,B8⟩:∃F,F=w':=⟨_,rfl⟩;rw[←B8];subst B8
   have A7:∀(g:Nat→Value) (W3:World) (E:Int),E=(zdx j 7 (newestL j.done) j.rh (j.last+1)).2→JAt W3 B (w.heap.size::X) (zdx j 7 (newestL j.done) j.rh (j.last+1)).1→ButL [B] F.heap.size F W3→W3.heap[w.heap.size]?=some (.cells #[.int .i64 0,.int .i64 0,.string ⟨#[]⟩] 31 (0,0))→KK ⟨#[.pointer (some ⟨B,0,none⟩),g 1,.pointer (some ⟨w.heap.size,0,none⟩),g 3,g 4,g 5,g 6,g 7,g 8,g 9,g 10,g 11,g 12,g 13,g 14,g 15,g 16,g 17,g 18,g 19,g 20,g 21,g 22,g 23,g 24,g 25,g 26,g 27,g 28,g 29,g 30,g 31,g 32],[]⟩ (((W3.setCell ⟨w.heap.size,0,none⟩ (.int .i64 E)).setCell ⟨w.heap.size,1,none⟩ (.int .i64 0)).setCell ⟨w.heap.size,2,none⟩ (.string ⟨#[]⟩)):=by
    intro g W3 E hE hJ B7 hK;apply A2;clear A2;have J:=zaa hJ;have U:=zaa (O.o.trans (Y:=[B]) B7 O.o.size (by simp));obtain⟨W,hW⟩:∃W,W=(((W3.setCell ⟨w.heap.size,0,none⟩ (.int .i64 E)).setCell ⟨w.heap.size,1,none⟩ (.int .i64 0)).setCell ⟨w.heap.size,2,none⟩ (.string ⟨#[]⟩)):=⟨_,rfl⟩;have hX:=zgc hK (.int .i64 E) (.int .i64 0) (.string ⟨#[]⟩);rw[←hW]at hX⊢;have B3:=zaa hW;have D6:=zaa hE;clear hW hE hK hJ B7;go_wp2;obtain⟨⟨u0,u1,u2⟩,_⟩:=zbl hX;refine bodyPost_ret (v:=.agg #[.int .i64 E,.int .i64 0,.string ⟨#[]⟩]) (by simp[results,results86,go_sem,u0,u1,u2]) rfl ⟨by rw[HE.o,D6.o];rfl,?_,?_⟩
    ·rw[HE.o,B3.o];exact zw5 J.o s A3 _ _ _
    ·rw[B3.o];exact((U.o.set (.inr (by omega)) 0 _).set (.inr (by omega)) 1 _).set (.inr (by omega)) 2 _
   have A9:=zaa A7;clear A7 A2;have J:=i;have A4:B<F.heap.size:=by omega
   have hwp:=D5.o
   have D4:Hid (∀x∈w.heap.size::X,x<F.heap.size):=fun x hx=>by
    rcases List.mem_cons.1 hx with rfl|hx
    ·exact u
    ·have:=HX.o x hx;omega
   refine(show∀A0:Act,A0=_→Code.wp prog _ _ A0 _ from fun A0 hA0=>?_) _ rfl;have C:A0.tmps.size=33:=by rw[hA0];rfl
   have D3:A0.defers=[]:=by rw[hA0]
   have v0:A0.eval (.tmp 0)=.pointer (some ⟨B,0,none⟩):=by rw[hA0];rfl
   have v2:A0.eval (.tmp 2)=.pointer (some ⟨w.heap.size,0,none⟩):=by rw[hA0];rfl
   clear hA0;refine zbb 16 (fun w'=>Below F.heap.size F w') [15,16,17,18,19,20,21,22,23,24,25,26,27,28,29,30] (zvf B q n j) (by kernel_rfl) (by kernel_rfl) (by kernel_rfl) (by kernel_rfl) (by decide) ((Below.refl _ _).drew) ⟨?_,?_,?_,?_,?_,?_,?_,?_,?_,?_,?_,?_,?_,?_,?_,?_,trivial⟩ ?_
   ·exact zbd v0 C (fun _=>rfl) fun ρ w' A z=>by simp only[execOp];go_simp
   ·exact zbd v0 C (fun _=>rfl) fun ρ w' A z=>by simp only[execOp];go_simp
   ·exact zal 1 16 C (fun _ _ h=>h) (fun _=>rfl) fun ρ w' A p=>by simp only[execOp];go_simp
   ·exact zal 2 17 C (fun _ _ h=>h) (fun _=>rfl) fun ρ w' A p=>by simp only[execOp];go_simp
   ·exact zal 3 18 C (fun _ _ h=>h) (fun _=>rfl) fun ρ w' A p=>by have c0:w'.cell? ⟨B,51,none⟩=some (.slice q j.done.length n):=zac A A4 D2.o;simp only[execOp];go_simp
   ·intro a w' c A b;have B1:a.eval (.tmp 19)=.slice q j.done.length n:=b ⟨4,.data⟩ (by simp) rfl;refine zbo 126 #[.slice q j.done.length n] rfl rfl (by have d:=Act.eval_func a 126;revert B1 d;generalize a.eval=ρ;intro B1 d;simp only[execOp];go_simp) _ (zmj q n j.done _ ((C8.o.ext (Ext.seenL F (w.heap.size::X))).below A) hN) ?_;rintro e w2 ⟨v7,rfl,C7,C0⟩;obtain⟨l,yc,rfl,A8,_⟩:=SegC.of_owns C7;refine⟨_,rfl,_,rfl,zae A C0,?_,zr6 C0⟩;show zvf _ _ _ _ _ ((a.put (some 20) _).eval (.tmp 20)) w2;rw[zaq c C (by decide)];exact⟨l,yc,rfl,A8⟩
   ·exact zbd v0 C (fun _=>rfl) fun ρ w' A z=>by simp only[execOp];go_simp
   ·exact zal 6 21 C (fun _ _ h=>h) (fun _=>rfl) fun ρ w' A p=>by simp only[execOp];go_simp
   ·exact zal 7 22 C (fun _ _ h=>h) (fun _=>rfl) fun ρ w' A p=>by simp only[execOp];go_simp
   ·exact zal 8 23 C (fun _ _ h=>h) (fun _=>rfl) fun ρ w' A p=>by simp only[execOp];go_simp
   ·exact zal 9 24 C (fun _ _ h=>h) (fun _=>rfl) fun ρ w' A p=>by have c0:w'.cell? ⟨B,3,none⟩=some (.int .i64 j.rh):=zac A A4 C3.o;simp only[execOp];go_simp
   ·exact zbd v0 C (fun _=>rfl) fun ρ w' A z=>by simp only[execOp];go_simp
   ·exact zal 11 26 C (fun _ _ h=>h) (fun _=>rfl) fun ρ w' A p=>by simp only[execOp];go_simp
   ·exact zal 12 27 C (fun _ _ h=>h) (fun _=>rfl) fun ρ w' A p=>by simp only[execOp];go_simp
   ·exact zal 13 28 C (fun _ _ h=>h) (fun _=>rfl) fun ρ w' A p=>by have c0:w'.cell? ⟨B,5,none⟩=some (.int .i64 j.last):=zac A A4 C5.o;simp only[execOp];go_simp
   ·intro a w' c A b;have p29:a.eval (.tmp 29)=.int .i64 j.last:=b ⟨14,.data⟩ (by simp) rfl;exact zgm _ rfl rfl (by have R:=Act.eval_const a (.int .i64 1);revert p29 R;generalize a.eval=ρ;intro p29 R;simp only[execOp];go_simp) c C A rfl
   ·intro a W c A b;have B6:a.eval (.tmp 15)=.pointer (some ⟨B,0,none⟩):=b 0 (by decide);obtain⟨l,yc,B0,A8⟩:∃l yc,a.eval (.tmp 20)=.slice l (newestL j.done).length yc∧SegW W l (newestL j.done):=b 5 (by decide);have p25:a.eval (.tmp 25)=.int .i64 j.rh:=b 10 (by decide);have p30:a.eval (.tmp 30)=.int .i64 (j.last+1):=b 15 (by decide);show wpOps prog _ _ [16,17,18] a W;rw[wpOps_cons];refine zbo 77 #[.pointer (some ⟨B,0,none⟩),.int .i64 7,.slice l (newestL j.done).length yc,.int .i64 j.rh,.int .i64 (j.last+1)] rfl rfl (by have d:=Act.eval_func a 77;have R:=Act.eval_const a (.int .i64 7);revert B6 B0 p25 p30 d R;generalize a.eval=ρ;intro B6 B0 p25 p30 d R;simp only[execOp];go_simp) _ (zrd B (w.heap.size::X) j W (J.o.below A) (fun x hx=>Nat.lt_of_lt_of_le (D4.o x hx) (by have:=A.size;omega)) 7 l yc (newestL j.done) A8 (by have:=zem (newestF j.done) 12;unfold newestL;omega) j.rh (j.last+1)) ?_;rintro e w5 ⟨rfl,C9,C6⟩;refine⟨_,rfl,?_⟩;rw[wpOps_cons];have B4:a.tmps.size=33:=c.size.trans C;obtain⟨E,B5⟩:∃E,E=(zdx j 7 (newestL j.done) j.rh (j.last+1)).2:=⟨_,rfl⟩;obtain⟨L,K⟩:∃L,L=a.put (some 31) (.int .i64 E):=⟨_,rfl⟩;have B2:L.eval (.tmp 31)=.int .i64 E:=by rw[K];exact Act.eval_put_same _ _ _ (by rw[B4];decide)
    have A5:L.tmps.size=33:=by rw[K,Act.size_put];exact B4
    have C4:L.defers=[]:=by rw[K,Act.defers_put'];exact c.defers.trans D3
    have o0:L.eval (.tmp 0)=.pointer (some ⟨B,0,none⟩):=by rw[K,Act.eval_put_ne _ _ _ _ (by decide)];exact(c.other 0 rfl).trans v0
    have o2:L.eval (.tmp 2)=.pointer (some ⟨w.heap.size,0,none⟩):=by rw[K,Act.eval_put_ne _ _ _ _ (by decide)];exact(c.other 2 rfl).trans v2
    rw[←B5];show wpOp prog _ _ _ _ (a.put (some 31) (.int .i64 E)) w5;rw[←K];clear K;refine zbo 43 #[.int .i64 E] rfl rfl (by have d:=Act.eval_func L 43;revert B2 d;generalize L.eval=ρ;intro B2 d;simp only[execOp];go_simp) _ (zau E w5) ?_;rintro e w6 ⟨rfl,A6⟩;refine⟨_,rfl,?_⟩;rw[wpOps_cons];obtain⟨I,M⟩:∃I,I=L.put (some 32) (.agg #[.int .i64 E,.int .i64 0,.string ⟨#[]⟩]):=⟨_,rfl⟩;have B9:I.eval (.tmp 32)=.agg #[.int .i64 E,.int .i64 0,.string ⟨#[]⟩]:=by rw[M];exact Act.eval_put_same _ _ _ (by rw[A5];decide)
    have f0:I.eval (.tmp 0)=.pointer (some ⟨B,0,none⟩):=by rw[M,Act.eval_put_ne _ _ _ _ (by decide)];exact o0
    have f2:I.eval (.tmp 2)=.pointer (some ⟨w.heap.size,0,none⟩):=by rw[M,Act.eval_put_ne _ _ _ _ (by decide)];exact o2
    have C1:I.tmps.size=33:=by rw[M,Act.size_put];exact A5
    have C2:I.defers=[]:=by rw[M,Act.defers_put'];exact C4
    show wpOp prog _ _ _ _ (L.put (some 32) (.agg #[.int .i64 E,.int .i64 0,.string ⟨#[]⟩])) w6;rw[←M];clear M;have Q:ButL [B] F.heap.size F w5:=(ButL.of_below A).trans (Y:=[B]) C6 A.size (by simp);have D7:F.heap.size≤w5.heap.size:=Q.size;have A1:=zad A6 (show w.heap.size<w5.heap.size by omega) ((Q.block _ u (by simpa using s)).trans KR.o);obtain⟨⟨y0,y1,y2⟩,yf⟩:=zbl A1;refine zce rfl rfl (w':=(((w6.setCell ⟨w.heap.size,0,none⟩ (.int .i64 E)).setCell ⟨w.heap.size,1,none⟩ (.int .i64 0)).setCell ⟨w.heap.size,2,none⟩ (.string ⟨#[]⟩))) (by revert B9 f2;generalize I.eval=ρ;intro B9 f2;simp only[execOp];go_simp) ?_;have m:I=⟨#[_,_,_,_,_,_,_,_,_,_,_,_,_,_,_,_,_,_,_,_,_,_,_,_,_,_,_,_,_,_,_,_,_],[]⟩:=zb9 I 33 C1 C2;dsimp only at m;rw[f0,f2]at m;show KK I _;refine(congrArg (fun x=>KK x _) m).mpr (A9.o (fun k=>I.eval (.tmp k)) w6 E B5 (C9.below A6) (Q.trans (Y:=[]) (ButL.of_below A6) Q.size (by simp)) A1)
def zgi (B:Nat)(D:Nat)(j:Jn)(ac:Ac)(X:List Nat)(na:Option Addr)(nc:Nat)(nb:Option Addr)(nd:Nat)(ne:Option Addr)(nf:Nat):Nat→Value→Value→World→Prop
 |0,v,_,_=>v=.pointer (some ⟨B,0,none⟩)
 |1,v,_,_=>v=.pointer (some ⟨B,0,none⟩)
 |2,v,_,_=>v=.pointer (some ⟨B,31,none⟩)
 |3,v,_,_=>v=.agg #[.int .i64 j.now.seq,.slice na j.now.info.length nc,.slice nb j.now.data.length nd,.slice ne j.now.rev.length nf,.bool j.now.h0.on,.int .i64 j.now.h0.left,.bool j.now.h1.on,.int .i64 j.now.h1.left,.bool j.now.h2.on,.int .i64 j.now.h2.left]
 |4,v,_,_=>v=.pointer (some ⟨D,1,none⟩)
 |5,v,_,_=>v=.int .i64 ac.h
 |6,v,_,_=>v=.pointer (some ⟨D,2,none⟩)
 |7,v,_,_=>v=.int .i64 ac.b
 |8,v,_,_=>v=.pointer (some ⟨D,4,none⟩)
 |9,v,_,_=>v=.string ac.text
 |10,v,_,_=>v=.string (fitT ac.text)
 |11,v,u,w=>∃v2,v=.tuple #[v2,.int .i64 (changeE j.now ac.h ac.b (fitT ac.text))]∧okTx X (zaf j.now ac.h ac.b (fitT ac.text)) v2 u w
 |12,v,u,w=>∃v2,v=.tuple #[v2,.int .i64 (changeE j.now ac.h ac.b (fitT ac.text))]∧okTx X (zaf j.now ac.h ac.b (fitT ac.text)) v2 u w
 |13,v,u,w=>okTx X (zaf j.now ac.h ac.b (fitT ac.text)) v u w
 |14,v,_,_=>v=.int .i64 (changeE j.now ac.h ac.b (fitT ac.text))
 |15,v,_,_=>∃T,v=.pointer (some ⟨T,0,none⟩)
 |16,v,_,w=>∃T ua uc ub ud ue uf,v=.pointer (some ⟨T,0,none⟩)∧w.heap[T]?=some (.cells #[.int .i64 (zaf j.now ac.h ac.b (fitT ac.text)).seq,.slice ua (zaf j.now ac.h ac.b (fitT ac.text)).info.length uc,.slice ub (zaf j.now ac.h ac.b (fitT ac.text)).data.length ud,.slice ue (zaf j.now ac.h ac.b (fitT ac.text)).rev.length uf,.bool (zaf j.now ac.h ac.b (fitT ac.text)).h0.on,.int .i64 (zaf j.now ac.h ac.b (fitT ac.text)).h0.left,.bool (zaf j.now ac.h ac.b (fitT ac.text)).h1.on,.int .i64 (zaf j.now ac.h ac.b (fitT ac.text)).h1.left,.bool (zaf j.now ac.h ac.b (fitT ac.text)).h2.on,.int .i64 (zaf j.now ac.h ac.b (fitT ac.text)).h2.left] 40 (0,0))∧IsTx (zas w (T::X)) (.agg #[.int .i64 (zaf j.now ac.h ac.b (fitT ac.text)).seq,.slice ua (zaf j.now ac.h ac.b (fitT ac.text)).info.length uc,.slice ub (zaf j.now ac.h ac.b (fitT ac.text)).data.length ud,.slice ue (zaf j.now ac.h ac.b (fitT ac.text)).rev.length uf,.bool (zaf j.now ac.h ac.b (fitT ac.text)).h0.on,.int .i64 (zaf j.now ac.h ac.b (fitT ac.text)).h0.left,.bool (zaf j.now ac.h ac.b (fitT ac.text)).h1.on,.int .i64 (zaf j.now ac.h ac.b (fitT ac.text)).h1.left,.bool (zaf j.now ac.h ac.b (fitT ac.text)).h2.on,.int .i64 (zaf j.now ac.h ac.b (fitT ac.text)).h2.left]) (zaf j.now ac.h ac.b (fitT ac.text))∧RoomTx (.agg #[.int .i64 (zaf j.now ac.h ac.b (fitT ac.text)).seq,.slice ua (zaf j.now ac.h ac.b (fitT ac.text)).info.length uc,.slice ub (zaf j.now ac.h ac.b (fitT ac.text)).data.length ud,.slice ue (zaf j.now ac.h ac.b (fitT ac.text)).rev.length uf,.bool (zaf j.now ac.h ac.b (fitT ac.text)).h0.on,.int .i64 (zaf j.now ac.h ac.b (fitT ac.text)).h0.left,.bool (zaf j.now ac.h ac.b (fitT ac.text)).h1.on,.int .i64 (zaf j.now ac.h ac.b (fitT ac.text)).h1.left,.bool (zaf j.now ac.h ac.b (fitT ac.text)).h2.on,.int .i64 (zaf j.now ac.h ac.b (fitT ac.text)).h2.left])
 |_,_,_,_=>True
theorem zmm{B:Nat}{D:Nat}{j:Jn}{ac:Ac}{X:List Nat}{na:Option Addr}{nc:Nat}{nb:Option Addr}{nd:Nat}{ne:Option Addr}{nf:Nat}{u:Value}{w w':World}(hb:Below w.heap.size w w'):∀kk x,zgi B D j ac X na nc nb nd ne nf kk x u w→zgi B D j ac X na nc nb nd ne nf kk x u w':=by
 intro kk x h
 match kk,h with
 |0,h|1,h|2,h|3,h|4,h|5,h|6,h|7,h|8,h|9,h|10,h=>exact h
 |11,⟨v2,h1,h2⟩=>exact⟨v2,h1,h2.below hb⟩
 |12,⟨v2,h1,h2⟩=>exact⟨v2,h1,h2.below hb⟩
 |13,h=>exact h.below hb
 |14,h|15,h=>exact h
 |16,⟨T,ua,uc,ub,ud,ue,uf,h1,h2,h3,h4⟩=>exact⟨T,ua,uc,ub,ud,ue,uf,h1,zad hb (Array.getElem?_eq_some_iff.1 h2).1 h2,h3.ext (Ext.freshL hb),h4⟩
 |_+17,_=>exact trivial
theorem zt9{B:Nat}{D:Nat}{j:Jn}{ac:Ac}{X:List Nat}{na:Option Addr}{nc:Nat}{nb:Option Addr}{nd:Nat}{ne:Option Addr}{nf:Nat}{u:Value}{w:World}(o:Obj):∀kk x,zgi B D j ac X na nc nb nd ne nf kk x u w→zgi B D j ac X na nc nb nd ne nf kk x (.pointer (some ⟨w.heap.size,0,none⟩)) (w.alloc o):=by
 intro kk x h
 match kk,h with
 |0,h|1,h|2,h|3,h|4,h|5,h|6,h|7,h|8,h|9,h|10,h=>exact h
 |11,⟨v2,h1,h2⟩=>exact⟨v2,h1,h2.alloc o⟩
 |12,⟨v2,h1,h2⟩=>exact⟨v2,h1,h2.alloc o⟩
 |13,h=>exact h.alloc o
 |14,h|15,h=>exact h
 |16,⟨T,ua,uc,ub,ud,ue,uf,h1,h2,h3,h4⟩=>exact⟨T,ua,uc,ub,ud,ue,uf,h1,zad (zab _ _) (Array.getElem?_eq_some_iff.1 h2).1 h2,h3.ext (Ext.freshL (zab _ _)),h4⟩
 |_+17,_=>exact trivial
theorem zua{B:Nat}{D:Nat}{j:Jn}{ac:Ac}{X:List Nat}{na:Option Addr}{nc:Nat}{nb:Option Addr}{nd:Nat}{ne:Option Addr}{nf:Nat}{u:Value}{w w':World}(hs:∀t x,okTx X t x u w→okTx X t x u w'):∀kk x,kk≠16→zgi B D j ac X na nc nb nd ne nf kk x u w→zgi B D j ac X na nc nb nd ne nf kk x u w':=by
 intro kk x A h
 match kk,h with
 |0,h|1,h|2,h|3,h|4,h|5,h|6,h|7,h|8,h|9,h|10,h=>exact h
 |11,⟨y,h1,h2⟩=>exact⟨y,h1,hs _ _ h2⟩
 |12,⟨y,h1,h2⟩=>exact⟨y,h1,hs _ _ h2⟩
 |13,h=>exact hs _ _ h
 |14,h|15,h=>exact h
 |16,_=>exact absurd rfl A
 |_+17,_=>exact trivial
theorem zx0(B:Nat)(X:List Nat)(j:Jn)(w:World)(h:JAt w B X j)(hX:∀x∈X,x<w.heap.size)(ac:Ac)(hsz2:ac.text.size≤maxLen)(r1:j.now.info.length*24≤140737488355328)(r2:j.now.data.length*24≤140737488355328):
  Calls prog 82 #[.pointer (some ⟨B,0,none⟩),.agg #[.int .i64 ac.kind,.int .i64 ac.h,.int .i64 ac.b,.int .i64 ac.n,.string ac.text]] w (zdg w B X (zg5 j ac)):=by
 have HJ:=zaa h;have I8:=h.lt;have B1:=h.1;have HX:=zaa hX;clear h hX;go_enter func82,ntmps82;go_wp2;rename_i KK B3;obtain⟨F,y⟩:∃F,F=(w.alloc (.cells #[.int .i64 ac.kind,.int .i64 ac.h,.int .i64 ac.b,.int .i64 ac.n,.string ac.text] 23)).alloc (.cells #[.int .i64 0,.int .i64 0,.string ⟨#[]⟩] 31):=⟨_,rfl⟩;have D6:(w.alloc (.cells #[.int .i64 ac.kind,.int .i64 ac.h,.int .i64 ac.b,.int .i64 ac.n,.string ac.text] 23)).heap.size=w.heap.size+1:=by simp
 have i:Hid (JAt F B ((w.heap.size+1)::X) j):=by rw[y];exact(HJ.o.below (zab _ _)).more (zab _ _) (by omega)
 have p:Hid (Below w.heap.size w F):=by rw[y];exact zae (zab _ _) (zab _ _)
 have K:Hid (F.heap[w.heap.size+1]?=some (.cells #[.int .i64 0,.int .i64 0,.string ⟨#[]⟩] 31 (0,0))):=by rw[y,←D6];exact heap_alloc_new _ _
 have C9:Hid (F.heap[w.heap.size]?=some (.cells #[.int .i64 ac.kind,.int .i64 ac.h,.int .i64 ac.b,.int .i64 ac.n,.string ac.text] 23 (0,0))):=by rw[y];exact zad (zab _ _) (by omega) (heap_alloc_new _ _)
 have J1:F.heap.size=w.heap.size+2:=by rw[y];simp
 have I1:Hid (∀x∈((w.heap.size+1)::X),x<F.heap.size):=fun x hx=>by
  rcases List.mem_cons.1 hx with rfl|hx
  ·omega
  ·have:=HX.o x hx;omega
 rw[←y];clear y D6;have N:B<F.heap.size:=by omega
 have B2:w.heap.size<F.heap.size:=by omega
 have D1:∀(g:Nat→Value) (m:World) (T:Nat) (c:Option Addr) (U:Nat) (O:Option Addr) (R:Nat) (S:Option Addr) (d:Nat),IsTx (zas m (T::((w.heap.size+1)::X))) (.agg #[.int .i64 (zaf j.now ac.h ac.b (fitT ac.text)).seq,.slice c (zaf j.now ac.h ac.b (fitT ac.text)).info.length U,.slice O (zaf j.now ac.h ac.b (fitT ac.text)).data.length R,.slice S (zaf j.now ac.h ac.b (fitT ac.text)).rev.length d,.bool (zaf j.now ac.h ac.b (fitT ac.text)).h0.on,.int .i64 (zaf j.now ac.h ac.b (fitT ac.text)).h0.left,.bool (zaf j.now ac.h ac.b (fitT ac.text)).h1.on,.int .i64 (zaf j.now ac.h ac.b (fitT ac.text)).h1.left,.bool (zaf j.now ac.h ac.b (fitT ac.text)).h2.on,.int .i64 (zaf j.now ac.h ac.b (fitT ac.text)).h2.left]) (zaf j.now ac.h ac.b (fitT ac.text))→RoomTx (.agg #[.int .i64 (zaf j.now ac.h ac.b (fitT ac.text)).seq,.slice c (zaf j.now ac.h ac.b (fitT ac.text)).info.length U,.slice O (zaf j.now ac.h ac.b (fitT ac.text)).data.length R,.slice S (zaf j.now ac.h ac.b (fitT ac.text)).rev.length d,.bool (zaf j.now ac.h ac.b (fitT ac.text)).h0.on,.int .i64 (zaf j.now ac.h ac.b (fitT ac.text)).h0.left,.bool (zaf j.now ac.h ac.b (fitT ac.text)).h1.on,.int .i64 (zaf j.now ac.h ac.b (fitT ac.text)).h1.left,.bool (zaf j.now ac.h ac.b (fitT ac.text)).h2.on,.int .i64 (zaf j.now ac.h ac.b (fitT ac.text)).h2.left])→m.heap[T]?=some (.cells #[.int .i64 (zaf j.now ac.h ac.b (fitT ac.text)).seq,.slice c (zaf j.now ac.h ac.b (fitT ac.text)).info.length U,.slice O (zaf j.now ac.h ac.b (fitT ac.text)).data.length R,.slice S (zaf j.now ac.h ac.b (fitT ac.text)).rev.length d,.bool (zaf j.now ac.h ac.b (fitT ac.text)).h0.on,.int .i64 (zaf j.now ac.h ac.b (fitT ac.text)).h0.left,.bool (zaf j.now ac.h ac.b (fitT ac.text)).h1.on,.int .i64 (zaf j.now ac.h ac.b (fitT ac.text)).h1.left,.bool (zaf j.now ac.h ac.b (fitT ac.text)).h2.on,.int .i64 (zaf j.now ac.h ac.b (fitT ac.text)).h2.left] 40 (0,0))→F.heap.size≤T→Below F.heap.size F m→KK ⟨#[.pointer (some ⟨B,0,none⟩),g 1,g 2,.pointer (some ⟨w.heap.size,0,none⟩),.pointer (some ⟨w.heap.size+1,0,none⟩),.pointer (some ⟨T,0,none⟩),.int .i64 (changeE j.now ac.h ac.b (fitT ac.text)),g 7,g 8,g 9,g 10,g 11,g 12,g 13,g 14,g 15,g 16,g 17,g 18,g 19,g 20,g 21,g 22,g 23,g 24,g 25,g 26,g 27,g 28,g 29,g 30,g 31,g 32,g 33,g 34,g 35,g 36,g 37,g 38,g 39,g 40,g 41,g 42,g 43,g 44],[]⟩ m:=by
  intro g m T c U O R S d q s l A6 A5;apply B3;clear B3;have C7:=zaa (q.ext (Ext.lessL T));have G2:=zaa s;have KT:=zaa l;have B7:=zaa (i.o.below A5);have B9:=zaa (zae p.o A5);have C3:=zaa (zad A5 (show w.heap.size+1<F.heap.size by omega) K.o);have C0:=zaa (zad A5 B2 C9.o);have I9:F.heap.size≤m.heap.size:=A5.size;have H9:T<m.heap.size:=(Array.getElem?_eq_some_iff.1 l).1;clear q s l A5 i p K C9;obtain⟨t,ht⟩:∃t,t=zaf j.now ac.h ac.b (fitT ac.text):=⟨_,rfl⟩;rw[←ht]at C7 G2 KT;have A8:w.heap.size+1≠B:=by omega
  by_cases he:changeE j.now ac.h ac.b (fitT ac.text)=0
  ·obtain⟨H8,I0⟩:=zrq he;obtain⟨Z,C4⟩:∃Z:Nat,ac.b=(Z:Int):=⟨ac.b.toNat,by omega⟩;have C6:Z<12:=by omega
   have HW:Hid (zg5 j ac=if j.role Z=2 then(j,zat 8) else({j with role:=upd j.role Z 1,now:=t},zat 0)):=by
    rw[Hid,zg5,if_pos he,←ht,C4,Int.toNat_natCast]
   rw[he];rw[C4]at C0;clear he ht C4 H8 I0;obtain⟨⟨y0,y1,y2,y3,y4⟩,yf⟩:=zhn C0.o;have I2:(0:Int)≤(Z:Int):=by omega
   have I3:(Z:Int)<12:=by omega
   go_wp2
   go_quiet (fail)
   obtain⟨W5,B6⟩:∃W5,W5=m.drewN nq:=⟨_,rfl⟩;have u:Below m.heap.size m W5:=by rw[B6];exact below_drewN (Below.refl _ _) _
   have B0:=zaa (B7.o.below u);have B8:Hid (ButL [B] w.heap.size w W5):=ButL.of_below (zae B9.o u);have D2:=zaa (zad u (show w.heap.size+1<m.heap.size by omega) C3.o);have E5:=zaa (zad u H9 KT.o);have B5:=zaa (C7.o.ext (Ext.freshL u));have J0:m.heap.size≤W5.heap.size:=u.size;rw[←B6];clear B6 u y0 y1 y2 y3 y4 yf B7 B9 C3 KT C7 C0;obtain⟨E7,_,H4,_⟩:=B0.o.role Z C6;by_cases hro:j.role Z=2
   ·have HE:Hid (zg5 j ac=(j,zat 8)):=by rw[Hid,HW.o,if_pos hro]
    rw[hro]at E7;clear hro HW;go_wp2_with fail;have D3:=B0;have A7:=B8;have KR:=D2;have C1:w.heap.size+1<W5.heap.size:=by omega
    refine(zau 8 _).mono ?_;rintro e w2 ⟨rfl,J⟩;have K:=zaa (zad J C1 KR.o);have i:=zaa (D3.o.below J);have p:=zaa (A7.o.trans (Y:=[]) (ButL.of_below J) A7.o.size (by simp));clear J;obtain⟨⟨y0,y1,y2⟩,yf⟩:=zbl K.o;go_wp2;exact zbg HE.o K.o i.o p.o A8 B1 fun W u0 u1 u2=>by simp[results,results82,go_sem,u0,u1,u2]
   ·have HE:Hid (zg5 j ac=({j with role:=upd j.role Z 1,now:=t},zat 0)):=by rw[Hid,HW.o,if_neg hro]
    have I4:(j.role Z==2)=false:=by simpa using hro
    clear hro HW;obtain⟨⟨t0,t1,t2,t3,t4,t5,t6,t7,t8,t9⟩,tf⟩:=zaj E5.o;have I7:¬T=B:=by omega
    have J2:¬B=T:=by omega
    go_wp2_with fail;obtain⟨W6,z⟩:∃W6,W6=W5.setCell ⟨B,7+Z*2,none⟩ (.int .i64 1):=⟨_,rfl⟩;have E8:Hid (JAt W6 B ((w.heap.size+1)::X) {j with role:=upd j.role Z 1}):=by rw[z];exact B0.o.putRole Z C6 1
    have B4:Hid (IsTx (zas W6 ((w.heap.size+1)::X)) (.agg #[.int .i64 t.seq,.slice c t.info.length U,.slice O t.data.length R,.slice S t.rev.length d,.bool t.h0.on,.int .i64 t.h0.left,.bool t.h1.on,.int .i64 t.h1.left,.bool t.h2.on,.int .i64 t.h2.left]) t):=by rw[z];exact B5.o.ext (Ext.setL (by simp[B1]) _ _)
    have C5:Hid (ButL [B] w.heap.size w W6):=by rw[z];exact B8.o.set (.inl (by simp)) _ _
    have D8:Hid (W6.heap[w.heap.size+1]?=some (.cells #[.int .i64 0,.int .i64 0,.string ⟨#[]⟩] 31 (0,0))):=by rw[z];exact(Below.heap_setCell _ _ _ _ A8).trans D2.o
    have I5:W6.heap.size=W5.heap.size:=by rw[z];simp[World.setCell]
    rw[←z];clear z E7 H4 t0 t1 t2 t3 t4 t5 t6 t7 t8 t9 tf B0 B5 B8 D2 E5;refine(zjj B ((w.heap.size+1)::X) _ W6 E8.o t c U O R S d B4.o G2.o 0).mono ?_;rintro e w2 ⟨rfl,E4,C2⟩;have i:Hid (JAt w2 B ((w.heap.size+1)::X) {j with role:=upd j.role Z 1,now:=t}):=E4;have p:=zaa (C5.o.trans (Y:=[B]) C2 C5.o.size (by simp));have K:=zaa ((C2.block _ (show w.heap.size+1<W6.heap.size by omega) (by simpa using A8)).trans D8.o);clear E4 C2 E8 C5 D8 B4;dsimp only[zm1,vRp,zat];obtain⟨⟨y0,y1,y2⟩,yf⟩:=zbl K.o;go_wp2;exact zbg HE.o K.o i.o p.o A8 B1 fun W u0 u1 u2=>by simp[results,results82,go_sem,u0,u1,u2]
  ·have HE:Hid (zg5 j ac=(j,zat (changeE j.now ac.h ac.b (fitT ac.text)))):=by rw[Hid,zg5,if_neg he]
   have I6:(changeE j.now ac.h ac.b (fitT ac.text) !=0)=true:=by simpa using he
   clear he ht;generalize changeE j.now ac.h ac.b (fitT ac.text)=E at *;go_wp2_with fail;have D3:=B7;have A7:Hid (ButL [B] w.heap.size w m):=ButL.of_below B9.o;have KR:=C3;have C1:w.heap.size+1<m.heap.size:=by omega
   refine(zau E _).mono ?_;rintro e w2 ⟨rfl,J⟩;have K:=zaa (zad J C1 KR.o);have i:=zaa (D3.o.below J);have p:=zaa (A7.o.trans (Y:=[]) (ButL.of_below J) A7.o.size (by simp));clear J;obtain⟨⟨y0,y1,y2⟩,yf⟩:=zbl K.o;go_wp2;exact zbg HE.o K.o i.o p.o A8 B1 fun W u0 u1 u2=>by simp[results,results82,go_sem,u0,u1,u2]
 have D4:=zaa D1;clear D1 B3;obtain⟨_,da,dc,db,dd,na,nc,nb,nd,ne,nf,sa,sc,sb,sd,se,sf,ca,cc,fa,fc,ta,tc,h1,hr⟩:=id i.o;have F7:F.cell? ⟨B,31,none⟩=some (.int .i64 j.now.seq):=zak h1 31;have F2:F.cell? ⟨B,32,none⟩=some (.slice na j.now.info.length nc):=zak h1 32;have D7:F.cell? ⟨B,33,none⟩=some (.slice nb j.now.data.length nd):=zak h1 33;have E3:F.cell? ⟨B,34,none⟩=some (.slice ne j.now.rev.length nf):=zak h1 34;have F3:F.cell? ⟨B,35,none⟩=some (.bool j.now.h0.on):=zak h1 35;have E9:F.cell? ⟨B,36,none⟩=some (.int .i64 j.now.h0.left):=zak h1 36;have F0:F.cell? ⟨B,37,none⟩=some (.bool j.now.h1.on):=zak h1 37;have G3:F.cell? ⟨B,38,none⟩=some (.int .i64 j.now.h1.left):=zak h1 38;have D9:F.cell? ⟨B,39,none⟩=some (.bool j.now.h2.on):=zak h1 39;have E2:F.cell? ⟨B,40,none⟩=some (.int .i64 j.now.h2.left):=zak h1 40;have H0:=zaa F7;have H3:=zaa F2;have G5:=zaa D7;have H6:=zaa E3;have H1:=zaa F3;have H5:=zaa E9;have G9:=zaa F0;have G6:=zaa G3;have G4:=zaa D9;have H2:=zaa E2;have F5:=zaa hr.2.1;have G7:=zaa hr.2.2.2.2.2.2.1;clear h1 hr F7 F2 D7 E3 F3 E9 F0 G3 D9 E2;obtain⟨⟨y0,y1,y2,y3,y4⟩,_⟩:=zhn C9.o;have A0:=zaa y0;have A1:=zaa y1;have A2:=zaa y2;have A3:=zaa y3;have A4:=zaa y4;clear y0 y1 y2 y3 y4;refine(show∀A0:Act,A0=_→Code.wp prog _ _ A0 _ from fun A0 hA0=>?_) _ rfl;have I:A0.tmps.size=45:=by rw[hA0];rfl
 have H7:A0.defers=[]:=by rw[hA0]
 have v0:A0.eval (.tmp 0)=.pointer (some ⟨B,0,none⟩):=by rw[hA0];rfl
 have v3:A0.eval (.tmp 3)=.pointer (some ⟨w.heap.size,0,none⟩):=by rw[hA0];rfl
 have v4:A0.eval (.tmp 4)=.pointer (some ⟨w.heap.size+1,0,none⟩):=by rw[hA0];rfl
 have v5:A0.eval (.tmp 5)=undef:=by rw[hA0];rfl
 clear hA0;refine zdb 17 5 (zmi F) [9,10,11,12,13,14,15,16,17,18,19,20,8,21,22,5,5] (zgi B w.heap.size j ac ((w.heap.size+1)::X) na nc nb nd ne nf) (by kernel_rfl) (by kernel_rfl) (by kernel_rfl) (by kernel_rfl) (by decide) (⟨(Below.refl _ _).drew,.inl v5⟩) ⟨?_,?_,?_,?_,?_,?_,?_,?_,?_,?_,?_,?_,?_,?_,?_,?_,?_,trivial⟩ ?_
 ·intro a w' C A D;have z0:=(C.other 0 rfl).trans v0;exact zby _ rfl rfl (by revert z0;generalize a.eval=ρ;intro z0;simp only[execOp];go_simp) C I A rfl
 ·intro a w' C A D;have p9:a.eval (.tmp 9)=.pointer (some ⟨B,0,none⟩):=D ⟨0,.data⟩ (by simp) rfl;exact zby _ rfl rfl (by revert p9;generalize a.eval=ρ;intro p9;simp only[execOp];go_simp) C I A rfl
 ·intro a w' C A D;have F8:a.eval (.tmp 10)=.pointer (some ⟨B,0,none⟩):=D ⟨1,.data⟩ (by simp) rfl;exact zby _ rfl rfl (by revert F8;generalize a.eval=ρ;intro F8;simp only[execOp];go_simp) C I A rfl
 ·intro a w' C A D;have D5:a.eval (.tmp 11)=.pointer (some ⟨B,31,none⟩):=D ⟨2,.data⟩ (by simp) rfl;have c0:w'.cell? ⟨B,31,none⟩=some (.int .i64 j.now.seq):=zac A.1 N H0.o;have c1:w'.cell? ⟨B,32,none⟩=some (.slice na j.now.info.length nc):=zac A.1 N H3.o;have c2:w'.cell? ⟨B,33,none⟩=some (.slice nb j.now.data.length nd):=zac A.1 N G5.o;have c3:w'.cell? ⟨B,34,none⟩=some (.slice ne j.now.rev.length nf):=zac A.1 N H6.o;have c4:w'.cell? ⟨B,35,none⟩=some (.bool j.now.h0.on):=zac A.1 N H1.o;have c5:w'.cell? ⟨B,36,none⟩=some (.int .i64 j.now.h0.left):=zac A.1 N H5.o;have c6:w'.cell? ⟨B,37,none⟩=some (.bool j.now.h1.on):=zac A.1 N G9.o;have c7:w'.cell? ⟨B,38,none⟩=some (.int .i64 j.now.h1.left):=zac A.1 N G6.o;have c8:w'.cell? ⟨B,39,none⟩=some (.bool j.now.h2.on):=zac A.1 N G4.o;have c9:w'.cell? ⟨B,40,none⟩=some (.int .i64 j.now.h2.left):=zac A.1 N H2.o;exact zby _ rfl rfl (by revert D5;generalize a.eval=ρ;intro D5;simp only[execOp];go_simp) C I A rfl
 ·intro a w' C A D;have z3:=(C.other 3 rfl).trans v3;exact zby _ rfl rfl (by revert z3;generalize a.eval=ρ;intro z3;simp only[execOp];go_simp) C I A rfl
 ·intro a w' C A D;have F9:a.eval (.tmp 13)=.pointer (some ⟨w.heap.size,1,none⟩):=D ⟨4,.data⟩ (by simp) rfl;have c0:w'.cell? ⟨w.heap.size,1,none⟩=some (.int .i64 ac.h):=zac A.1 B2 A1.o;exact zby _ rfl rfl (by revert F9;generalize a.eval=ρ;intro F9;simp only[execOp];go_simp) C I A rfl
 ·intro a w' C A D;have z3:=(C.other 3 rfl).trans v3;exact zby _ rfl rfl (by revert z3;generalize a.eval=ρ;intro z3;simp only[execOp];go_simp) C I A rfl
 ·intro a w' C A D;have F6:a.eval (.tmp 15)=.pointer (some ⟨w.heap.size,2,none⟩):=D ⟨6,.data⟩ (by simp) rfl;have c0:w'.cell? ⟨w.heap.size,2,none⟩=some (.int .i64 ac.b):=zac A.1 B2 A2.o;exact zby _ rfl rfl (by revert F6;generalize a.eval=ρ;intro F6;simp only[execOp];go_simp) C I A rfl
 ·intro a w' C A D;have z3:=(C.other 3 rfl).trans v3;exact zby _ rfl rfl (by revert z3;generalize a.eval=ρ;intro z3;simp only[execOp];go_simp) C I A rfl
 ·intro a w' C A D;have E1:a.eval (.tmp 17)=.pointer (some ⟨w.heap.size,4,none⟩):=D ⟨8,.data⟩ (by simp) rfl;have c0:w'.cell? ⟨w.heap.size,4,none⟩=some (.string ac.text):=zac A.1 B2 A4.o;exact zby _ rfl rfl (by revert E1;generalize a.eval=ρ;intro E1;simp only[execOp];go_simp) C I A rfl
 ·intro a w' C A D;have F4:a.eval (.tmp 18)=.string ac.text:=D ⟨9,.data⟩ (by simp) rfl;refine zbo 25 #[.string ac.text] rfl rfl (by have pf:=Act.eval_func a 25;revert F4 pf;generalize a.eval=ρ;intro F4 pf;simp only[execOp];go_simp) _ (zf9 ac.text _ hsz2) ?_;rintro e w2 ⟨rfl,J⟩;refine⟨_,rfl,_,rfl,?_,?_,?_⟩
  ·show zmi F ((a.put (some 19) _).eval (.tmp 5)) w2;rw[Act.eval_put_ne _ _ _ _ (by decide)];exact zfy A J
  ·show zgi _ _ _ _ _ _ _ _ _ _ _ _ ((a.put (some 19) _).eval (.tmp 19)) ((a.put (some 19) _).eval (.tmp 5)) w2;rw[zaq C I (by decide),Act.eval_put_ne _ _ _ _ (by decide)];exact rfl
  ·intro Q x hk h;show zgi _ _ _ _ _ _ _ _ _ _ _ Q x ((a.put (some 19) _).eval (.tmp 5)) w2;rw[Act.eval_put_ne _ _ _ _ (by decide)];exact zmm J Q x h
 ·intro a w' C A D;have G0:a.eval (.tmp 12)=.agg #[.int .i64 j.now.seq,.slice na j.now.info.length nc,.slice nb j.now.data.length nd,.slice ne j.now.rev.length nf,.bool j.now.h0.on,.int .i64 j.now.h0.left,.bool j.now.h1.on,.int .i64 j.now.h1.left,.bool j.now.h2.on,.int .i64 j.now.h2.left]:=D ⟨3,.data⟩ (by simp) rfl;have E6:a.eval (.tmp 14)=.int .i64 ac.h:=D ⟨5,.data⟩ (by simp) rfl;have G1:a.eval (.tmp 16)=.int .i64 ac.b:=D ⟨7,.data⟩ (by simp) rfl;have F1:a.eval (.tmp 19)=.string (fitT ac.text):=D ⟨10,.data⟩ (by simp) rfl;refine zbo 121 #[.agg #[.int .i64 j.now.seq,.slice na j.now.info.length nc,.slice nb j.now.data.length nd,.slice ne j.now.rev.length nf,.bool j.now.h0.on,.int .i64 j.now.h0.left,.bool j.now.h1.on,.int .i64 j.now.h1.left,.bool j.now.h2.on,.int .i64 j.now.h2.left],.int .i64 ac.h,.int .i64 ac.b,.string (fitT ac.text)] rfl rfl (by have pf:=Act.eval_func a 121;revert G0 E6 G1 F1 pf;generalize a.eval=ρ;intro G0 E6 G1 F1 pf;simp only[execOp];go_simp) _ (zro _ j.now ac.h ac.b (fitT ac.text) _ ((F5.o.ext (Ext.seenL F _)).below A.1) r1 r2) ?_;rintro e w2 ⟨M,rfl,C8,J,G8⟩;refine⟨_,rfl,_,rfl,?_,?_,?_⟩
  ·show zmi F ((a.put (some 20) _).eval (.tmp 5)) w2;rw[Act.eval_put_ne _ _ _ _ (by decide)];exact zfy A J
  ·show zgi _ _ _ _ _ _ _ _ _ _ _ _ ((a.put (some 20) _).eval (.tmp 20)) ((a.put (some 20) _).eval (.tmp 5)) w2;rw[zaq C I (by decide),Act.eval_put_ne _ _ _ _ (by decide)];exact⟨M,rfl,okTx.made I1.o F5.o G7.o A C8 J G8⟩
  ·intro Q x hk h;show zgi _ _ _ _ _ _ _ _ _ _ _ Q x ((a.put (some 20) _).eval (.tmp 5)) w2;rw[Act.eval_put_ne _ _ _ _ (by decide)];exact zmm J Q x h
 ·intro a w' C A D;obtain⟨M,pc,ok⟩:∃M,a.eval (.tmp 20)=.tuple #[M,.int .i64 (changeE j.now ac.h ac.b (fitT ac.text))]∧okTx ((w.heap.size+1)::X) (zaf j.now ac.h ac.b (fitT ac.text)) M (a.eval (.tmp 5)) w':=D ⟨11,.data⟩ (by simp) rfl;refine zay (.tuple #[M,.int .i64 (changeE j.now ac.h ac.b (fitT ac.text))]) rfl rfl (by revert pc;generalize a.eval=ρ;intro pc;simp only[execOp];go_simp) ⟨_,rfl,?_,?_,?_⟩
  ·show zmi F ((a.put (some 8) _).eval (.tmp 5)) w';rw[Act.eval_put_ne _ _ _ _ (by decide)];exact A
  ·show zgi _ _ _ _ _ _ _ _ _ _ _ _ ((a.put (some 8) _).eval (.tmp 8)) ((a.put (some 8) _).eval (.tmp 5)) w';rw[zaq C I (by decide),Act.eval_put_ne _ _ _ _ (by decide)];exact⟨M,rfl,ok⟩
  ·intro Q x hk h;show zgi _ _ _ _ _ _ _ _ _ _ _ Q x ((a.put (some 8) _).eval (.tmp 5)) w';rw[Act.eval_put_ne _ _ _ _ (by decide)];exact h
 ·intro a w' C A D;obtain⟨M,pm,ok⟩:∃M,a.eval (.tmp 8)=.tuple #[M,.int .i64 (changeE j.now ac.h ac.b (fitT ac.text))]∧okTx ((w.heap.size+1)::X) (zaf j.now ac.h ac.b (fitT ac.text)) M (a.eval (.tmp 5)) w':=D ⟨12,.data⟩ (by simp) rfl;refine zay (M) rfl rfl (by revert pm;generalize a.eval=ρ;intro pm;simp only[execOp];go_simp) ⟨_,rfl,?_,?_,?_⟩
  ·show zmi F ((a.put (some 21) _).eval (.tmp 5)) w';rw[Act.eval_put_ne _ _ _ _ (by decide)];exact A
  ·show zgi _ _ _ _ _ _ _ _ _ _ _ _ ((a.put (some 21) _).eval (.tmp 21)) ((a.put (some 21) _).eval (.tmp 5)) w';rw[zaq C I (by decide),Act.eval_put_ne _ _ _ _ (by decide)];exact ok
  ·intro Q x hk h;show zgi _ _ _ _ _ _ _ _ _ _ _ Q x ((a.put (some 21) _).eval (.tmp 5)) w';rw[Act.eval_put_ne _ _ _ _ (by decide)];exact h
 ·intro a w' C A D;obtain⟨M,pm,ok⟩:∃M,a.eval (.tmp 8)=.tuple #[M,.int .i64 (changeE j.now ac.h ac.b (fitT ac.text))]∧okTx ((w.heap.size+1)::X) (zaf j.now ac.h ac.b (fitT ac.text)) M (a.eval (.tmp 5)) w':=D ⟨12,.data⟩ (by simp) rfl;exact zby _ rfl rfl (by revert pm;generalize a.eval=ρ;intro pm;simp only[execOp];go_simp) C I A rfl
 ·intro a w' C A D;refine zfk (.pointer (some ⟨w'.heap.size,0,none⟩)) rfl rfl (w':=w'.alloc (.cells #[.int .i64 0,.slice none 0 0,.slice none 0 0,.slice none 0 0,.bool false,.int .i64 0,.bool false,.int .i64 0,.bool false,.int .i64 0] 40)) (by simp only[execOp];go_simp) ⟨_,rfl,?_,?_,?_⟩
  ·show zmi F ((a.put (some 5) _).eval (.tmp 5)) _;rw[zaq C I (by decide)];exact⟨A.1.alloc A.1.size _,.inr ⟨_,rfl,A.1.size,by simp,_,_,_,_,_,_,_,_,_,_,heap_alloc_new _ _⟩⟩
  ·show zgi _ _ _ _ _ _ _ _ _ _ _ _ ((a.put (some 5) _).eval (.tmp 5)) ((a.put (some 5) _).eval (.tmp 5)) _;rw[zaq C I (by decide)];exact⟨_,rfl⟩
  ·intro Q x hk h;show zgi _ _ _ _ _ _ _ _ _ _ _ Q x ((a.put (some 5) _).eval (.tmp 5)) _;rw[zaq C I (by decide)];exact zt9 _ Q x h
 ·intro a w' C A D;obtain⟨T,L⟩:∃T,a.eval (.tmp 5)=.pointer (some ⟨T,0,none⟩):=D ⟨15,.data⟩ (by simp) rfl;have ok:okTx ((w.heap.size+1)::X) (zaf j.now ac.h ac.b (fitT ac.text)) (a.eval (.tmp 21)) (a.eval (.tmp 5)) w':=D ⟨13,.data⟩ (by simp) rfl
  obtain⟨A6,C8,c0,c1,c2,c3,c4,c5,c6,c7,c8,c9,l⟩:F.heap.size≤T∧T<w'.heap.size∧∃c0 c1 c2 c3 c4 c5 c6 c7 c8 c9,w'.heap[T]?=some (.cells #[c0,c1,c2,c3,c4,c5,c6,c7,c8,c9] 40 (0,0)):=by
   rcases A.2 with h0|⟨T',e,h3,h4,h5⟩
   ·rw[h0]at L;cases L
   ·rw[e]at L;cases L;exact⟨h3,h4,h5⟩
  have q:=ok.2.2 T L;have s:=ok.2.1;obtain⟨c,U,O,R,S,d,hv,_⟩:=id q;rw[hv]at q s;obtain⟨⟨t0,t1,t2,t3,t4,t5,t6,t7,t8,t9⟩,tf⟩:=zaj l;refine zce rfl rfl (w':=((((((((((w'.setCell ⟨T,0,none⟩ (.int .i64 (zaf j.now ac.h ac.b (fitT ac.text)).seq)).setCell ⟨T,1,none⟩ (.slice c (zaf j.now ac.h ac.b (fitT ac.text)).info.length U)).setCell ⟨T,2,none⟩ (.slice O (zaf j.now ac.h ac.b (fitT ac.text)).data.length R)).setCell ⟨T,3,none⟩ (.slice S (zaf j.now ac.h ac.b (fitT ac.text)).rev.length d)).setCell ⟨T,4,none⟩ (.bool (zaf j.now ac.h ac.b (fitT ac.text)).h0.on)).setCell ⟨T,5,none⟩ (.int .i64 (zaf j.now ac.h ac.b (fitT ac.text)).h0.left)).setCell ⟨T,6,none⟩ (.bool (zaf j.now ac.h ac.b (fitT ac.text)).h1.on)).setCell ⟨T,7,none⟩ (.int .i64 (zaf j.now ac.h ac.b (fitT ac.text)).h1.left)).setCell ⟨T,8,none⟩ (.bool (zaf j.now ac.h ac.b (fitT ac.text)).h2.on)).setCell ⟨T,9,none⟩ (.int .i64 (zaf j.now ac.h ac.b (fitT ac.text)).h2.left))) (by revert L hv;generalize a.eval=ρ;intro L hv;simp only[execOp];go_simp) ⟨_,rfl,?_,?_,?_⟩
  ·show zmi F (a.eval (.tmp 5)) _;exact⟨Below.set10 A.1 A6 _ _ _ _ _ _ _ _ _ _,.inr ⟨T,L,A6,by simpa[World.setCell] using C8,_,_,_,_,_,_,_,_,_,_,zh3 l _ _ _ _ _ _ _ _ _ _⟩⟩
  ·show zgi _ _ _ _ _ _ _ _ _ _ _ _ (a.eval (.tmp 5)) (a.eval (.tmp 5)) _;exact⟨T,c,U,O,R,S,d,L,zh3 l _ _ _ _ _ _ _ _ _ _,q.ext (zph (by simp) w' _ _ _ _ _ _ _ _ _ _),s⟩
  ·intro Q x hk h;show zgi _ _ _ _ _ _ _ _ _ _ _ Q x (a.eval (.tmp 5)) _;rw[L]at h⊢;exact zua (fun t x h=>h.store _ _ _ _ _ _ _ _ _ _) Q x hk h
 ·intro a W C A D;obtain⟨T,c,U,O,R,S,d,L,l,q,s⟩:∃T c U O R S d,a.eval (.tmp 5)=.pointer (some ⟨T,0,none⟩)∧W.heap[T]?=some (.cells #[.int .i64 (zaf j.now ac.h ac.b (fitT ac.text)).seq,.slice c (zaf j.now ac.h ac.b (fitT ac.text)).info.length U,.slice O (zaf j.now ac.h ac.b (fitT ac.text)).data.length R,.slice S (zaf j.now ac.h ac.b (fitT ac.text)).rev.length d,.bool (zaf j.now ac.h ac.b (fitT ac.text)).h0.on,.int .i64 (zaf j.now ac.h ac.b (fitT ac.text)).h0.left,.bool (zaf j.now ac.h ac.b (fitT ac.text)).h1.on,.int .i64 (zaf j.now ac.h ac.b (fitT ac.text)).h1.left,.bool (zaf j.now ac.h ac.b (fitT ac.text)).h2.on,.int .i64 (zaf j.now ac.h ac.b (fitT ac.text)).h2.left] 40 (0,0))∧IsTx (zas W (T::(w.heap.size+1)::X)) (.agg #[.int .i64 (zaf j.now ac.h ac.b (fitT ac.text)).seq,.slice c (zaf j.now ac.h ac.b (fitT ac.text)).info.length U,.slice O (zaf j.now ac.h ac.b (fitT ac.text)).data.length R,.slice S (zaf j.now ac.h ac.b (fitT ac.text)).rev.length d,.bool (zaf j.now ac.h ac.b (fitT ac.text)).h0.on,.int .i64 (zaf j.now ac.h ac.b (fitT ac.text)).h0.left,.bool (zaf j.now ac.h ac.b (fitT ac.text)).h1.on,.int .i64 (zaf j.now ac.h ac.b (fitT ac.text)).h1.left,.bool (zaf j.now ac.h ac.b (fitT ac.text)).h2.on,.int .i64 (zaf j.now ac.h ac.b (fitT ac.text)).h2.left]) (zaf j.now ac.h ac.b (fitT ac.text))∧RoomTx (.agg #[.int .i64 (zaf j.now ac.h ac.b (fitT ac.text)).seq,.slice c (zaf j.now ac.h ac.b (fitT ac.text)).info.length U,.slice O (zaf j.now ac.h ac.b (fitT ac.text)).data.length R,.slice S (zaf j.now ac.h ac.b (fitT ac.text)).rev.length d,.bool (zaf j.now ac.h ac.b (fitT ac.text)).h0.on,.int .i64 (zaf j.now ac.h ac.b (fitT ac.text)).h0.left,.bool (zaf j.now ac.h ac.b (fitT ac.text)).h1.on,.int .i64 (zaf j.now ac.h ac.b (fitT ac.text)).h1.left,.bool (zaf j.now ac.h ac.b (fitT ac.text)).h2.on,.int .i64 (zaf j.now ac.h ac.b (fitT ac.text)).h2.left]):=D 16 (by decide);have pE:a.eval (.tmp 22)=.int .i64 (changeE j.now ac.h ac.b (fitT ac.text)):=D 14 (by decide)
  have A6:F.heap.size≤T:=by
   rcases A.2 with h0|⟨T',e,h3,h4,h5⟩
   ·rw[h0]at L;cases L
   ·rw[e]at L;cases L;exact h3
  show wpOps prog _ _ [17] a W;rw[wpOps_cons];refine zay (.int .i64 (changeE j.now ac.h ac.b (fitT ac.text))) rfl rfl (by revert pE;generalize a.eval=ρ;intro pE;simp only[execOp];go_simp) ?_;have E0:a.tmps.size=45:=C.size.trans I;obtain⟨a2,r⟩:∃a2,a2=a.put (some 6) (.int .i64 (changeE j.now ac.h ac.b (fitT ac.text))):=⟨_,rfl⟩;have f6:a2.eval (.tmp 6)=.int .i64 (changeE j.now ac.h ac.b (fitT ac.text)):=by rw[r];exact Act.eval_put_same _ _ _ (by rw[E0];decide)
  have f0:a2.eval (.tmp 0)=.pointer (some ⟨B,0,none⟩):=by rw[r,Act.eval_put_ne _ _ _ _ (by decide)];exact(C.other 0 rfl).trans v0
  have f3:a2.eval (.tmp 3)=.pointer (some ⟨w.heap.size,0,none⟩):=by rw[r,Act.eval_put_ne _ _ _ _ (by decide)];exact(C.other 3 rfl).trans v3
  have f4:a2.eval (.tmp 4)=.pointer (some ⟨w.heap.size+1,0,none⟩):=by rw[r,Act.eval_put_ne _ _ _ _ (by decide)];exact(C.other 4 rfl).trans v4
  have f5:a2.eval (.tmp 5)=.pointer (some ⟨T,0,none⟩):=by rw[r,Act.eval_put_ne _ _ _ _ (by decide)];exact L
  have A9:a2=⟨#[_,_,_,_,_,_,_,_,_,_,_,_,_,_,_,_,_,_,_,_,_,_,_,_,_,_,_,_,_,_,_,_,_,_,_,_,_,_,_,_,_,_,_,_,_],[]⟩:=zb9 a2 45 (by rw[r,Act.size_put];exact E0) (by rw[r,Act.defers_put'];exact C.defers.trans H7);dsimp only at A9;rw[f0,f3,f4,f5,f6]at A9;show KK (a.put (some 6) (.int .i64 (changeE j.now ac.h ac.b (fitT ac.text)))) _;rw[←r];exact(congrArg (fun x=>KK x _) A9).mpr (D4.o (fun k=>a2.eval (.tmp k)) _ T c U O R S d q s l A6 A.1)
theorem JAt.last{w:World}{B:Nat}{X:List Nat}{j:Jn}(h:JAt w B X j):w.cell? ⟨B,5,none⟩=some (.int .i64 j.last)∧w.frozen? ⟨B,5,none⟩=false:=by
 obtain⟨_,da,dc,db,dd,na,nc,nb,nd,ne,nf,sa,sc,sb,sd,se,sf,ca,cc,fa,fc,ta,tc,A,_⟩:=h;exact⟨(zak A 5).trans rfl,frozen_of_row w _ _ _ _ A⟩
def zgj (B:Nat)(D:Nat)(j:Jn)(ac:Ac)(X:List Nat)(na:Option Addr)(nc:Nat)(nb:Option Addr)(nd:Nat)(ne:Option Addr)(nf:Nat):Nat→Value→Value→World→Prop
 |0,v,_,_=>v=.pointer (some ⟨B,0,none⟩)
 |1,v,_,_=>v=.pointer (some ⟨B,0,none⟩)
 |2,v,_,_=>v=.pointer (some ⟨B,31,none⟩)
 |3,v,_,_=>v=.agg #[.int .i64 j.now.seq,.slice na j.now.info.length nc,.slice nb j.now.data.length nd,.slice ne j.now.rev.length nf,.bool j.now.h0.on,.int .i64 j.now.h0.left,.bool j.now.h1.on,.int .i64 j.now.h1.left,.bool j.now.h2.on,.int .i64 j.now.h2.left]
 |4,v,_,_=>v=.pointer (some ⟨D,1,none⟩)
 |5,v,_,_=>v=.int .i64 ac.h
 |6,v,_,_=>v=.pointer (some ⟨D,2,none⟩)
 |7,v,_,_=>v=.int .i64 ac.b
 |8,v,_,_=>v=.pointer (some ⟨D,4,none⟩)
 |9,v,_,_=>v=.string ac.text
 |10,v,_,_=>v=.string (fitT ac.text)
 |11,v,u,w=>∃v2,v=.tuple #[v2,.int .i64 (fillE j.now ac.h ac.b (fitT ac.text))]∧okTx X (zan j.now ac.h ac.b (fitT ac.text)) v2 u w
 |12,v,u,w=>∃v2,v=.tuple #[v2,.int .i64 (fillE j.now ac.h ac.b (fitT ac.text))]∧okTx X (zan j.now ac.h ac.b (fitT ac.text)) v2 u w
 |13,v,u,w=>okTx X (zan j.now ac.h ac.b (fitT ac.text)) v u w
 |14,v,_,_=>v=.int .i64 (fillE j.now ac.h ac.b (fitT ac.text))
 |15,v,_,_=>∃T,v=.pointer (some ⟨T,0,none⟩)
 |16,v,_,w=>∃T ua uc ub ud ue uf,v=.pointer (some ⟨T,0,none⟩)∧w.heap[T]?=some (.cells #[.int .i64 (zan j.now ac.h ac.b (fitT ac.text)).seq,.slice ua (zan j.now ac.h ac.b (fitT ac.text)).info.length uc,.slice ub (zan j.now ac.h ac.b (fitT ac.text)).data.length ud,.slice ue (zan j.now ac.h ac.b (fitT ac.text)).rev.length uf,.bool (zan j.now ac.h ac.b (fitT ac.text)).h0.on,.int .i64 (zan j.now ac.h ac.b (fitT ac.text)).h0.left,.bool (zan j.now ac.h ac.b (fitT ac.text)).h1.on,.int .i64 (zan j.now ac.h ac.b (fitT ac.text)).h1.left,.bool (zan j.now ac.h ac.b (fitT ac.text)).h2.on,.int .i64 (zan j.now ac.h ac.b (fitT ac.text)).h2.left] 40 (0,0))∧IsTx (zas w (T::X)) (.agg #[.int .i64 (zan j.now ac.h ac.b (fitT ac.text)).seq,.slice ua (zan j.now ac.h ac.b (fitT ac.text)).info.length uc,.slice ub (zan j.now ac.h ac.b (fitT ac.text)).data.length ud,.slice ue (zan j.now ac.h ac.b (fitT ac.text)).rev.length uf,.bool (zan j.now ac.h ac.b (fitT ac.text)).h0.on,.int .i64 (zan j.now ac.h ac.b (fitT ac.text)).h0.left,.bool (zan j.now ac.h ac.b (fitT ac.text)).h1.on,.int .i64 (zan j.now ac.h ac.b (fitT ac.text)).h1.left,.bool (zan j.now ac.h ac.b (fitT ac.text)).h2.on,.int .i64 (zan j.now ac.h ac.b (fitT ac.text)).h2.left]) (zan j.now ac.h ac.b (fitT ac.text))∧RoomTx (.agg #[.int .i64 (zan j.now ac.h ac.b (fitT ac.text)).seq,.slice ua (zan j.now ac.h ac.b (fitT ac.text)).info.length uc,.slice ub (zan j.now ac.h ac.b (fitT ac.text)).data.length ud,.slice ue (zan j.now ac.h ac.b (fitT ac.text)).rev.length uf,.bool (zan j.now ac.h ac.b (fitT ac.text)).h0.on,.int .i64 (zan j.now ac.h ac.b (fitT ac.text)).h0.left,.bool (zan j.now ac.h ac.b (fitT ac.text)).h1.on,.int .i64 (zan j.now ac.h ac.b (fitT ac.text)).h1.left,.bool (zan j.now ac.h ac.b (fitT ac.text)).h2.on,.int .i64 (zan j.now ac.h ac.b (fitT ac.text)).h2.left])
 |_,_,_,_=>True
theorem zmn{B:Nat}{D:Nat}{j:Jn}{ac:Ac}{X:List Nat}{na:Option Addr}{nc:Nat}{nb:Option Addr}{nd:Nat}{ne:Option Addr}{nf:Nat}{u:Value}{w w':World}(hb:Below w.heap.size w w'):∀kk x,zgj B D j ac X na nc nb nd ne nf kk x u w→zgj B D j ac X na nc nb nd ne nf kk x u w':=by
 intro kk x h
 match kk,h with
 |0,h|1,h|2,h|3,h|4,h|5,h|6,h|7,h|8,h|9,h|10,h=>exact h
 |11,⟨v2,h1,h2⟩=>exact⟨v2,h1,h2.below hb⟩
 |12,⟨v2,h1,h2⟩=>exact⟨v2,h1,h2.below hb⟩
 |13,h=>exact h.below hb
 |14,h|15,h=>exact h
 |16,⟨T,ua,uc,ub,ud,ue,uf,h1,h2,h3,h4⟩=>exact⟨T,ua,uc,ub,ud,ue,uf,h1,zad hb (Array.getElem?_eq_some_iff.1 h2).1 h2,h3.ext (Ext.freshL hb),h4⟩
 |_+17,_=>exact trivial
theorem zub{B:Nat}{D:Nat}{j:Jn}{ac:Ac}{X:List Nat}{na:Option Addr}{nc:Nat}{nb:Option Addr}{nd:Nat}{ne:Option Addr}{nf:Nat}{u:Value}{w:World}(o:Obj):∀kk x,zgj B D j ac X na nc nb nd ne nf kk x u w→zgj B D j ac X na nc nb nd ne nf kk x (.pointer (some ⟨w.heap.size,0,none⟩)) (w.alloc o):=by
 intro kk x h
 match kk,h with
 |0,h|1,h|2,h|3,h|4,h|5,h|6,h|7,h|8,h|9,h|10,h=>exact h
 |11,⟨v2,h1,h2⟩=>exact⟨v2,h1,h2.alloc o⟩
 |12,⟨v2,h1,h2⟩=>exact⟨v2,h1,h2.alloc o⟩
 |13,h=>exact h.alloc o
 |14,h|15,h=>exact h
 |16,⟨T,ua,uc,ub,ud,ue,uf,h1,h2,h3,h4⟩=>exact⟨T,ua,uc,ub,ud,ue,uf,h1,zad (zab _ _) (Array.getElem?_eq_some_iff.1 h2).1 h2,h3.ext (Ext.freshL (zab _ _)),h4⟩
 |_+17,_=>exact trivial
theorem zuc{B:Nat}{D:Nat}{j:Jn}{ac:Ac}{X:List Nat}{na:Option Addr}{nc:Nat}{nb:Option Addr}{nd:Nat}{ne:Option Addr}{nf:Nat}{u:Value}{w w':World}(hs:∀t x,okTx X t x u w→okTx X t x u w'):∀kk x,kk≠16→zgj B D j ac X na nc nb nd ne nf kk x u w→zgj B D j ac X na nc nb nd ne nf kk x u w':=by
 intro kk x A h
 match kk,h with
 |0,h|1,h|2,h|3,h|4,h|5,h|6,h|7,h|8,h|9,h|10,h=>exact h
 |11,⟨y,h1,h2⟩=>exact⟨y,h1,hs _ _ h2⟩
 |12,⟨y,h1,h2⟩=>exact⟨y,h1,hs _ _ h2⟩
 |13,h=>exact hs _ _ h
 |14,h|15,h=>exact h
 |16,_=>exact absurd rfl A
 |_+17,_=>exact trivial
theorem z0v(B:Nat)(X:List Nat)(j:Jn)(w:World)(h:JAt w B X j)(hX:∀x∈X,x<w.heap.size)(ac:Ac)(hsz2:ac.text.size≤maxLen)(r1:j.now.info.length*24≤140737488355328)(r2:j.now.data.length*24≤140737488355328):
  Calls prog 83 #[.pointer (some ⟨B,0,none⟩),.agg #[.int .i64 ac.kind,.int .i64 ac.h,.int .i64 ac.b,.int .i64 ac.n,.string ac.text]] w (zdg w B X (zjx j ac)):=by
 have HJ:=zaa h;have K2:=h.lt;have B3:=h.1;have HX:=zaa hX;clear h hX;go_enter func83,ntmps83;go_wp2;rename_i KK C2;obtain⟨F,A7⟩:∃F,F=(w.alloc (.cells #[.int .i64 ac.kind,.int .i64 ac.h,.int .i64 ac.b,.int .i64 ac.n,.string ac.text] 23)).alloc (.cells #[.int .i64 0,.int .i64 0,.string ⟨#[]⟩] 31):=⟨_,rfl⟩;have E4:(w.alloc (.cells #[.int .i64 ac.kind,.int .i64 ac.h,.int .i64 ac.b,.int .i64 ac.n,.string ac.text] 23)).heap.size=w.heap.size+1:=by simp
 have N:Hid (JAt F B ((w.heap.size+1)::X) j):=by rw[A7];exact(HJ.o.below (zab _ _)).more (zab _ _) (by omega)
 have c:Hid (Below w.heap.size w F):=by rw[A7];exact zae (zab _ _) (zab _ _)
 have L:Hid (F.heap[w.heap.size+1]?=some (.cells #[.int .i64 0,.int .i64 0,.string ⟨#[]⟩] 31 (0,0))):=by rw[A7,←E4];exact heap_alloc_new _ _
 have E0:Hid (F.heap[w.heap.size]?=some (.cells #[.int .i64 ac.kind,.int .i64 ac.h,.int .i64 ac.b,.int .i64 ac.n,.string ac.text] 23 (0,0))):=by rw[A7];exact zad (zab _ _) (by omega) (heap_alloc_new _ _)
 have K5:F.heap.size=w.heap.size+2:=by rw[A7];simp
 have J5:Hid (∀x∈((w.heap.size+1)::X),x<F.heap.size):=fun x hx=>by
  rcases List.mem_cons.1 hx with rfl|hx
  ·omega
  ·have:=HX.o x hx;omega
 rw[←A7];clear A7 E4;have Z:B<F.heap.size:=by omega
 have C0:w.heap.size<F.heap.size:=by omega
 have E1:∀(g:Nat→Value) (u:World) (T:Nat) (q:Option Addr) (p:Nat) (d:Option Addr) (l:Nat) (m:Option Addr) (r:Nat),IsTx (zas u (T::((w.heap.size+1)::X))) (.agg #[.int .i64 (zan j.now ac.h ac.b (fitT ac.text)).seq,.slice q (zan j.now ac.h ac.b (fitT ac.text)).info.length p,.slice d (zan j.now ac.h ac.b (fitT ac.text)).data.length l,.slice m (zan j.now ac.h ac.b (fitT ac.text)).rev.length r,.bool (zan j.now ac.h ac.b (fitT ac.text)).h0.on,.int .i64 (zan j.now ac.h ac.b (fitT ac.text)).h0.left,.bool (zan j.now ac.h ac.b (fitT ac.text)).h1.on,.int .i64 (zan j.now ac.h ac.b (fitT ac.text)).h1.left,.bool (zan j.now ac.h ac.b (fitT ac.text)).h2.on,.int .i64 (zan j.now ac.h ac.b (fitT ac.text)).h2.left]) (zan j.now ac.h ac.b (fitT ac.text))→RoomTx (.agg #[.int .i64 (zan j.now ac.h ac.b (fitT ac.text)).seq,.slice q (zan j.now ac.h ac.b (fitT ac.text)).info.length p,.slice d (zan j.now ac.h ac.b (fitT ac.text)).data.length l,.slice m (zan j.now ac.h ac.b (fitT ac.text)).rev.length r,.bool (zan j.now ac.h ac.b (fitT ac.text)).h0.on,.int .i64 (zan j.now ac.h ac.b (fitT ac.text)).h0.left,.bool (zan j.now ac.h ac.b (fitT ac.text)).h1.on,.int .i64 (zan j.now ac.h ac.b (fitT ac.text)).h1.left,.bool (zan j.now ac.h ac.b (fitT ac.text)).h2.on,.int .i64 (zan j.now ac.h ac.b (fitT ac.text)).h2.left])→u.heap[T]?=some (.cells #[.int .i64 (zan j.now ac.h ac.b (fitT ac.text)).seq,.slice q (zan j.now ac.h ac.b (fitT ac.text)).info.length p,.slice d (zan j.now ac.h ac.b (fitT ac.text)).data.length l,.slice m (zan j.now ac.h ac.b (fitT ac.text)).rev.length r,.bool (zan j.now ac.h ac.b (fitT ac.text)).h0.on,.int .i64 (zan j.now ac.h ac.b (fitT ac.text)).h0.left,.bool (zan j.now ac.h ac.b (fitT ac.text)).h1.on,.int .i64 (zan j.now ac.h ac.b (fitT ac.text)).h1.left,.bool (zan j.now ac.h ac.b (fitT ac.text)).h2.on,.int .i64 (zan j.now ac.h ac.b (fitT ac.text)).h2.left] 40 (0,0))→F.heap.size≤T→Below F.heap.size F u→KK ⟨#[.pointer (some ⟨B,0,none⟩),g 1,g 2,.pointer (some ⟨w.heap.size,0,none⟩),.pointer (some ⟨w.heap.size+1,0,none⟩),.pointer (some ⟨T,0,none⟩),.int .i64 (fillE j.now ac.h ac.b (fitT ac.text)),g 7,g 8,g 9,g 10,g 11,g 12,g 13,g 14,g 15,g 16,g 17,g 18,g 19,g 20,g 21,g 22,g 23,g 24,g 25,g 26,g 27,g 28,g 29,g 30,g 31,g 32,g 33,g 34,g 35,g 36,g 37,g 38,g 39,g 40,g 41,g 42,g 43,g 44,g 45,g 46,g 47,g 48,g 49,g 50,g 51,g 52,g 53,g 54,g 55,g 56],[]⟩ u:=by
  intro g u T q p d l m r z A6 s B2 B1;apply C2;clear C2;have D8:=zaa (z.ext (Ext.lessL T));have H2:=zaa A6;have KT:=zaa s;have C6:=zaa (N.o.below B1);have C8:=zaa (zae c.o B1);have D2:=zaa (zad B1 (show w.heap.size+1<F.heap.size by omega) L.o);have C9:=zaa (zad B1 C0 E0.o);have K3:F.heap.size≤u.heap.size:=B1.size;have J2:T<u.heap.size:=(Array.getElem?_eq_some_iff.1 s).1;clear z A6 s B1 N c L E0;obtain⟨t,ht⟩:∃t,t=zan j.now ac.h ac.b (fitT ac.text):=⟨_,rfl⟩;rw[←ht]at D8 H2 KT;have B0:w.heap.size+1≠B:=by omega
  by_cases he:fillE j.now ac.h ac.b (fitT ac.text)=0
  ·obtain⟨J1,J4⟩:=zxk he;obtain⟨M,D3⟩:∃M:Nat,ac.b=(M:Int):=⟨ac.b.toNat,by omega⟩;have B7:M<12:=by omega
   have HW:Hid (zjx j ac=if j.role M=1 then(j,zat 8) else if j.last<j.freed M then(j,zat 9) else({j with role:=upd j.role M 2,now:=t},zat 0)):=by
    rw[Hid,zjx,if_pos he,←ht,D3,Int.toNat_natCast]
   rw[he];rw[D3]at C9;clear he ht D3 J1 J4;obtain⟨⟨y0,y1,y2,y3,y4⟩,yf⟩:=zhn C9.o;have J6:(0:Int)≤(M:Int):=by omega
   have J7:(M:Int)<12:=by omega
   go_wp2
   go_quiet (fail)
   obtain⟨O,C5⟩:∃O,O=u.drewN nq:=⟨_,rfl⟩;have I:Below u.heap.size u O:=by rw[C5];exact below_drewN (Below.refl _ _) _
   have A8:=zaa (C6.o.below I);have A9:Hid (ButL [B] w.heap.size w O):=ButL.of_below (zae C8.o I);have C1:=zaa (zad I (show w.heap.size+1<u.heap.size by omega) D2.o);have F3:=zaa (zad I J2 KT.o);have C4:=zaa (D8.o.ext (Ext.freshL I));have K4:u.heap.size≤O.heap.size:=I.size;rw[←C5];clear C5 I y0 y1 y2 y3 y4 yf C6 C8 D2 KT D8 C9;obtain⟨B9,H7,D4,I7⟩:=A8.o.role M B7;by_cases hro:j.role M=1
   ·have HE:Hid (zjx j ac=(j,zat 8)):=by rw[Hid,HW.o,if_pos hro]
    rw[hro]at B9;clear hro HW;go_wp2_with fail;have B5:=A8;have y:=A9;have KR:=C1;have B4:w.heap.size+1<O.heap.size:=by omega
    refine(zau 8 _).mono ?_;rintro e w2 ⟨rfl,J⟩;have L:=zaa (zad J B4 KR.o);have N:=zaa (B5.o.below J);have c:=zaa (y.o.trans (Y:=[]) (ButL.of_below J) y.o.size (by simp));clear J;obtain⟨⟨y0,y1,y2⟩,yf⟩:=zbl L.o;go_wp2;exact zbg HE.o L.o N.o c.o B0 B3 fun W u0 u1 u2=>by simp[results,results83,go_sem,u0,u1,u2]
   ·have J8:(j.role M==1)=false:=by simpa using hro
    have B8:Hid (zjx j ac=if j.last<j.freed M then(j,zat 9) else({j with role:=upd j.role M 2,now:=t},zat 0)):=by rw[Hid,HW.o,if_neg hro]
    clear hro HW;obtain⟨I9,J3⟩:=A8.o.last;by_cases hfr:j.last<j.freed M
    ·have HE:Hid (zjx j ac=(j,zat 9)):=by rw[Hid,B8.o,if_pos hfr]
     clear B8;go_wp2_with fail
     go_quiet (fail)
     obtain⟨S,Q⟩:∃S,S=O.drewN nq:=⟨_,rfl⟩;have I:Below O.heap.size O S:=by rw[Q];exact below_drewN (Below.refl _ _) _
     have B5:=zaa (A8.o.below I);have y:Hid (ButL [B] w.heap.size w S):=A9.o.trans (Y:=[]) (ButL.of_below I) A9.o.size (by simp);have KR:=zaa (zad I (show w.heap.size+1<O.heap.size by omega) C1.o);have H4:O.heap.size≤S.heap.size:=I.size;rw[←Q];clear Q I;have B4:w.heap.size+1<S.heap.size:=by omega
     go_wp2_with fail;refine(zau 9 _).mono ?_;rintro e w2 ⟨rfl,J⟩;have L:=zaa (zad J B4 KR.o);have N:=zaa (B5.o.below J);have c:=zaa (y.o.trans (Y:=[]) (ButL.of_below J) y.o.size (by simp));clear J;obtain⟨⟨y0,y1,y2⟩,yf⟩:=zbl L.o;go_wp2;exact zbg HE.o L.o N.o c.o B0 B3 fun W u0 u1 u2=>by simp[results,results83,go_sem,u0,u1,u2]
    ·have HE:Hid (zjx j ac=({j with role:=upd j.role M 2,now:=t},zat 0)):=by rw[Hid,B8.o,if_neg hfr]
     clear B8;go_wp2_with fail
     go_quiet (fail)
     obtain⟨W7,D7⟩:∃W7,W7=O.drewN nq:=⟨_,rfl⟩;have I:Below O.heap.size O W7:=by rw[D7];exact below_drewN (Below.refl _ _) _
     have D6:=zaa (A8.o.below I);have G0:Hid (ButL [B] w.heap.size w W7):=A9.o.trans (Y:=[]) (ButL.of_below I) A9.o.size (by simp);have F7:=zaa (zad I (show w.heap.size+1<O.heap.size by omega) C1.o);have G8:=zaa (zad I (show T<O.heap.size by omega) F3.o);have C7:=zaa (C4.o.ext (Ext.freshL I));have K0:O.heap.size≤W7.heap.size:=I.size;rw[←D7];clear D7 I B9 H7 D4 I7 I9 J3 A8 A9 C1 F3 C4;obtain⟨B9,_,D4,_⟩:=D6.o.role M B7;obtain⟨⟨t0,t1,t2,t3,t4,t5,t6,t7,t8,t9⟩,tf⟩:=zaj G8.o;have K1:¬T=B:=by omega
     have K6:¬B=T:=by omega
     go_wp2_with fail;obtain⟨S,Q⟩:∃S,S=W7.setCell ⟨B,7+M*2,none⟩ (.int .i64 2):=⟨_,rfl⟩;have F5:Hid (JAt S B ((w.heap.size+1)::X) {j with role:=upd j.role M 2}):=by rw[Q];exact D6.o.putRole M B7 2
     have C3:Hid (IsTx (zas S ((w.heap.size+1)::X)) (.agg #[.int .i64 t.seq,.slice q t.info.length p,.slice d t.data.length l,.slice m t.rev.length r,.bool t.h0.on,.int .i64 t.h0.left,.bool t.h1.on,.int .i64 t.h1.left,.bool t.h2.on,.int .i64 t.h2.left]) t):=by rw[Q];exact C7.o.ext (Ext.setL (by simp[B3]) _ _)
     have D5:Hid (ButL [B] w.heap.size w S):=by rw[Q];exact G0.o.set (.inl (by simp)) _ _
     have E6:Hid (S.heap[w.heap.size+1]?=some (.cells #[.int .i64 0,.int .i64 0,.string ⟨#[]⟩] 31 (0,0))):=by rw[Q];exact(Below.heap_setCell _ _ _ _ B0).trans F7.o
     have H4:S.heap.size=W7.heap.size:=by rw[Q];simp[World.setCell]
     rw[←Q];clear Q B9 D4 t0 t1 t2 t3 t4 t5 t6 t7 t8 t9 tf D6 C7 G0 F7 G8;refine(zjj B ((w.heap.size+1)::X) _ S F5.o t q p d l m r C3.o H2.o 0).mono ?_;rintro e w2 ⟨rfl,F2,D1⟩;have N:Hid (JAt w2 B ((w.heap.size+1)::X) {j with role:=upd j.role M 2,now:=t}):=F2;have c:=zaa (D5.o.trans (Y:=[B]) D1 D5.o.size (by simp));have L:=zaa ((D1.block _ (show w.heap.size+1<S.heap.size by omega) (by simpa using B0)).trans E6.o);clear F2 D1 F5 D5 E6 C3;dsimp only[zm1,vRp,zat];obtain⟨⟨y0,y1,y2⟩,yf⟩:=zbl L.o;go_wp2;exact zbg HE.o L.o N.o c.o B0 B3 fun W u0 u1 u2=>by simp[results,results83,go_sem,u0,u1,u2]
  ·have HE:Hid (zjx j ac=(j,zat (fillE j.now ac.h ac.b (fitT ac.text)))):=by rw[Hid,zjx,if_neg he]
   have J9:(fillE j.now ac.h ac.b (fitT ac.text) !=0)=true:=by simpa using he
   clear he ht;generalize fillE j.now ac.h ac.b (fitT ac.text)=E at *;go_wp2_with fail;have B5:=C6;have y:Hid (ButL [B] w.heap.size w u):=ButL.of_below C8.o;have KR:=D2;have B4:w.heap.size+1<u.heap.size:=by omega
   refine(zau E _).mono ?_;rintro e w2 ⟨rfl,J⟩;have L:=zaa (zad J B4 KR.o);have N:=zaa (B5.o.below J);have c:=zaa (y.o.trans (Y:=[]) (ButL.of_below J) y.o.size (by simp));clear J;obtain⟨⟨y0,y1,y2⟩,yf⟩:=zbl L.o;go_wp2;exact zbg HE.o L.o N.o c.o B0 B3 fun W u0 u1 u2=>by simp[results,results83,go_sem,u0,u1,u2]
 have E2:=zaa E1;clear E1 C2;obtain⟨_,da,dc,db,dd,na,nc,nb,nd,ne,nf,sa,sc,sb,sd,se,sf,ca,cc,fa,fc,ta,tc,h1,hr⟩:=id N.o;have G6:F.cell? ⟨B,31,none⟩=some (.int .i64 j.now.seq):=zak h1 31;have G1:F.cell? ⟨B,32,none⟩=some (.slice na j.now.info.length nc):=zak h1 32;have E5:F.cell? ⟨B,33,none⟩=some (.slice nb j.now.data.length nd):=zak h1 33;have F1:F.cell? ⟨B,34,none⟩=some (.slice ne j.now.rev.length nf):=zak h1 34;have G2:F.cell? ⟨B,35,none⟩=some (.bool j.now.h0.on):=zak h1 35;have F6:F.cell? ⟨B,36,none⟩=some (.int .i64 j.now.h0.left):=zak h1 36;have F8:F.cell? ⟨B,37,none⟩=some (.bool j.now.h1.on):=zak h1 37;have H3:F.cell? ⟨B,38,none⟩=some (.int .i64 j.now.h1.left):=zak h1 38;have E7:F.cell? ⟨B,39,none⟩=some (.bool j.now.h2.on):=zak h1 39;have F0:F.cell? ⟨B,40,none⟩=some (.int .i64 j.now.h2.left):=zak h1 40;have I2:=zaa G6;have I5:=zaa G1;have H6:=zaa E5;have I8:=zaa F1;have I3:=zaa G2;have I6:=zaa F6;have I1:=zaa F8;have H8:=zaa H3;have H5:=zaa E7;have I4:=zaa F0;have G4:=zaa hr.2.1;have H9:=zaa hr.2.2.2.2.2.2.1;clear h1 hr G6 G1 E5 F1 G2 F6 F8 H3 E7 F0;obtain⟨⟨y0,y1,y2,y3,y4⟩,_⟩:=zhn E0.o;have A0:=zaa y0;have A1:=zaa y1;have A2:=zaa y2;have A3:=zaa y3;have A4:=zaa y4;clear y0 y1 y2 y3 y4;refine(show∀A0:Act,A0=_→Code.wp prog _ _ A0 _ from fun A0 hA0=>?_) _ rfl;have K:A0.tmps.size=57:=by rw[hA0];rfl
 have J0:A0.defers=[]:=by rw[hA0]
 have v0:A0.eval (.tmp 0)=.pointer (some ⟨B,0,none⟩):=by rw[hA0];rfl
 have v3:A0.eval (.tmp 3)=.pointer (some ⟨w.heap.size,0,none⟩):=by rw[hA0];rfl
 have v4:A0.eval (.tmp 4)=.pointer (some ⟨w.heap.size+1,0,none⟩):=by rw[hA0];rfl
 have v5:A0.eval (.tmp 5)=undef:=by rw[hA0];rfl
 clear hA0;refine zdb 17 5 (zmi F) [9,10,11,12,13,14,15,16,17,18,19,20,8,21,22,5,5] (zgj B w.heap.size j ac ((w.heap.size+1)::X) na nc nb nd ne nf) (by kernel_rfl) (by kernel_rfl) (by kernel_rfl) (by kernel_rfl) (by decide) (⟨(Below.refl _ _).drew,.inl v5⟩) ⟨?_,?_,?_,?_,?_,?_,?_,?_,?_,?_,?_,?_,?_,?_,?_,?_,?_,trivial⟩ ?_
 ·intro a w' C A D;have z0:=(C.other 0 rfl).trans v0;exact zby _ rfl rfl (by revert z0;generalize a.eval=ρ;intro z0;simp only[execOp];go_simp) C K A rfl
 ·intro a w' C A D;have p9:a.eval (.tmp 9)=.pointer (some ⟨B,0,none⟩):=D ⟨0,.data⟩ (by simp) rfl;exact zby _ rfl rfl (by revert p9;generalize a.eval=ρ;intro p9;simp only[execOp];go_simp) C K A rfl
 ·intro a w' C A D;have G7:a.eval (.tmp 10)=.pointer (some ⟨B,0,none⟩):=D ⟨1,.data⟩ (by simp) rfl;exact zby _ rfl rfl (by revert G7;generalize a.eval=ρ;intro G7;simp only[execOp];go_simp) C K A rfl
 ·intro a w' C A D;have E3:a.eval (.tmp 11)=.pointer (some ⟨B,31,none⟩):=D ⟨2,.data⟩ (by simp) rfl;have c0:w'.cell? ⟨B,31,none⟩=some (.int .i64 j.now.seq):=zac A.1 Z I2.o;have c1:w'.cell? ⟨B,32,none⟩=some (.slice na j.now.info.length nc):=zac A.1 Z I5.o;have c2:w'.cell? ⟨B,33,none⟩=some (.slice nb j.now.data.length nd):=zac A.1 Z H6.o;have c3:w'.cell? ⟨B,34,none⟩=some (.slice ne j.now.rev.length nf):=zac A.1 Z I8.o;have c4:w'.cell? ⟨B,35,none⟩=some (.bool j.now.h0.on):=zac A.1 Z I3.o;have c5:w'.cell? ⟨B,36,none⟩=some (.int .i64 j.now.h0.left):=zac A.1 Z I6.o;have c6:w'.cell? ⟨B,37,none⟩=some (.bool j.now.h1.on):=zac A.1 Z I1.o;have c7:w'.cell? ⟨B,38,none⟩=some (.int .i64 j.now.h1.left):=zac A.1 Z H8.o;have c8:w'.cell? ⟨B,39,none⟩=some (.bool j.now.h2.on):=zac A.1 Z H5.o;have c9:w'.cell? ⟨B,40,none⟩=some (.int .i64 j.now.h2.left):=zac A.1 Z I4.o;exact zby _ rfl rfl (by revert E3;generalize a.eval=ρ;intro E3;simp only[execOp];go_simp) C K A rfl
 ·intro a w' C A D;have z3:=(C.other 3 rfl).trans v3;exact zby _ rfl rfl (by revert z3;generalize a.eval=ρ;intro z3;simp only[execOp];go_simp) C K A rfl
 ·intro a w' C A D;have G9:a.eval (.tmp 13)=.pointer (some ⟨w.heap.size,1,none⟩):=D ⟨4,.data⟩ (by simp) rfl;have c0:w'.cell? ⟨w.heap.size,1,none⟩=some (.int .i64 ac.h):=zac A.1 C0 A1.o;exact zby _ rfl rfl (by revert G9;generalize a.eval=ρ;intro G9;simp only[execOp];go_simp) C K A rfl
 ·intro a w' C A D;have z3:=(C.other 3 rfl).trans v3;exact zby _ rfl rfl (by revert z3;generalize a.eval=ρ;intro z3;simp only[execOp];go_simp) C K A rfl
 ·intro a w' C A D;have G5:a.eval (.tmp 15)=.pointer (some ⟨w.heap.size,2,none⟩):=D ⟨6,.data⟩ (by simp) rfl;have c0:w'.cell? ⟨w.heap.size,2,none⟩=some (.int .i64 ac.b):=zac A.1 C0 A2.o;exact zby _ rfl rfl (by revert G5;generalize a.eval=ρ;intro G5;simp only[execOp];go_simp) C K A rfl
 ·intro a w' C A D;have z3:=(C.other 3 rfl).trans v3;exact zby _ rfl rfl (by revert z3;generalize a.eval=ρ;intro z3;simp only[execOp];go_simp) C K A rfl
 ·intro a w' C A D;have E9:a.eval (.tmp 17)=.pointer (some ⟨w.heap.size,4,none⟩):=D ⟨8,.data⟩ (by simp) rfl;have c0:w'.cell? ⟨w.heap.size,4,none⟩=some (.string ac.text):=zac A.1 C0 A4.o;exact zby _ rfl rfl (by revert E9;generalize a.eval=ρ;intro E9;simp only[execOp];go_simp) C K A rfl
 ·intro a w' C A D;have G3:a.eval (.tmp 18)=.string ac.text:=D ⟨9,.data⟩ (by simp) rfl;refine zbo 25 #[.string ac.text] rfl rfl (by have pf:=Act.eval_func a 25;revert G3 pf;generalize a.eval=ρ;intro G3 pf;simp only[execOp];go_simp) _ (zf9 ac.text _ hsz2) ?_;rintro e w2 ⟨rfl,J⟩;refine⟨_,rfl,_,rfl,?_,?_,?_⟩
  ·show zmi F ((a.put (some 19) _).eval (.tmp 5)) w2;rw[Act.eval_put_ne _ _ _ _ (by decide)];exact zfy A J
  ·show zgj _ _ _ _ _ _ _ _ _ _ _ _ ((a.put (some 19) _).eval (.tmp 19)) ((a.put (some 19) _).eval (.tmp 5)) w2;rw[zaq C K (by decide),Act.eval_put_ne _ _ _ _ (by decide)];exact rfl
  ·intro i x hk h;show zgj _ _ _ _ _ _ _ _ _ _ _ i x ((a.put (some 19) _).eval (.tmp 5)) w2;rw[Act.eval_put_ne _ _ _ _ (by decide)];exact zmn J i x h
 ·intro a w' C A D;have H0:a.eval (.tmp 12)=.agg #[.int .i64 j.now.seq,.slice na j.now.info.length nc,.slice nb j.now.data.length nd,.slice ne j.now.rev.length nf,.bool j.now.h0.on,.int .i64 j.now.h0.left,.bool j.now.h1.on,.int .i64 j.now.h1.left,.bool j.now.h2.on,.int .i64 j.now.h2.left]:=D ⟨3,.data⟩ (by simp) rfl;have F4:a.eval (.tmp 14)=.int .i64 ac.h:=D ⟨5,.data⟩ (by simp) rfl;have H1:a.eval (.tmp 16)=.int .i64 ac.b:=D ⟨7,.data⟩ (by simp) rfl;have F9:a.eval (.tmp 19)=.string (fitT ac.text):=D ⟨10,.data⟩ (by simp) rfl;refine zbo 122 #[.agg #[.int .i64 j.now.seq,.slice na j.now.info.length nc,.slice nb j.now.data.length nd,.slice ne j.now.rev.length nf,.bool j.now.h0.on,.int .i64 j.now.h0.left,.bool j.now.h1.on,.int .i64 j.now.h1.left,.bool j.now.h2.on,.int .i64 j.now.h2.left],.int .i64 ac.h,.int .i64 ac.b,.string (fitT ac.text)] rfl rfl (by have pf:=Act.eval_func a 122;revert H0 F4 H1 F9 pf;generalize a.eval=ρ;intro H0 F4 H1 F9 pf;simp only[execOp];go_simp) _ (zxh _ j.now ac.h ac.b (fitT ac.text) _ ((G4.o.ext (Ext.seenL F _)).below A.1) r1 r2) ?_;rintro e w2 ⟨U,rfl,D9,J,I0⟩;refine⟨_,rfl,_,rfl,?_,?_,?_⟩
  ·show zmi F ((a.put (some 20) _).eval (.tmp 5)) w2;rw[Act.eval_put_ne _ _ _ _ (by decide)];exact zfy A J
  ·show zgj _ _ _ _ _ _ _ _ _ _ _ _ ((a.put (some 20) _).eval (.tmp 20)) ((a.put (some 20) _).eval (.tmp 5)) w2;rw[zaq C K (by decide),Act.eval_put_ne _ _ _ _ (by decide)];exact⟨U,rfl,okTx.made J5.o G4.o H9.o A D9 J I0⟩
  ·intro i x hk h;show zgj _ _ _ _ _ _ _ _ _ _ _ i x ((a.put (some 20) _).eval (.tmp 5)) w2;rw[Act.eval_put_ne _ _ _ _ (by decide)];exact zmn J i x h
 ·intro a w' C A D;obtain⟨U,pc,ok⟩:∃U,a.eval (.tmp 20)=.tuple #[U,.int .i64 (fillE j.now ac.h ac.b (fitT ac.text))]∧okTx ((w.heap.size+1)::X) (zan j.now ac.h ac.b (fitT ac.text)) U (a.eval (.tmp 5)) w':=D ⟨11,.data⟩ (by simp) rfl;refine zay (.tuple #[U,.int .i64 (fillE j.now ac.h ac.b (fitT ac.text))]) rfl rfl (by revert pc;generalize a.eval=ρ;intro pc;simp only[execOp];go_simp) ⟨_,rfl,?_,?_,?_⟩
  ·show zmi F ((a.put (some 8) _).eval (.tmp 5)) w';rw[Act.eval_put_ne _ _ _ _ (by decide)];exact A
  ·show zgj _ _ _ _ _ _ _ _ _ _ _ _ ((a.put (some 8) _).eval (.tmp 8)) ((a.put (some 8) _).eval (.tmp 5)) w';rw[zaq C K (by decide),Act.eval_put_ne _ _ _ _ (by decide)];exact⟨U,rfl,ok⟩
  ·intro i x hk h;show zgj _ _ _ _ _ _ _ _ _ _ _ i x ((a.put (some 8) _).eval (.tmp 5)) w';rw[Act.eval_put_ne _ _ _ _ (by decide)];exact h
 ·intro a w' C A D;obtain⟨U,pm,ok⟩:∃U,a.eval (.tmp 8)=.tuple #[U,.int .i64 (fillE j.now ac.h ac.b (fitT ac.text))]∧okTx ((w.heap.size+1)::X) (zan j.now ac.h ac.b (fitT ac.text)) U (a.eval (.tmp 5)) w':=D ⟨12,.data⟩ (by simp) rfl;refine zay (U) rfl rfl (by revert pm;generalize a.eval=ρ;intro pm;simp only[execOp];go_simp) ⟨_,rfl,?_,?_,?_⟩
  ·show zmi F ((a.put (some 21) _).eval (.tmp 5)) w';rw[Act.eval_put_ne _ _ _ _ (by decide)];exact A
  ·show zgj _ _ _ _ _ _ _ _ _ _ _ _ ((a.put (some 21) _).eval (.tmp 21)) ((a.put (some 21) _).eval (.tmp 5)) w';rw[zaq C K (by decide),Act.eval_put_ne _ _ _ _ (by decide)];exact ok
  ·intro i x hk h;show zgj _ _ _ _ _ _ _ _ _ _ _ i x ((a.put (some 21) _).eval (.tmp 5)) w';rw[Act.eval_put_ne _ _ _ _ (by decide)];exact h
 ·intro a w' C A D;obtain⟨U,pm,ok⟩:∃U,a.eval (.tmp 8)=.tuple #[U,.int .i64 (fillE j.now ac.h ac.b (fitT ac.text))]∧okTx ((w.heap.size+1)::X) (zan j.now ac.h ac.b (fitT ac.text)) U (a.eval (.tmp 5)) w':=D ⟨12,.data⟩ (by simp) rfl;exact zby _ rfl rfl (by revert pm;generalize a.eval=ρ;intro pm;simp only[execOp];go_simp) C K A rfl
 ·intro a w' C A D;refine zfk (.pointer (some ⟨w'.heap.size,0,none⟩)) rfl rfl (w':=w'.alloc (.cells #[.int .i64 0,.slice none 0 0,.slice none 0 0,.slice none 0 0,.bool false,.int .i64 0,.bool false,.int .i64 0,.bool false,.int .i64 0] 40)) (by simp only[execOp];go_simp) ⟨_,rfl,?_,?_,?_⟩
  ·show zmi F ((a.put (some 5) _).eval (.tmp 5)) _;rw[zaq C K (by decide)];exact⟨A.1.alloc A.1.size _,.inr ⟨_,rfl,A.1.size,by simp,_,_,_,_,_,_,_,_,_,_,heap_alloc_new _ _⟩⟩
  ·show zgj _ _ _ _ _ _ _ _ _ _ _ _ ((a.put (some 5) _).eval (.tmp 5)) ((a.put (some 5) _).eval (.tmp 5)) _;rw[zaq C K (by decide)];exact⟨_,rfl⟩
  ·intro i x hk h;show zgj _ _ _ _ _ _ _ _ _ _ _ i x ((a.put (some 5) _).eval (.tmp 5)) _;rw[zaq C K (by decide)];exact zub _ i x h
 ·intro a w' C A D;obtain⟨T,R⟩:∃T,a.eval (.tmp 5)=.pointer (some ⟨T,0,none⟩):=D ⟨15,.data⟩ (by simp) rfl;have ok:okTx ((w.heap.size+1)::X) (zan j.now ac.h ac.b (fitT ac.text)) (a.eval (.tmp 21)) (a.eval (.tmp 5)) w':=D ⟨13,.data⟩ (by simp) rfl
  obtain⟨B2,D9,c0,c1,c2,c3,c4,c5,c6,c7,c8,c9,s⟩:F.heap.size≤T∧T<w'.heap.size∧∃c0 c1 c2 c3 c4 c5 c6 c7 c8 c9,w'.heap[T]?=some (.cells #[c0,c1,c2,c3,c4,c5,c6,c7,c8,c9] 40 (0,0)):=by
   rcases A.2 with h0|⟨T',e,h3,h4,h5⟩
   ·rw[h0]at R;cases R
   ·rw[e]at R;cases R;exact⟨h3,h4,h5⟩
  have z:=ok.2.2 T R;have A6:=ok.2.1;obtain⟨q,p,d,l,m,r,hv,_⟩:=id z;rw[hv]at z A6;obtain⟨⟨t0,t1,t2,t3,t4,t5,t6,t7,t8,t9⟩,tf⟩:=zaj s;refine zce rfl rfl (w':=((((((((((w'.setCell ⟨T,0,none⟩ (.int .i64 (zan j.now ac.h ac.b (fitT ac.text)).seq)).setCell ⟨T,1,none⟩ (.slice q (zan j.now ac.h ac.b (fitT ac.text)).info.length p)).setCell ⟨T,2,none⟩ (.slice d (zan j.now ac.h ac.b (fitT ac.text)).data.length l)).setCell ⟨T,3,none⟩ (.slice m (zan j.now ac.h ac.b (fitT ac.text)).rev.length r)).setCell ⟨T,4,none⟩ (.bool (zan j.now ac.h ac.b (fitT ac.text)).h0.on)).setCell ⟨T,5,none⟩ (.int .i64 (zan j.now ac.h ac.b (fitT ac.text)).h0.left)).setCell ⟨T,6,none⟩ (.bool (zan j.now ac.h ac.b (fitT ac.text)).h1.on)).setCell ⟨T,7,none⟩ (.int .i64 (zan j.now ac.h ac.b (fitT ac.text)).h1.left)).setCell ⟨T,8,none⟩ (.bool (zan j.now ac.h ac.b (fitT ac.text)).h2.on)).setCell ⟨T,9,none⟩ (.int .i64 (zan j.now ac.h ac.b (fitT ac.text)).h2.left))) (by revert R hv;generalize a.eval=ρ;intro R hv;simp only[execOp];go_simp) ⟨_,rfl,?_,?_,?_⟩
  ·show zmi F (a.eval (.tmp 5)) _;exact⟨Below.set10 A.1 B2 _ _ _ _ _ _ _ _ _ _,.inr ⟨T,R,B2,by simpa[World.setCell] using D9,_,_,_,_,_,_,_,_,_,_,zh3 s _ _ _ _ _ _ _ _ _ _⟩⟩
  ·show zgj _ _ _ _ _ _ _ _ _ _ _ _ (a.eval (.tmp 5)) (a.eval (.tmp 5)) _;exact⟨T,q,p,d,l,m,r,R,zh3 s _ _ _ _ _ _ _ _ _ _,z.ext (zph (by simp) w' _ _ _ _ _ _ _ _ _ _),A6⟩
  ·intro i x hk h;show zgj _ _ _ _ _ _ _ _ _ _ _ i x (a.eval (.tmp 5)) _;rw[R]at h⊢;exact zuc (fun t x h=>h.store _ _ _ _ _ _ _ _ _ _) i x hk h
 ·intro a W C A D;obtain⟨T,q,p,d,l,m,r,R,s,z,A6⟩:∃T q p d l m r,a.eval (.tmp 5)=.pointer (some ⟨T,0,none⟩)∧W.heap[T]?=some (.cells #[.int .i64 (zan j.now ac.h ac.b (fitT ac.text)).seq,.slice q (zan j.now ac.h ac.b (fitT ac.text)).info.length p,.slice d (zan j.now ac.h ac.b (fitT ac.text)).data.length l,.slice m (zan j.now ac.h ac.b (fitT ac.text)).rev.length r,.bool (zan j.now ac.h ac.b (fitT ac.text)).h0.on,.int .i64 (zan j.now ac.h ac.b (fitT ac.text)).h0.left,.bool (zan j.now ac.h ac.b (fitT ac.text)).h1.on,.int .i64 (zan j.now ac.h ac.b (fitT ac.text)).h1.left,.bool (zan j.now ac.h ac.b (fitT ac.text)).h2.on,.int .i64 (zan j.now ac.h ac.b (fitT ac.text)).h2.left] 40 (0,0))∧IsTx (zas W (T::(w.heap.size+1)::X)) (.agg #[.int .i64 (zan j.now ac.h ac.b (fitT ac.text)).seq,.slice q (zan j.now ac.h ac.b (fitT ac.text)).info.length p,.slice d (zan j.now ac.h ac.b (fitT ac.text)).data.length l,.slice m (zan j.now ac.h ac.b (fitT ac.text)).rev.length r,.bool (zan j.now ac.h ac.b (fitT ac.text)).h0.on,.int .i64 (zan j.now ac.h ac.b (fitT ac.text)).h0.left,.bool (zan j.now ac.h ac.b (fitT ac.text)).h1.on,.int .i64 (zan j.now ac.h ac.b (fitT ac.text)).h1.left,.bool (zan j.now ac.h ac.b (fitT ac.text)).h2.on,.int .i64 (zan j.now ac.h ac.b (fitT ac.text)).h2.left]) (zan j.now ac.h ac.b (fitT ac.text))∧RoomTx (.agg #[.int .i64 (zan j.now ac.h ac.b (fitT ac.text)).seq,.slice q (zan j.now ac.h ac.b (fitT ac.text)).info.length p,.slice d (zan j.now ac.h ac.b (fitT ac.text)).data.length l,.slice m (zan j.now ac.h ac.b (fitT ac.text)).rev.length r,.bool (zan j.now ac.h ac.b (fitT ac.text)).h0.on,.int .i64 (zan j.now ac.h ac.b (fitT ac.text)).h0.left,.bool (zan j.now ac.h ac.b (fitT ac.text)).h1.on,.int .i64 (zan j.now ac.h ac.b (fitT ac.text)).h1.left,.bool (zan j.now ac.h ac.b (fitT ac.text)).h2.on,.int .i64 (zan j.now ac.h ac.b (fitT ac.text)).h2.left]):=D 16 (by decide);have pE:a.eval (.tmp 22)=.int .i64 (fillE j.now ac.h ac.b (fitT ac.text)):=D 14 (by decide)
  have B2:F.heap.size≤T:=by
   rcases A.2 with h0|⟨T',e,h3,h4,h5⟩
   ·rw[h0]at R;cases R
   ·rw[e]at R;cases R;exact h3
  show wpOps prog _ _ [17] a W;rw[wpOps_cons];refine zay (.int .i64 (fillE j.now ac.h ac.b (fitT ac.text))) rfl rfl (by revert pE;generalize a.eval=ρ;intro pE;simp only[execOp];go_simp) ?_;have E8:a.tmps.size=57:=C.size.trans K;obtain⟨a2,A5⟩:∃a2,a2=a.put (some 6) (.int .i64 (fillE j.now ac.h ac.b (fitT ac.text))):=⟨_,rfl⟩;have f6:a2.eval (.tmp 6)=.int .i64 (fillE j.now ac.h ac.b (fitT ac.text)):=by rw[A5];exact Act.eval_put_same _ _ _ (by rw[E8];decide)
  have f0:a2.eval (.tmp 0)=.pointer (some ⟨B,0,none⟩):=by rw[A5,Act.eval_put_ne _ _ _ _ (by decide)];exact(C.other 0 rfl).trans v0
  have f3:a2.eval (.tmp 3)=.pointer (some ⟨w.heap.size,0,none⟩):=by rw[A5,Act.eval_put_ne _ _ _ _ (by decide)];exact(C.other 3 rfl).trans v3
  have f4:a2.eval (.tmp 4)=.pointer (some ⟨w.heap.size+1,0,none⟩):=by rw[A5,Act.eval_put_ne _ _ _ _ (by decide)];exact(C.other 4 rfl).trans v4
  have f5:a2.eval (.tmp 5)=.pointer (some ⟨T,0,none⟩):=by rw[A5,Act.eval_put_ne _ _ _ _ (by decide)];exact R
  have B6:a2=⟨#[_,_,_,_,_,_,_,_,_,_,_,_,_,_,_,_,_,_,_,_,_,_,_,_,_,_,_,_,_,_,_,_,_,_,_,_,_,_,_,_,_,_,_,_,_,_,_,_,_,_,_,_,_,_,_,_,_],[]⟩:=zb9 a2 57 (by rw[A5,Act.size_put];exact E8) (by rw[A5,Act.defers_put'];exact C.defers.trans J0);dsimp only at B6;rw[f0,f3,f4,f5,f6]at B6;show KK (a.put (some 6) (.int .i64 (fillE j.now ac.h ac.b (fitT ac.text)))) _;rw[←A5];exact(congrArg (fun x=>KK x _) B6).mpr (E2.o (fun k=>a2.eval (.tmp k)) _ T q p d l m r z A6 s B2 A.1)
def zhh (B:Nat)(D:Nat)(j:Jn)(ac:Ac)(X:List Nat)(na:Option Addr)(nc:Nat)(nb:Option Addr)(nd:Nat)(ne:Option Addr)(nf:Nat):Nat→Value→Value→World→Prop
 |0,v,_,_=>v=.pointer (some ⟨B,0,none⟩)
 |1,v,_,_=>v=.pointer (some ⟨B,0,none⟩)
 |2,v,_,_=>v=.pointer (some ⟨B,31,none⟩)
 |3,v,_,_=>v=.agg #[.int .i64 j.now.seq,.slice na j.now.info.length nc,.slice nb j.now.data.length nd,.slice ne j.now.rev.length nf,.bool j.now.h0.on,.int .i64 j.now.h0.left,.bool j.now.h1.on,.int .i64 j.now.h1.left,.bool j.now.h2.on,.int .i64 j.now.h2.left]
 |4,v,_,_=>v=.pointer (some ⟨D,1,none⟩)
 |5,v,_,_=>v=.int .i64 ac.h
 |6,v,_,_=>v=.pointer (some ⟨D,2,none⟩)
 |7,v,_,_=>v=.int .i64 ac.b
 |8,v,u,w=>∃v2,v=.tuple #[v2,.int .i64 (revokeE j.now ac.h ac.b)]∧okTx X (zag j.now ac.h ac.b) v2 u w
 |9,v,u,w=>∃v2,v=.tuple #[v2,.int .i64 (revokeE j.now ac.h ac.b)]∧okTx X (zag j.now ac.h ac.b) v2 u w
 |10,v,u,w=>okTx X (zag j.now ac.h ac.b) v u w
 |11,v,_,_=>v=.int .i64 (revokeE j.now ac.h ac.b)
 |12,v,_,_=>∃T,v=.pointer (some ⟨T,0,none⟩)
 |13,v,_,w=>∃T ua uc ub ud ue uf,v=.pointer (some ⟨T,0,none⟩)∧w.heap[T]?=some (.cells #[.int .i64 (zag j.now ac.h ac.b).seq,.slice ua (zag j.now ac.h ac.b).info.length uc,.slice ub (zag j.now ac.h ac.b).data.length ud,.slice ue (zag j.now ac.h ac.b).rev.length uf,.bool (zag j.now ac.h ac.b).h0.on,.int .i64 (zag j.now ac.h ac.b).h0.left,.bool (zag j.now ac.h ac.b).h1.on,.int .i64 (zag j.now ac.h ac.b).h1.left,.bool (zag j.now ac.h ac.b).h2.on,.int .i64 (zag j.now ac.h ac.b).h2.left] 40 (0,0))∧IsTx (zas w (T::X)) (.agg #[.int .i64 (zag j.now ac.h ac.b).seq,.slice ua (zag j.now ac.h ac.b).info.length uc,.slice ub (zag j.now ac.h ac.b).data.length ud,.slice ue (zag j.now ac.h ac.b).rev.length uf,.bool (zag j.now ac.h ac.b).h0.on,.int .i64 (zag j.now ac.h ac.b).h0.left,.bool (zag j.now ac.h ac.b).h1.on,.int .i64 (zag j.now ac.h ac.b).h1.left,.bool (zag j.now ac.h ac.b).h2.on,.int .i64 (zag j.now ac.h ac.b).h2.left]) (zag j.now ac.h ac.b)∧RoomTx (.agg #[.int .i64 (zag j.now ac.h ac.b).seq,.slice ua (zag j.now ac.h ac.b).info.length uc,.slice ub (zag j.now ac.h ac.b).data.length ud,.slice ue (zag j.now ac.h ac.b).rev.length uf,.bool (zag j.now ac.h ac.b).h0.on,.int .i64 (zag j.now ac.h ac.b).h0.left,.bool (zag j.now ac.h ac.b).h1.on,.int .i64 (zag j.now ac.h ac.b).h1.left,.bool (zag j.now ac.h ac.b).h2.on,.int .i64 (zag j.now ac.h ac.b).h2.left])
 |_,_,_,_=>True
theorem zud{B:Nat}{D:Nat}{j:Jn}{ac:Ac}{X:List Nat}{na:Option Addr}{nc:Nat}{nb:Option Addr}{nd:Nat}{ne:Option Addr}{nf:Nat}{u:Value}{w w':World}(hb:Below w.heap.size w w'):∀kk x,zhh B D j ac X na nc nb nd ne nf kk x u w→zhh B D j ac X na nc nb nd ne nf kk x u w':=by
 intro kk x h
 match kk,h with
 |0,h|1,h|2,h|3,h|4,h|5,h|6,h|7,h=>exact h
 |8,⟨v2,h1,h2⟩=>exact⟨v2,h1,h2.below hb⟩
 |9,⟨v2,h1,h2⟩=>exact⟨v2,h1,h2.below hb⟩
 |10,h=>exact h.below hb
 |11,h|12,h=>exact h
 |13,⟨T,ua,uc,ub,ud,ue,uf,h1,h2,h3,h4⟩=>exact⟨T,ua,uc,ub,ud,ue,uf,h1,zad hb (Array.getElem?_eq_some_iff.1 h2).1 h2,h3.ext (Ext.freshL hb),h4⟩
 |_+14,_=>exact trivial
theorem zue{B:Nat}{D:Nat}{j:Jn}{ac:Ac}{X:List Nat}{na:Option Addr}{nc:Nat}{nb:Option Addr}{nd:Nat}{ne:Option Addr}{nf:Nat}{u:Value}{w:World}(o:Obj):∀kk x,zhh B D j ac X na nc nb nd ne nf kk x u w→zhh B D j ac X na nc nb nd ne nf kk x (.pointer (some ⟨w.heap.size,0,none⟩)) (w.alloc o):=by
 intro kk x h
 match kk,h with
 |0,h|1,h|2,h|3,h|4,h|5,h|6,h|7,h=>exact h
 |8,⟨v2,h1,h2⟩=>exact⟨v2,h1,h2.alloc o⟩
 |9,⟨v2,h1,h2⟩=>exact⟨v2,h1,h2.alloc o⟩
 |10,h=>exact h.alloc o
 |11,h|12,h=>exact h
 |13,⟨T,ua,uc,ub,ud,ue,uf,h1,h2,h3,h4⟩=>exact⟨T,ua,uc,ub,ud,ue,uf,h1,zad (zab _ _) (Array.getElem?_eq_some_iff.1 h2).1 h2,h3.ext (Ext.freshL (zab _ _)),h4⟩
 |_+14,_=>exact trivial
theorem zuf{B:Nat}{D:Nat}{j:Jn}{ac:Ac}{X:List Nat}{na:Option Addr}{nc:Nat}{nb:Option Addr}{nd:Nat}{ne:Option Addr}{nf:Nat}{u:Value}{w w':World}(hs:∀t x,okTx X t x u w→okTx X t x u w'):∀kk x,kk≠13→zhh B D j ac X na nc nb nd ne nf kk x u w→zhh B D j ac X na nc nb nd ne nf kk x u w':=by
 intro kk x A h
 match kk,h with
 |0,h|1,h|2,h|3,h|4,h|5,h|6,h|7,h=>exact h
 |8,⟨y,h1,h2⟩=>exact⟨y,h1,hs _ _ h2⟩
 |9,⟨y,h1,h2⟩=>exact⟨y,h1,hs _ _ h2⟩
 |10,h=>exact hs _ _ h
 |11,h|12,h=>exact h
 |13,_=>exact absurd rfl A
 |_+14,_=>exact trivial
theorem zug(B:Nat)(X:List Nat)(j:Jn)(w:World)(h:JAt w B X j)(hX:∀x∈X,x<w.heap.size)(ac:Ac)(r1:j.now.info.length*24≤140737488355328)(r2:j.now.data.length*24≤140737488355328):
  Calls prog 84 #[.pointer (some ⟨B,0,none⟩),.agg #[.int .i64 ac.kind,.int .i64 ac.h,.int .i64 ac.b,.int .i64 ac.n,.string ac.text]] w (zdg w B X (ze0 j ac)):=by
 have HJ:=zaa h;have I7:=h.lt;have A8:=h.1;have HX:=zaa hX;clear h hX;go_enter func84,ntmps84;go_wp2;rename_i KK B3;obtain⟨D,y⟩:∃D,D=(w.alloc (.cells #[.int .i64 ac.kind,.int .i64 ac.h,.int .i64 ac.b,.int .i64 ac.n,.string ac.text] 23)).alloc (.cells #[.int .i64 0,.int .i64 0,.string ⟨#[]⟩] 31):=⟨_,rfl⟩;have D6:(w.alloc (.cells #[.int .i64 ac.kind,.int .i64 ac.h,.int .i64 ac.b,.int .i64 ac.n,.string ac.text] 23)).heap.size=w.heap.size+1:=by simp
 have d:Hid (JAt D B ((w.heap.size+1)::X) j):=by rw[y];exact(HJ.o.below (zab _ _)).more (zab _ _) (by omega)
 have m:Hid (Below w.heap.size w D):=by rw[y];exact zae (zab _ _) (zab _ _)
 have L:Hid (D.heap[w.heap.size+1]?=some (.cells #[.int .i64 0,.int .i64 0,.string ⟨#[]⟩] 31 (0,0))):=by rw[y,←D6];exact heap_alloc_new _ _
 have C9:Hid (D.heap[w.heap.size]?=some (.cells #[.int .i64 ac.kind,.int .i64 ac.h,.int .i64 ac.b,.int .i64 ac.n,.string ac.text] 23 (0,0))):=by rw[y];exact zad (zab _ _) (by omega) (heap_alloc_new _ _)
 have J0:D.heap.size=w.heap.size+2:=by rw[y];simp
 have I0:Hid (∀x∈((w.heap.size+1)::X),x<D.heap.size):=fun x hx=>by
  rcases List.mem_cons.1 hx with rfl|hx
  ·omega
  ·have:=HX.o x hx;omega
 rw[←y];clear y D6;have O:B<D.heap.size:=by omega
 have C6:w.heap.size<D.heap.size:=by omega
 have D1:∀(g:Nat→Value) (l:World) (T:Nat) (Z:Option Addr) (U:Nat) (Q:Option Addr) (R:Nat) (S:Option Addr) (c:Nat),IsTx (zas l (T::((w.heap.size+1)::X))) (.agg #[.int .i64 (zag j.now ac.h ac.b).seq,.slice Z (zag j.now ac.h ac.b).info.length U,.slice Q (zag j.now ac.h ac.b).data.length R,.slice S (zag j.now ac.h ac.b).rev.length c,.bool (zag j.now ac.h ac.b).h0.on,.int .i64 (zag j.now ac.h ac.b).h0.left,.bool (zag j.now ac.h ac.b).h1.on,.int .i64 (zag j.now ac.h ac.b).h1.left,.bool (zag j.now ac.h ac.b).h2.on,.int .i64 (zag j.now ac.h ac.b).h2.left]) (zag j.now ac.h ac.b)→RoomTx (.agg #[.int .i64 (zag j.now ac.h ac.b).seq,.slice Z (zag j.now ac.h ac.b).info.length U,.slice Q (zag j.now ac.h ac.b).data.length R,.slice S (zag j.now ac.h ac.b).rev.length c,.bool (zag j.now ac.h ac.b).h0.on,.int .i64 (zag j.now ac.h ac.b).h0.left,.bool (zag j.now ac.h ac.b).h1.on,.int .i64 (zag j.now ac.h ac.b).h1.left,.bool (zag j.now ac.h ac.b).h2.on,.int .i64 (zag j.now ac.h ac.b).h2.left])→l.heap[T]?=some (.cells #[.int .i64 (zag j.now ac.h ac.b).seq,.slice Z (zag j.now ac.h ac.b).info.length U,.slice Q (zag j.now ac.h ac.b).data.length R,.slice S (zag j.now ac.h ac.b).rev.length c,.bool (zag j.now ac.h ac.b).h0.on,.int .i64 (zag j.now ac.h ac.b).h0.left,.bool (zag j.now ac.h ac.b).h1.on,.int .i64 (zag j.now ac.h ac.b).h1.left,.bool (zag j.now ac.h ac.b).h2.on,.int .i64 (zag j.now ac.h ac.b).h2.left] 40 (0,0))→D.heap.size≤T→Below D.heap.size D l→KK ⟨#[.pointer (some ⟨B,0,none⟩),g 1,g 2,.pointer (some ⟨w.heap.size,0,none⟩),.pointer (some ⟨w.heap.size+1,0,none⟩),.pointer (some ⟨T,0,none⟩),.int .i64 (revokeE j.now ac.h ac.b),g 7,g 8,g 9,g 10,g 11,g 12,g 13,g 14,g 15,g 16,g 17,g 18,g 19,g 20,g 21,g 22,g 23,g 24,g 25,g 26,g 27,g 28,g 29,g 30,g 31,g 32,g 33,g 34,g 35,g 36,g 37,g 38,g 39,g 40,g 41,g 42,g 43],[]⟩ l:=by
  intro g l T Z U Q R S c p s i A7 A6;apply B3;clear B3;have C7:=zaa (p.ext (Ext.lessL T));have F9:=zaa s;have KT:=zaa i;have B7:=zaa (d.o.below A6);have B9:=zaa (zae m.o A6);have C3:=zaa (zad A6 (show w.heap.size+1<D.heap.size by omega) L.o);have C0:=zaa (zad A6 C6 C9.o);have I8:D.heap.size≤l.heap.size:=A6.size;have H8:T<l.heap.size:=(Array.getElem?_eq_some_iff.1 i).1;clear p s i A6 d m L C9;obtain⟨t,ht⟩:∃t,t=zag j.now ac.h ac.b:=⟨_,rfl⟩;rw[←ht]at C7 F9 KT;have A5:w.heap.size+1≠B:=by omega
  by_cases he:revokeE j.now ac.h ac.b=0
  ·obtain⟨H7,H9⟩:=zrr he;obtain⟨J,C4⟩:∃J:Nat,ac.b=(J:Int):=⟨ac.b.toNat,by omega⟩;have B1:J<12:=by omega
   have HW:Hid (ze0 j ac=if j.role J=0 then(j,zat 8) else({j with role:=upd j.role J 0,freed:=upd j.freed J t.seq,now:=t},zat 0)):=by
    rw[Hid,ze0,if_pos he,←ht,C4,Int.toNat_natCast]
   rw[he];rw[C4]at C0;clear he ht C4 H7 H9;obtain⟨⟨y0,y1,y2,y3,y4⟩,yf⟩:=zhn C0.o;have I1:(0:Int)≤(J:Int):=by omega
   have I2:(J:Int)<12:=by omega
   go_wp2
   go_quiet (fail)
   obtain⟨W5,B6⟩:∃W5,W5=l.drewN nq:=⟨_,rfl⟩;have u:Below l.heap.size l W5:=by rw[B6];exact below_drewN (Below.refl _ _) _
   have B2:=zaa (B7.o.below u);have B8:Hid (ButL [B] w.heap.size w W5):=ButL.of_below (zae B9.o u);have D2:=zaa (zad u (show w.heap.size+1<l.heap.size by omega) C3.o);have E4:=zaa (zad u H8 KT.o);have B5:=zaa (C7.o.ext (Ext.freshL u));have I9:l.heap.size≤W5.heap.size:=u.size;rw[←B6];clear B6 u y0 y1 y2 y3 y4 yf B7 B9 C3 KT C7 C0;obtain⟨E6,G3,H2,H4⟩:=B2.o.role J B1;by_cases hro:j.role J=0
   ·have HE:Hid (ze0 j ac=(j,zat 8)):=by rw[Hid,HW.o,if_pos hro]
    rw[hro]at E6;clear hro HW;go_wp2_with fail;have D3:=B2;have A9:=B8;have KR:=D2;have C1:w.heap.size+1<W5.heap.size:=by omega
    refine(zau 8 _).mono ?_;rintro e w2 ⟨rfl,K⟩;have L:=zaa (zad K C1 KR.o);have d:=zaa (D3.o.below K);have m:=zaa (A9.o.trans (Y:=[]) (ButL.of_below K) A9.o.size (by simp));clear K;obtain⟨⟨y0,y1,y2⟩,yf⟩:=zbl L.o;go_wp2;exact zbg HE.o L.o d.o m.o A5 A8 fun W u0 u1 u2=>by simp[results,results84,go_sem,u0,u1,u2]
   ·have HE:Hid (ze0 j ac=({j with role:=upd j.role J 0,freed:=upd j.freed J t.seq,now:=t},zat 0)):=by rw[Hid,HW.o,if_neg hro]
    have I3:(j.role J==0)=false:=by simpa using hro
    clear hro HW;obtain⟨⟨t0,t1,t2,t3,t4,t5,t6,t7,t8,t9⟩,tf⟩:=zaj E4.o;have I6:¬T=B:=by omega
    have J1:¬B=T:=by omega
    go_wp2_with fail;obtain⟨W6,z⟩:∃W6,W6=(W5.setCell ⟨B,7+J*2,none⟩ (.int .i64 0)).setCell ⟨B,7+J*2+1,none⟩ (.int .i64 t.seq):=⟨_,rfl⟩;have E7:Hid (JAt W6 B ((w.heap.size+1)::X) {j with role:=upd j.role J 0,freed:=upd j.freed J t.seq}):=by rw[z,show 7+J*2+1=8+J*2 by omega];exact(B2.o.putRole J B1 0).putFreed J B1 t.seq
    have B4:Hid (IsTx (zas W6 ((w.heap.size+1)::X)) (.agg #[.int .i64 t.seq,.slice Z t.info.length U,.slice Q t.data.length R,.slice S t.rev.length c,.bool t.h0.on,.int .i64 t.h0.left,.bool t.h1.on,.int .i64 t.h1.left,.bool t.h2.on,.int .i64 t.h2.left]) t):=by rw[z];exact(B5.o.ext (Ext.setL (by simp[A8]) _ _)).ext (Ext.setL (by simp[A8]) _ _)
    have C5:Hid (ButL [B] w.heap.size w W6):=by rw[z];exact(B8.o.set (.inl (by simp)) _ _).set (.inl (by simp)) _ _
    have D8:Hid (W6.heap[w.heap.size+1]?=some (.cells #[.int .i64 0,.int .i64 0,.string ⟨#[]⟩] 31 (0,0))):=by rw[z];exact(Below.heap_setCell _ _ _ _ A5).trans ((Below.heap_setCell _ _ _ _ A5).trans D2.o)
    have I4:W6.heap.size=W5.heap.size:=by rw[z];simp[World.setCell]
    rw[←z];clear z E6 H2 G3 H4 t0 t1 t2 t3 t4 t5 t6 t7 t8 t9 tf B2 B5 B8 D2 E4;refine(zjj B ((w.heap.size+1)::X) _ W6 E7.o t Z U Q R S c B4.o F9.o 0).mono ?_;rintro e w2 ⟨rfl,E3,C2⟩;have d:Hid (JAt w2 B ((w.heap.size+1)::X) {j with role:=upd j.role J 0,freed:=upd j.freed J t.seq,now:=t}):=E3;have m:=zaa (C5.o.trans (Y:=[B]) C2 C5.o.size (by simp));have L:=zaa ((C2.block _ (show w.heap.size+1<W6.heap.size by omega) (by simpa using A5)).trans D8.o);clear E3 C2 E7 C5 D8 B4;dsimp only[zm1,vRp,zat];obtain⟨⟨y0,y1,y2⟩,yf⟩:=zbl L.o;go_wp2;exact zbg HE.o L.o d.o m.o A5 A8 fun W u0 u1 u2=>by simp[results,results84,go_sem,u0,u1,u2]
  ·have HE:Hid (ze0 j ac=(j,zat (revokeE j.now ac.h ac.b))):=by rw[Hid,ze0,if_neg he]
   have I5:(revokeE j.now ac.h ac.b !=0)=true:=by simpa using he
   clear he ht;generalize revokeE j.now ac.h ac.b=E at *;go_wp2_with fail;have D3:=B7;have A9:Hid (ButL [B] w.heap.size w l):=ButL.of_below B9.o;have KR:=C3;have C1:w.heap.size+1<l.heap.size:=by omega
   refine(zau E _).mono ?_;rintro e w2 ⟨rfl,K⟩;have L:=zaa (zad K C1 KR.o);have d:=zaa (D3.o.below K);have m:=zaa (A9.o.trans (Y:=[]) (ButL.of_below K) A9.o.size (by simp));clear K;obtain⟨⟨y0,y1,y2⟩,yf⟩:=zbl L.o;go_wp2;exact zbg HE.o L.o d.o m.o A5 A8 fun W u0 u1 u2=>by simp[results,results84,go_sem,u0,u1,u2]
 have D4:=zaa D1;clear D1 B3;obtain⟨_,da,dc,db,dd,na,nc,nb,nd,ne,nf,sa,sc,sb,sd,se,sf,ca,cc,fa,fc,ta,tc,h1,hr⟩:=id d.o;have F4:D.cell? ⟨B,31,none⟩=some (.int .i64 j.now.seq):=zak h1 31;have F0:D.cell? ⟨B,32,none⟩=some (.slice na j.now.info.length nc):=zak h1 32;have D7:D.cell? ⟨B,33,none⟩=some (.slice nb j.now.data.length nd):=zak h1 33;have E2:D.cell? ⟨B,34,none⟩=some (.slice ne j.now.rev.length nf):=zak h1 34;have F1:D.cell? ⟨B,35,none⟩=some (.bool j.now.h0.on):=zak h1 35;have E8:D.cell? ⟨B,36,none⟩=some (.int .i64 j.now.h0.left):=zak h1 36;have E9:D.cell? ⟨B,37,none⟩=some (.bool j.now.h1.on):=zak h1 37;have G0:D.cell? ⟨B,38,none⟩=some (.int .i64 j.now.h1.left):=zak h1 38;have D9:D.cell? ⟨B,39,none⟩=some (.bool j.now.h2.on):=zak h1 39;have E1:D.cell? ⟨B,40,none⟩=some (.int .i64 j.now.h2.left):=zak h1 40;have G8:=zaa F4;have H1:=zaa F0;have G2:=zaa D7;have H5:=zaa E2;have G9:=zaa F1;have H3:=zaa E8;have G7:=zaa E9;have G4:=zaa G0;have G1:=zaa D9;have H0:=zaa E1;have F2:=zaa hr.2.1;have G5:=zaa hr.2.2.2.2.2.2.1;clear h1 hr F4 F0 D7 E2 F1 E8 E9 G0 D9 E1;obtain⟨⟨y0,y1,y2,y3,y4⟩,_⟩:=zhn C9.o;have A0:=zaa y0;have A1:=zaa y1;have A2:=zaa y2;have A3:=zaa y3;have A4:=zaa y4;clear y0 y1 y2 y3 y4;refine(show∀A0:Act,A0=_→Code.wp prog _ _ A0 _ from fun A0 hA0=>?_) _ rfl;have I:A0.tmps.size=44:=by rw[hA0];rfl
 have H6:A0.defers=[]:=by rw[hA0]
 have v0:A0.eval (.tmp 0)=.pointer (some ⟨B,0,none⟩):=by rw[hA0];rfl
 have v3:A0.eval (.tmp 3)=.pointer (some ⟨w.heap.size,0,none⟩):=by rw[hA0];rfl
 have v4:A0.eval (.tmp 4)=.pointer (some ⟨w.heap.size+1,0,none⟩):=by rw[hA0];rfl
 have v5:A0.eval (.tmp 5)=undef:=by rw[hA0];rfl
 clear hA0;refine zdb 14 5 (zmi D) [9,10,11,12,13,14,15,16,17,8,18,19,5,5] (zhh B w.heap.size j ac ((w.heap.size+1)::X) na nc nb nd ne nf) (by kernel_rfl) (by kernel_rfl) (by kernel_rfl) (by kernel_rfl) (by decide) (⟨(Below.refl _ _).drew,.inl v5⟩) ⟨?_,?_,?_,?_,?_,?_,?_,?_,?_,?_,?_,?_,?_,?_,trivial⟩ ?_
 ·intro a w' C A F;have z0:=(C.other 0 rfl).trans v0;exact zby _ rfl rfl (by revert z0;generalize a.eval=ρ;intro z0;simp only[execOp];go_simp) C I A rfl
 ·intro a w' C A F;have p9:a.eval (.tmp 9)=.pointer (some ⟨B,0,none⟩):=F ⟨0,.data⟩ (by simp) rfl;exact zby _ rfl rfl (by revert p9;generalize a.eval=ρ;intro p9;simp only[execOp];go_simp) C I A rfl
 ·intro a w' C A F;have F5:a.eval (.tmp 10)=.pointer (some ⟨B,0,none⟩):=F ⟨1,.data⟩ (by simp) rfl;exact zby _ rfl rfl (by revert F5;generalize a.eval=ρ;intro F5;simp only[execOp];go_simp) C I A rfl
 ·intro a w' C A F;have D5:a.eval (.tmp 11)=.pointer (some ⟨B,31,none⟩):=F ⟨2,.data⟩ (by simp) rfl;have c0:w'.cell? ⟨B,31,none⟩=some (.int .i64 j.now.seq):=zac A.1 O G8.o;have c1:w'.cell? ⟨B,32,none⟩=some (.slice na j.now.info.length nc):=zac A.1 O H1.o;have c2:w'.cell? ⟨B,33,none⟩=some (.slice nb j.now.data.length nd):=zac A.1 O G2.o;have c3:w'.cell? ⟨B,34,none⟩=some (.slice ne j.now.rev.length nf):=zac A.1 O H5.o;have c4:w'.cell? ⟨B,35,none⟩=some (.bool j.now.h0.on):=zac A.1 O G9.o;have c5:w'.cell? ⟨B,36,none⟩=some (.int .i64 j.now.h0.left):=zac A.1 O H3.o;have c6:w'.cell? ⟨B,37,none⟩=some (.bool j.now.h1.on):=zac A.1 O G7.o;have c7:w'.cell? ⟨B,38,none⟩=some (.int .i64 j.now.h1.left):=zac A.1 O G4.o;have c8:w'.cell? ⟨B,39,none⟩=some (.bool j.now.h2.on):=zac A.1 O G1.o;have c9:w'.cell? ⟨B,40,none⟩=some (.int .i64 j.now.h2.left):=zac A.1 O H0.o;exact zby _ rfl rfl (by revert D5;generalize a.eval=ρ;intro D5;simp only[execOp];go_simp) C I A rfl
 ·intro a w' C A F;have z3:=(C.other 3 rfl).trans v3;exact zby _ rfl rfl (by revert z3;generalize a.eval=ρ;intro z3;simp only[execOp];go_simp) C I A rfl
 ·intro a w' C A F;have F6:a.eval (.tmp 13)=.pointer (some ⟨w.heap.size,1,none⟩):=F ⟨4,.data⟩ (by simp) rfl;have c0:w'.cell? ⟨w.heap.size,1,none⟩=some (.int .i64 ac.h):=zac A.1 C6 A1.o;exact zby _ rfl rfl (by revert F6;generalize a.eval=ρ;intro F6;simp only[execOp];go_simp) C I A rfl
 ·intro a w' C A F;have z3:=(C.other 3 rfl).trans v3;exact zby _ rfl rfl (by revert z3;generalize a.eval=ρ;intro z3;simp only[execOp];go_simp) C I A rfl
 ·intro a w' C A F;have F3:a.eval (.tmp 15)=.pointer (some ⟨w.heap.size,2,none⟩):=F ⟨6,.data⟩ (by simp) rfl;have c0:w'.cell? ⟨w.heap.size,2,none⟩=some (.int .i64 ac.b):=zac A.1 C6 A2.o;exact zby _ rfl rfl (by revert F3;generalize a.eval=ρ;intro F3;simp only[execOp];go_simp) C I A rfl
 ·intro a w' C A F;have F7:a.eval (.tmp 12)=.agg #[.int .i64 j.now.seq,.slice na j.now.info.length nc,.slice nb j.now.data.length nd,.slice ne j.now.rev.length nf,.bool j.now.h0.on,.int .i64 j.now.h0.left,.bool j.now.h1.on,.int .i64 j.now.h1.left,.bool j.now.h2.on,.int .i64 j.now.h2.left]:=F ⟨3,.data⟩ (by simp) rfl;have E5:a.eval (.tmp 14)=.int .i64 ac.h:=F ⟨5,.data⟩ (by simp) rfl;have F8:a.eval (.tmp 16)=.int .i64 ac.b:=F ⟨7,.data⟩ (by simp) rfl;refine zbo 123 #[.agg #[.int .i64 j.now.seq,.slice na j.now.info.length nc,.slice nb j.now.data.length nd,.slice ne j.now.rev.length nf,.bool j.now.h0.on,.int .i64 j.now.h0.left,.bool j.now.h1.on,.int .i64 j.now.h1.left,.bool j.now.h2.on,.int .i64 j.now.h2.left],.int .i64 ac.h,.int .i64 ac.b] rfl rfl (by have pf:=Act.eval_func a 123;revert F7 E5 F8 pf;generalize a.eval=ρ;intro F7 E5 F8 pf;simp only[execOp];go_simp) _ (zrp _ j.now ac.h ac.b _ ((F2.o.ext (Ext.seenL D _)).below A.1) r1 r2) ?_;rintro e w2 ⟨N,rfl,C8,K,G6⟩;refine⟨_,rfl,_,rfl,?_,?_,?_⟩
  ·show zmi D ((a.put (some 17) _).eval (.tmp 5)) w2;rw[Act.eval_put_ne _ _ _ _ (by decide)];exact zfy A K
  ·show zhh _ _ _ _ _ _ _ _ _ _ _ _ ((a.put (some 17) _).eval (.tmp 17)) ((a.put (some 17) _).eval (.tmp 5)) w2;rw[zaq C I (by decide),Act.eval_put_ne _ _ _ _ (by decide)];exact⟨N,rfl,okTx.made I0.o F2.o G5.o A C8 K G6⟩
  ·intro r x hk h;show zhh _ _ _ _ _ _ _ _ _ _ _ r x ((a.put (some 17) _).eval (.tmp 5)) w2;rw[Act.eval_put_ne _ _ _ _ (by decide)];exact zud K r x h
 ·intro a w' C A F;obtain⟨N,pc,ok⟩:∃N,a.eval (.tmp 17)=.tuple #[N,.int .i64 (revokeE j.now ac.h ac.b)]∧okTx ((w.heap.size+1)::X) (zag j.now ac.h ac.b) N (a.eval (.tmp 5)) w':=F ⟨8,.data⟩ (by simp) rfl;refine zay (.tuple #[N,.int .i64 (revokeE j.now ac.h ac.b)]) rfl rfl (by revert pc;generalize a.eval=ρ;intro pc;simp only[execOp];go_simp) ⟨_,rfl,?_,?_,?_⟩
  ·show zmi D ((a.put (some 8) _).eval (.tmp 5)) w';rw[Act.eval_put_ne _ _ _ _ (by decide)];exact A
  ·show zhh _ _ _ _ _ _ _ _ _ _ _ _ ((a.put (some 8) _).eval (.tmp 8)) ((a.put (some 8) _).eval (.tmp 5)) w';rw[zaq C I (by decide),Act.eval_put_ne _ _ _ _ (by decide)];exact⟨N,rfl,ok⟩
  ·intro r x hk h;show zhh _ _ _ _ _ _ _ _ _ _ _ r x ((a.put (some 8) _).eval (.tmp 5)) w';rw[Act.eval_put_ne _ _ _ _ (by decide)];exact h
 ·intro a w' C A F;obtain⟨N,pm,ok⟩:∃N,a.eval (.tmp 8)=.tuple #[N,.int .i64 (revokeE j.now ac.h ac.b)]∧okTx ((w.heap.size+1)::X) (zag j.now ac.h ac.b) N (a.eval (.tmp 5)) w':=F ⟨9,.data⟩ (by simp) rfl;refine zay (N) rfl rfl (by revert pm;generalize a.eval=ρ;intro pm;simp only[execOp];go_simp) ⟨_,rfl,?_,?_,?_⟩
  ·show zmi D ((a.put (some 18) _).eval (.tmp 5)) w';rw[Act.eval_put_ne _ _ _ _ (by decide)];exact A
  ·show zhh _ _ _ _ _ _ _ _ _ _ _ _ ((a.put (some 18) _).eval (.tmp 18)) ((a.put (some 18) _).eval (.tmp 5)) w';rw[zaq C I (by decide),Act.eval_put_ne _ _ _ _ (by decide)];exact ok
  ·intro r x hk h;show zhh _ _ _ _ _ _ _ _ _ _ _ r x ((a.put (some 18) _).eval (.tmp 5)) w';rw[Act.eval_put_ne _ _ _ _ (by decide)];exact h
 ·intro a w' C A F;obtain⟨N,pm,ok⟩:∃N,a.eval (.tmp 8)=.tuple #[N,.int .i64 (revokeE j.now ac.h ac.b)]∧okTx ((w.heap.size+1)::X) (zag j.now ac.h ac.b) N (a.eval (.tmp 5)) w':=F ⟨9,.data⟩ (by simp) rfl;exact zby _ rfl rfl (by revert pm;generalize a.eval=ρ;intro pm;simp only[execOp];go_simp) C I A rfl
 ·intro a w' C A F;refine zfk (.pointer (some ⟨w'.heap.size,0,none⟩)) rfl rfl (w':=w'.alloc (.cells #[.int .i64 0,.slice none 0 0,.slice none 0 0,.slice none 0 0,.bool false,.int .i64 0,.bool false,.int .i64 0,.bool false,.int .i64 0] 40)) (by simp only[execOp];go_simp) ⟨_,rfl,?_,?_,?_⟩
  ·show zmi D ((a.put (some 5) _).eval (.tmp 5)) _;rw[zaq C I (by decide)];exact⟨A.1.alloc A.1.size _,.inr ⟨_,rfl,A.1.size,by simp,_,_,_,_,_,_,_,_,_,_,heap_alloc_new _ _⟩⟩
  ·show zhh _ _ _ _ _ _ _ _ _ _ _ _ ((a.put (some 5) _).eval (.tmp 5)) ((a.put (some 5) _).eval (.tmp 5)) _;rw[zaq C I (by decide)];exact⟨_,rfl⟩
  ·intro r x hk h;show zhh _ _ _ _ _ _ _ _ _ _ _ r x ((a.put (some 5) _).eval (.tmp 5)) _;rw[zaq C I (by decide)];exact zue _ r x h
 ·intro a w' C A F;obtain⟨T,M⟩:∃T,a.eval (.tmp 5)=.pointer (some ⟨T,0,none⟩):=F ⟨12,.data⟩ (by simp) rfl;have ok:okTx ((w.heap.size+1)::X) (zag j.now ac.h ac.b) (a.eval (.tmp 18)) (a.eval (.tmp 5)) w':=F ⟨10,.data⟩ (by simp) rfl
  obtain⟨A7,C8,c0,c1,c2,c3,c4,c5,c6,c7,c8,c9,i⟩:D.heap.size≤T∧T<w'.heap.size∧∃c0 c1 c2 c3 c4 c5 c6 c7 c8 c9,w'.heap[T]?=some (.cells #[c0,c1,c2,c3,c4,c5,c6,c7,c8,c9] 40 (0,0)):=by
   rcases A.2 with h0|⟨T',e,h3,h4,h5⟩
   ·rw[h0]at M;cases M
   ·rw[e]at M;cases M;exact⟨h3,h4,h5⟩
  have p:=ok.2.2 T M;have s:=ok.2.1;obtain⟨Z,U,Q,R,S,c,hv,_⟩:=id p;rw[hv]at p s;obtain⟨⟨t0,t1,t2,t3,t4,t5,t6,t7,t8,t9⟩,tf⟩:=zaj i;refine zce rfl rfl (w':=((((((((((w'.setCell ⟨T,0,none⟩ (.int .i64 (zag j.now ac.h ac.b).seq)).setCell ⟨T,1,none⟩ (.slice Z (zag j.now ac.h ac.b).info.length U)).setCell ⟨T,2,none⟩ (.slice Q (zag j.now ac.h ac.b).data.length R)).setCell ⟨T,3,none⟩ (.slice S (zag j.now ac.h ac.b).rev.length c)).setCell ⟨T,4,none⟩ (.bool (zag j.now ac.h ac.b).h0.on)).setCell ⟨T,5,none⟩ (.int .i64 (zag j.now ac.h ac.b).h0.left)).setCell ⟨T,6,none⟩ (.bool (zag j.now ac.h ac.b).h1.on)).setCell ⟨T,7,none⟩ (.int .i64 (zag j.now ac.h ac.b).h1.left)).setCell ⟨T,8,none⟩ (.bool (zag j.now ac.h ac.b).h2.on)).setCell ⟨T,9,none⟩ (.int .i64 (zag j.now ac.h ac.b).h2.left))) (by revert M hv;generalize a.eval=ρ;intro M hv;simp only[execOp];go_simp) ⟨_,rfl,?_,?_,?_⟩
  ·show zmi D (a.eval (.tmp 5)) _;exact⟨Below.set10 A.1 A7 _ _ _ _ _ _ _ _ _ _,.inr ⟨T,M,A7,by simpa[World.setCell] using C8,_,_,_,_,_,_,_,_,_,_,zh3 i _ _ _ _ _ _ _ _ _ _⟩⟩
  ·show zhh _ _ _ _ _ _ _ _ _ _ _ _ (a.eval (.tmp 5)) (a.eval (.tmp 5)) _;exact⟨T,Z,U,Q,R,S,c,M,zh3 i _ _ _ _ _ _ _ _ _ _,p.ext (zph (by simp) w' _ _ _ _ _ _ _ _ _ _),s⟩
  ·intro r x hk h;show zhh _ _ _ _ _ _ _ _ _ _ _ r x (a.eval (.tmp 5)) _;rw[M]at h⊢;exact zuf (fun t x h=>h.store _ _ _ _ _ _ _ _ _ _) r x hk h
 ·intro a W C A F;obtain⟨T,Z,U,Q,R,S,c,M,i,p,s⟩:∃T Z U Q R S c,a.eval (.tmp 5)=.pointer (some ⟨T,0,none⟩)∧W.heap[T]?=some (.cells #[.int .i64 (zag j.now ac.h ac.b).seq,.slice Z (zag j.now ac.h ac.b).info.length U,.slice Q (zag j.now ac.h ac.b).data.length R,.slice S (zag j.now ac.h ac.b).rev.length c,.bool (zag j.now ac.h ac.b).h0.on,.int .i64 (zag j.now ac.h ac.b).h0.left,.bool (zag j.now ac.h ac.b).h1.on,.int .i64 (zag j.now ac.h ac.b).h1.left,.bool (zag j.now ac.h ac.b).h2.on,.int .i64 (zag j.now ac.h ac.b).h2.left] 40 (0,0))∧IsTx (zas W (T::(w.heap.size+1)::X)) (.agg #[.int .i64 (zag j.now ac.h ac.b).seq,.slice Z (zag j.now ac.h ac.b).info.length U,.slice Q (zag j.now ac.h ac.b).data.length R,.slice S (zag j.now ac.h ac.b).rev.length c,.bool (zag j.now ac.h ac.b).h0.on,.int .i64 (zag j.now ac.h ac.b).h0.left,.bool (zag j.now ac.h ac.b).h1.on,.int .i64 (zag j.now ac.h ac.b).h1.left,.bool (zag j.now ac.h ac.b).h2.on,.int .i64 (zag j.now ac.h ac.b).h2.left]) (zag j.now ac.h ac.b)∧RoomTx (.agg #[.int .i64 (zag j.now ac.h ac.b).seq,.slice Z (zag j.now ac.h ac.b).info.length U,.slice Q (zag j.now ac.h ac.b).data.length R,.slice S (zag j.now ac.h ac.b).rev.length c,.bool (zag j.now ac.h ac.b).h0.on,.int .i64 (zag j.now ac.h ac.b).h0.left,.bool (zag j.now ac.h ac.b).h1.on,.int .i64 (zag j.now ac.h ac.b).h1.left,.bool (zag j.now ac.h ac.b).h2.on,.int .i64 (zag j.now ac.h ac.b).h2.left]):=F 13 (by decide);have pE:a.eval (.tmp 19)=.int .i64 (revokeE j.now ac.h ac.b):=F 11 (by decide)
  have A7:D.heap.size≤T:=by
   rcases A.2 with h0|⟨T',e,h3,h4,h5⟩
   ·rw[h0]at M;cases M
   ·rw[e]at M;cases M;exact h3
  show wpOps prog _ _ [14] a W;rw[wpOps_cons];refine zay (.int .i64 (revokeE j.now ac.h ac.b)) rfl rfl (by revert pE;generalize a.eval=ρ;intro pE;simp only[execOp];go_simp) ?_;have E0:a.tmps.size=44:=C.size.trans I;obtain⟨a2,q⟩:∃a2,a2=a.put (some 6) (.int .i64 (revokeE j.now ac.h ac.b)):=⟨_,rfl⟩;have f6:a2.eval (.tmp 6)=.int .i64 (revokeE j.now ac.h ac.b):=by rw[q];exact Act.eval_put_same _ _ _ (by rw[E0];decide)
  have f0:a2.eval (.tmp 0)=.pointer (some ⟨B,0,none⟩):=by rw[q,Act.eval_put_ne _ _ _ _ (by decide)];exact(C.other 0 rfl).trans v0
  have f3:a2.eval (.tmp 3)=.pointer (some ⟨w.heap.size,0,none⟩):=by rw[q,Act.eval_put_ne _ _ _ _ (by decide)];exact(C.other 3 rfl).trans v3
  have f4:a2.eval (.tmp 4)=.pointer (some ⟨w.heap.size+1,0,none⟩):=by rw[q,Act.eval_put_ne _ _ _ _ (by decide)];exact(C.other 4 rfl).trans v4
  have f5:a2.eval (.tmp 5)=.pointer (some ⟨T,0,none⟩):=by rw[q,Act.eval_put_ne _ _ _ _ (by decide)];exact M
  have B0:a2=⟨#[_,_,_,_,_,_,_,_,_,_,_,_,_,_,_,_,_,_,_,_,_,_,_,_,_,_,_,_,_,_,_,_,_,_,_,_,_,_,_,_,_,_,_,_],[]⟩:=zb9 a2 44 (by rw[q,Act.size_put];exact E0) (by rw[q,Act.defers_put'];exact C.defers.trans H6);dsimp only at B0;rw[f0,f3,f4,f5,f6]at B0;show KK (a.put (some 6) (.int .i64 (revokeE j.now ac.h ac.b))) _;rw[←q];exact(congrArg (fun x=>KK x _) B0).mpr (D4.o (fun k=>a2.eval (.tmp k)) _ T Z U Q R S c p s i A7 A.1)
def zvg (j:Jn)(d2:Dk)(B:Nat)(e1:Option Addr)(e2:Nat)(e3:Option Addr)(e4:Nat):Nat→Value→World→Prop
 |0,v,_=>v=.pointer (some ⟨B,0,none⟩)
 |1,v,_=>v=.pointer (some ⟨B,0,none⟩)
 |2,v,_=>v=.pointer (some ⟨B,0,none⟩)
 |3,v,_=>v=.pointer (some ⟨B,0,none⟩)
 |4,v,_=>v=.int .i64 j.acts
 |5,v,_=>v=.agg #[.slice e1 d2.safe.length e2,.slice e3 d2.wr.length e4]
 |6,v,_=>v=.pointer (some ⟨B,0,none⟩)
 |7,v,_=>v=.pointer (some ⟨B,0,none⟩)
 |8,v,_=>v=.pointer (some ⟨B,5,none⟩)
 |9,v,_=>v=.int .i64 j.last
 |10,v,_=>v=.agg #[.int .i64 j.acts,.slice e1 d2.safe.length e2,.slice e3 d2.wr.length e4,.int .i64 0,.int .i64 0,.int .i64 j.last,.bool true,.int .i64 0,.int .i64 0,.int .i64 0,.int .i64 0,.int .i64 0,.int .i64 0,.int .i64 0,.int .i64 0,.int .i64 0,.int .i64 0,.int .i64 0,.int .i64 0,.int .i64 0,.int .i64 0,.int .i64 0,.int .i64 0,.int .i64 0,.int .i64 0,.int .i64 0,.int .i64 0,.int .i64 0,.int .i64 0,.int .i64 0,.int .i64 0,.int .i64 0,.slice none 0 0,.slice none 0 0,.slice none 0 0,.bool false,.int .i64 0,.bool false,.int .i64 0,.bool false,.int .i64 0,.int .i64 0,.slice none 0 0,.slice none 0 0,.slice none 0 0,.bool false,.int .i64 0,.bool false,.int .i64 0,.bool false,.int .i64 0,.slice none 0 0,.slice none 0 0,.int .i64 0,.int .i64 0,.int .i64 0,.slice none 0 0]
 |11,v,_=>v=.pointer (some ⟨B,0,none⟩)
 |_,_,_=>True
theorem zis(j:Jn)(d2:Dk)(e1:Option Addr)(e2:Nat)(e3:Option Addr)(e4:Nat):#[.int .i64 j.acts,.slice e1 d2.safe.length e2,.slice e3 d2.wr.length e4,.int .i64 0,.int .i64 0,.int .i64 j.last,.bool true,.int .i64 0,.int .i64 0,.int .i64 0,.int .i64 0,.int .i64 0,.int .i64 0,.int .i64 0,.int .i64 0,.int .i64 0,.int .i64 0,.int .i64 0,.int .i64 0,.int .i64 0,.int .i64 0,.int .i64 0,.int .i64 0,.int .i64 0,.int .i64 0,.int .i64 0,.int .i64 0,.int .i64 0,.int .i64 0,.int .i64 0,.int .i64 0,.int .i64 0,.slice none 0 0,.slice none 0 0,.slice none 0 0,.bool false,.int .i64 0,.bool false,.int .i64 0,.bool false,.int .i64 0,.int .i64 0,.slice none 0 0,.slice none 0 0,.slice none 0 0,.bool false,.int .i64 0,.bool false,.int .i64 0,.bool false,.int .i64 0,.slice none 0 0,.slice none 0 0,.int .i64 0,.int .i64 0,.int .i64 0,.slice none 0 0]=zbs (⟨j.acts,d2,0,0,j.last,true,fun _=>0,fun _=>0,zct 0,zct 0,[],[],0,0,0,[]⟩:Jn) e1 e2 e3 e4 none 0 none 0 none 0 none 0 none 0 none 0 none 0 none 0 none 0:=by kernel_rfl
theorem zx3(B:Nat)(X:List Nat)(j:Jn)(w:World)(h:JAt w B X j)(hX:∀x∈X,x<w.heap.size)(q:Int)(hq:q≤9223372036854775807):
  Calls prog 45 #[.pointer (some ⟨B,0,none⟩),.int .i64 q] w (zdg w B X (zg7 j q)):=by
 have HJ:=zaa h;have C4:=h.lt;have A3:=h.1;have HX:=zaa hX;have B1:Hid (JAt (w.alloc (.cells #[.int .i64 0,.int .i64 0,.string ⟨#[]⟩] 31)) B (w.heap.size::X) j):=h.more (zab _ _) (Nat.le_refl _);obtain⟨_,da,dc,db,dd,na,nc,nb,nd,ne,nf,sa,sc,sb,sd,se,sf,ca,cc,fa,fc,ta,tc,b,hr⟩:=h;have c1:w.cell? ⟨B,1,none⟩=some (.slice da j.disk.safe.length dc):=zak b 1;have c2:w.cell? ⟨B,2,none⟩=some (.slice db j.disk.wr.length dd):=zak b 2;have B2:=zaa (hr.1.ext (Ext.seenL w X));have B4:=zaa hr.1;clear b hr hX;go_enter func45,ntmps45;go_wp2_with fail;refine(zwp _ j.disk q _ (B2.o.below (zab _ _)) hq).mono ?_;rintro e Q ⟨v1,rfl,U,_,m,B0⟩;have y:=zaa (z4b m);have S:=zaa (B1.o.below m);have s:=zaa (zae (zab w (.cells #[.int .i64 0,.int .i64 0,.string ⟨#[]⟩] 31)) m)
 have A6:Hid (IsDk (zas Q (w.heap.size::X)) v1 (crashK j.disk q)):=by
  rcases B0 with e|l
  ·have hd:=B4.o.ext (Ext.newL s.o (Nat.le_refl _));rw[e];rw[e]at U;exact hd.asDisk U
  ·exact U.hideF l (fun x hx=>by
    rcases List.mem_cons.1 hx with rfl|hx
    ·simp
    ·have:=HX.o x hx;simp;omega)
 have A1:w.heap.size<Q.heap.size:=by have:=m.size;simp at this;omega
 clear c1 c2 B2 B4 B1 m B0;obtain⟨D,u⟩:∃D,D=crashK j.disk q:=⟨_,rfl⟩;rw[←u]at A6 U;by_cases he:crashE j.disk q=0
 ·have HE:Hid (zg7 j q=((⟨j.acts,D,0,0,j.last,true,fun _=>0,fun _=>0,zct 0,zct 0,[],[],0,0,0,[]⟩:Jn),zat 0)):=by rw[Hid,zg7,if_pos he,u]
  rw[he];clear he u;obtain⟨K,M,L,N,rfl,_,_,_,_⟩:=U;go_wp2;rename_i KK A2;obtain⟨C,O⟩:∃C,C=Q.alloc (.cells #[.slice K D.safe.length M,.slice L D.wr.length N] 46):=⟨_,rfl⟩;have A:Below Q.heap.size Q C:=by rw[O];exact zab _ _
  have c:=zaa (S.o.below A);have B7:=zaa (A6.o.ext (Ext.freshL A));have R:=zaa (zad A A1 y.o);have Z:=zaa (zae s.o A);have B8:w.heap.size<C.heap.size:=Nat.lt_of_lt_of_le A1 A.size;have KD:C.heap[Q.heap.size]?=some (.cells #[.slice K D.safe.length M,.slice L D.wr.length N] 46 (0,0)):=by rw[O];exact heap_alloc_new _ _
  obtain⟨⟨y0,y1⟩,_⟩:=zgo KD;have Y0:=zaa y0;have Y1:=zaa y1;rw[←O];clear O A y0 y1 KD S A6 y s;obtain⟨_,da,dc,db,dd,na,nc,nb,nd,ne,nf,sa,sc,sb,sd,se,sf,ca,cc,fa,fc,ta,tc,b,_⟩:=id c.o;have c0:C.cell? ⟨B,0,none⟩=some (.int .i64 j.acts):=zak b 0;have c5:C.cell? ⟨B,5,none⟩=some (.int .i64 j.last):=zak b 5;have C0:=zaa c0;have C5:=zaa c5;clear c0 c5
  have A5:∀(g:Nat→Value) (n:World),n=({C with drawn:=C.drawn+1}:World).setRow B #[.int .i64 j.acts,.slice K D.safe.length M,.slice L D.wr.length N,.int .i64 0,.int .i64 0,.int .i64 j.last,.bool true,.int .i64 0,.int .i64 0,.int .i64 0,.int .i64 0,.int .i64 0,.int .i64 0,.int .i64 0,.int .i64 0,.int .i64 0,.int .i64 0,.int .i64 0,.int .i64 0,.int .i64 0,.int .i64 0,.int .i64 0,.int .i64 0,.int .i64 0,.int .i64 0,.int .i64 0,.int .i64 0,.int .i64 0,.int .i64 0,.int .i64 0,.int .i64 0,.int .i64 0,.slice none 0 0,.slice none 0 0,.slice none 0 0,.bool false,.int .i64 0,.bool false,.int .i64 0,.bool false,.int .i64 0,.int .i64 0,.slice none 0 0,.slice none 0 0,.slice none 0 0,.bool false,.int .i64 0,.bool false,.int .i64 0,.bool false,.int .i64 0,.slice none 0 0,.slice none 0 0,.int .i64 0,.int .i64 0,.int .i64 0,.slice none 0 0]→KK ⟨#[.pointer (some ⟨B,0,none⟩),g 1,g 2,g 3,.pointer (some ⟨w.heap.size,0,none⟩),g 5,g 6,g 7,g 8,g 9,g 10,g 11,g 12,g 13,g 14,g 15,g 16,g 17,g 18,g 19,g 20,g 21,g 22,g 23,g 24,g 25,g 26,g 27,g 28,g 29,g 30,g 31,g 32],[]⟩ n:=by
   intro g n d;apply A2;clear A2;have A4:Below C.heap.size C {C with drawn:=C.drawn+1}:=(Below.refl _ _).drew
   have B3:Hid (JAt n B (w.heap.size::X) (⟨j.acts,D,0,0,j.last,true,fun _=>0,fun _=>0,zct 0,zct 0,[],[],0,0,0,[]⟩:Jn)):=by
    rw[d,zis];exact JAt.putAll (w:={C with drawn:=C.drawn+1}) (by simp[A3]) b _ _ _ _ _ _ _ _ _ _ _ _ _ _ _ _ _ _ _ _ _ _ ⟨B7.o.ext (Ext.freshL A4),zre _ _,zre _ _,.inl rfl,.inl rfl,.inl rfl,z3j _,Nat.le_refl _,Nat.le_refl _,Nat.le_refl _⟩
   have B5:Hid (ButL [B] w.heap.size w n):=by
    rw[d];exact(ButL.of_below (Z.o.trans (A4.mono Z.o.size))).setRow (.inl (by simp)) _
   have B6:Hid (n.heap[w.heap.size]?=some (.cells #[.int .i64 0,.int .i64 0,.string ⟨#[]⟩] 31 (0,0))):=by
    rw[d,setRow_other _ _ _ _ (by omega)];exact R.o
   have C2:w.heap.size<n.heap.size:=by rw[d];simpa[World.setRow] using B8
   have S:=B3;have i:=B5;have KR:=B6;have A8:=C2;have A7:w.heap.size≠B:=by omega
   clear d A4 B3 B5 B6 b;go_wp2_with fail;refine(zau 0 _).mono ?_;rintro e w2 ⟨rfl,A⟩;have R:=zaa (zad A A8 KR.o);have c:=zaa (S.o.below A);have Z:=zaa (i.o.trans (Y:=[]) (ButL.of_below A) i.o.size (by simp));clear A;obtain⟨⟨y0,y1,y2⟩,yf⟩:=zbl R.o;go_wp2;exact zbg HE.o R.o c.o Z.o A7 A3 fun W u0 u1 u2=>by simp[results,results45,go_sem,u0,u1,u2]
  have A9:=zaa A5;clear A5 A2;refine(show∀A0:Act,A0=_→Code.wp prog _ _ A0 _ from fun A0 hA0=>?_) _ rfl;have F:A0.tmps.size=33:=by rw[hA0];rfl
  have C1:A0.defers=[]:=by rw[hA0]
  have v0:A0.eval (.tmp 0)=.pointer (some ⟨B,0,none⟩):=by rw[hA0];rfl
  have v4:A0.eval (.tmp 4)=.pointer (some ⟨w.heap.size,0,none⟩):=by rw[hA0];rfl
  have v5:A0.eval (.tmp 5)=.pointer (some ⟨Q.heap.size,0,none⟩):=by rw[hA0];rfl
  clear hA0;refine zbb 12 (fun J=>J={C with drawn:=C.drawn+1}) [20,21,22,23,24,25,26,27,28,29,30,31] (zvg j D B K M L N) (by kernel_rfl) (by kernel_rfl) (by kernel_rfl) (by kernel_rfl) (by decide) (rfl) ⟨?_,?_,?_,?_,?_,?_,?_,?_,?_,?_,?_,?_,trivial⟩ ?_
  ·exact zbd v0 F (fun _=>rfl) fun ρ J I z=>by simp only[execOp];go_simp
  ·exact zbd v0 F (fun _=>rfl) fun ρ J I z=>by simp only[execOp];go_simp
  ·exact zal 1 21 F (fun _ _ h=>h) (fun _=>rfl) fun ρ J I p=>by simp only[execOp];go_simp
  ·exact zal 2 22 F (fun _ _ h=>h) (fun _=>rfl) fun ρ J I p=>by simp only[execOp];go_simp
  ·exact zal 3 23 F (fun _ _ h=>h) (fun _=>rfl) fun ρ J I p=>by have c0:C.cell? ⟨B,0,none⟩=some (.int .i64 j.acts):=C0.o;simp only[execOp];go_simp
  ·exact zbd v5 F (fun _=>rfl) fun ρ J I z=>by have c0:C.cell? ⟨Q.heap.size,0,none⟩=some (.slice K D.safe.length M):=Y0.o;have c1:C.cell? ⟨Q.heap.size,1,none⟩=some (.slice L D.wr.length N):=Y1.o;simp only[execOp];go_simp
  ·exact zbd v0 F (fun _=>rfl) fun ρ J I z=>by simp only[execOp];go_simp
  ·exact zal 6 26 F (fun _ _ h=>h) (fun _=>rfl) fun ρ J I p=>by simp only[execOp];go_simp
  ·exact zal 7 27 F (fun _ _ h=>h) (fun _=>rfl) fun ρ J I p=>by simp only[execOp];go_simp
  ·exact zal 8 28 F (fun _ _ h=>h) (fun _=>rfl) fun ρ J I p=>by have c0:C.cell? ⟨B,5,none⟩=some (.int .i64 j.last):=C5.o;simp only[execOp];go_simp
  ·intro a J l I hp;have B9:a.eval (.tmp 24)=.int .i64 j.acts:=hp ⟨4,.data⟩ (by simp) rfl;have p25:a.eval (.tmp 25)=.agg #[.slice K D.safe.length M,.slice L D.wr.length N]:=hp ⟨5,.data⟩ (by simp) rfl;have p29:a.eval (.tmp 29)=.int .i64 j.last:=hp ⟨9,.data⟩ (by simp) rfl;refine z3i 93 _ [(0,.int .i64 j.acts),(1,.agg #[.slice K D.safe.length M,.slice L D.wr.length N]),(3,.int .i64 j.last),(4,.bool true)] #[.int .i64 j.acts,.slice K D.safe.length M,.slice L D.wr.length N,.int .i64 0,.int .i64 0,.int .i64 j.last,.bool true,.int .i64 0,.int .i64 0,.int .i64 0,.int .i64 0,.int .i64 0,.int .i64 0,.int .i64 0,.int .i64 0,.int .i64 0,.int .i64 0,.int .i64 0,.int .i64 0,.int .i64 0,.int .i64 0,.int .i64 0,.int .i64 0,.int .i64 0,.int .i64 0,.int .i64 0,.int .i64 0,.int .i64 0,.int .i64 0,.int .i64 0,.int .i64 0,.int .i64 0,.slice none 0 0,.slice none 0 0,.slice none 0 0,.bool false,.int .i64 0,.bool false,.int .i64 0,.bool false,.int .i64 0,.int .i64 0,.slice none 0 0,.slice none 0 0,.slice none 0 0,.bool false,.int .i64 0,.bool false,.int .i64 0,.bool false,.int .i64 0,.slice none 0 0,.slice none 0 0,.int .i64 0,.int .i64 0,.int .i64 0,.slice none 0 0] rfl rfl rfl ?_ (by kernel_rfl) ⟨_,rfl,I,?_,fun _ _ _ h=>h⟩
   ·simp[B9,p25,p29,Act.eval_const]
   ·show zvg _ _ _ _ _ _ _ _ ((a.put (some 30) _).eval (.tmp 30)) J;rw[zaq l F (by decide)];exact rfl
  ·exact zal 0 20 F (fun _ _ h=>h) (fun _=>rfl) fun ρ J I p=>by simp only[execOp];go_simp
  ·intro a W l I hp;have p30:a.eval (.tmp 30)=.agg #[.int .i64 j.acts,.slice K D.safe.length M,.slice L D.wr.length N,.int .i64 0,.int .i64 0,.int .i64 j.last,.bool true,.int .i64 0,.int .i64 0,.int .i64 0,.int .i64 0,.int .i64 0,.int .i64 0,.int .i64 0,.int .i64 0,.int .i64 0,.int .i64 0,.int .i64 0,.int .i64 0,.int .i64 0,.int .i64 0,.int .i64 0,.int .i64 0,.int .i64 0,.int .i64 0,.int .i64 0,.int .i64 0,.int .i64 0,.int .i64 0,.int .i64 0,.int .i64 0,.int .i64 0,.slice none 0 0,.slice none 0 0,.slice none 0 0,.bool false,.int .i64 0,.bool false,.int .i64 0,.bool false,.int .i64 0,.int .i64 0,.slice none 0 0,.slice none 0 0,.slice none 0 0,.bool false,.int .i64 0,.bool false,.int .i64 0,.bool false,.int .i64 0,.slice none 0 0,.slice none 0 0,.int .i64 0,.int .i64 0,.int .i64 0,.slice none 0 0]:=hp 10 (by decide);have p31:a.eval (.tmp 31)=.pointer (some ⟨B,0,none⟩):=hp 11 (by decide);show wpOps prog _ _ [12] a W;rw[wpOps_cons];refine zko 93 (.tmp 31) (.tmp 30) B #[.int .i64 j.acts,.slice K D.safe.length M,.slice L D.wr.length N,.int .i64 0,.int .i64 0,.int .i64 j.last,.bool true,.int .i64 0,.int .i64 0,.int .i64 0,.int .i64 0,.int .i64 0,.int .i64 0,.int .i64 0,.int .i64 0,.int .i64 0,.int .i64 0,.int .i64 0,.int .i64 0,.int .i64 0,.int .i64 0,.int .i64 0,.int .i64 0,.int .i64 0,.int .i64 0,.int .i64 0,.int .i64 0,.int .i64 0,.int .i64 0,.int .i64 0,.int .i64 0,.int .i64 0,.slice none 0 0,.slice none 0 0,.slice none 0 0,.bool false,.int .i64 0,.bool false,.int .i64 0,.bool false,.int .i64 0,.int .i64 0,.slice none 0 0,.slice none 0 0,.slice none 0 0,.bool false,.int .i64 0,.bool false,.int .i64 0,.bool false,.int .i64 0,.slice none 0 0,.slice none 0 0,.int .i64 0,.int .i64 0,.int .i64 0,.slice none 0 0] rfl rfl rfl p31 p30 93 (zbs j da dc db dd na nc nb nd ne nf sa sc sb sd se sf ca cc fa fc ta tc) (by rw[I];exact b) (by rw[zis];exact z3k _ _ _ _ _ _ _ _ _ _ _ _ _ _ _ _ _ _ _ _ _ _ _) (by kernel_rfl) (by rw[zis];exact zh2 _ _ _ _ _ _ _ _ _ _ _ _ _ _ _ _ _ _ _ _ _ _ _) ?_
   have f0:=(l.other 0 rfl).trans v0;have f4:=(l.other 4 rfl).trans v4;have r:a=⟨#[_,_,_,_,_,_,_,_,_,_,_,_,_,_,_,_,_,_,_,_,_,_,_,_,_,_,_,_,_,_,_,_,_],[]⟩:=zb9 a 33 (l.size.trans F) (l.defers.trans C1);dsimp only at r;rw[f0,f4]at r;exact(congrArg (fun x=>KK x (W.setRow B #[.int .i64 j.acts,.slice K D.safe.length M,.slice L D.wr.length N,.int .i64 0,.int .i64 0,.int .i64 j.last,.bool true,.int .i64 0,.int .i64 0,.int .i64 0,.int .i64 0,.int .i64 0,.int .i64 0,.int .i64 0,.int .i64 0,.int .i64 0,.int .i64 0,.int .i64 0,.int .i64 0,.int .i64 0,.int .i64 0,.int .i64 0,.int .i64 0,.int .i64 0,.int .i64 0,.int .i64 0,.int .i64 0,.int .i64 0,.int .i64 0,.int .i64 0,.int .i64 0,.int .i64 0,.slice none 0 0,.slice none 0 0,.slice none 0 0,.bool false,.int .i64 0,.bool false,.int .i64 0,.bool false,.int .i64 0,.int .i64 0,.slice none 0 0,.slice none 0 0,.slice none 0 0,.bool false,.int .i64 0,.bool false,.int .i64 0,.bool false,.int .i64 0,.slice none 0 0,.slice none 0 0,.int .i64 0,.int .i64 0,.int .i64 0,.slice none 0 0])) r).mpr (A9.o (fun k=>a.eval (.tmp k)) _ (by rw[I]))
 ·have HE:Hid (zg7 j q=(j,zat (crashE j.disk q))):=by rw[Hid,zg7,if_neg he]
  have C3:(crashE j.disk q !=0)=true:=by simpa using he
  clear he u;generalize crashE j.disk q=E at *;obtain⟨K,M,L,N,rfl,_,_,_,_⟩:=U;go_wp2_with fail;obtain⟨C,O⟩:∃C,C=Q.alloc (.cells #[.slice K D.safe.length M,.slice L D.wr.length N] 46):=⟨_,rfl⟩;have A:Below Q.heap.size Q C:=by rw[O];exact zab _ _
  have KR:=zaa (zad A A1 y.o);have i:Hid (ButL [B] w.heap.size w C):=ButL.of_below (zae s.o A);have A8:w.heap.size<C.heap.size:=Nat.lt_of_lt_of_le A1 A.size;have A7:w.heap.size≠B:=by omega
  replace S:=zaa (S.o.below A)
  rw[←O];clear O A y;refine(zau E _).mono ?_;rintro e w2 ⟨rfl,A⟩;have R:=zaa (zad A A8 KR.o);have c:=zaa (S.o.below A);have Z:=zaa (i.o.trans (Y:=[]) (ButL.of_below A) i.o.size (by simp));clear A;obtain⟨⟨y0,y1,y2⟩,yf⟩:=zbl R.o;go_wp2;exact zbg HE.o R.o c.o Z.o A7 A3 fun W u0 u1 u2=>by simp[results,results45,go_sem,u0,u1,u2]
